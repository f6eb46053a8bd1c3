/- Two disks that are the same are told to be the same (laws.lpaDisk). Conditions: none. -/
import Derived.Test.YtifgoanicbaohaaPDGT2
namespace Go.Proofs.Ytifgoanicbaohaa
open Go.RowKit Go.Sort

set_option maxRecDepth 100000 in
set_option maxHeartbeats 1000000 in
theorem lpaTx_same (a b : Option Addr) (ca cb : Nat) (xs : List ByteArray) (w : World) (hl : xs.length ≤ maxLen) (ha : Hid (TxAt w a xs)) (hb : Hid (TxAt w b xs)) :
    Calls Try.prog 11 #[.slice a xs.length ca, .slice b xs.length cb] w fun e w' => e = .returned (.bool true) ∧ Below w.heap.size w w' := by
  unfold maxLen at hl
  have d0 : ((xs.length : Int) != (xs.length : Int)) = false := by simp
  go_enter Try.func11, Try.ntmps11
  go_wp2_with fail
  go_loopw [5] (fun i wr => ∃ k : Nat, i = .int .i64 (k : Int) ∧ k ≤ xs.length ∧ Below w.heap.size w wr) (fun i _ => xs.length - (intOf i).toNat)
  case atStart => exact ⟨0, rfl, by omega, Below.refl _ _⟩
  case round =>
    obtain ⟨k, rfl, hk, hB⟩ := hrel
    by_cases hlt : k < xs.length
    · obtain ⟨b1, o1, rfl, hc1⟩ := (ha.out.below hB).resolve_left (fun e => by subst e; simp at hlt)
      obtain ⟨b2, o2, rfl, hc2⟩ := (hb.out.below hB).resolve_left (fun e => by subst e; simp at hlt)
      have k1 := hc1 k hlt
      have k2 := hc2 k hlt
      clear hc1 hc2
      generalize xs.getD k ByteArray.empty = x at k1 k2
      have i1 : (k : Int) < (xs.length : Int) := by omega
      have i0 : (0 : Int) ≤ (k : Int) := by omega
      go_wp2
      go_quiet (fail)
      go_wp2
      exact ⟨⟨k + 1, by go_num, by omega, belowN hB nq⟩, by simp [intOf]; omega⟩
    · go_wp2
      go_ret
      exact ⟨rfl, hB⟩

set_option maxRecDepth 100000 in
set_option maxHeartbeats 2000000 in
theorem lpaDisk_same (v u : Value) (d : DiskD) (w : World) (hv : DiskV w v d) (hu : DiskV w u d) :
    Calls Try.prog 8 #[v, u] w fun e w' => e = .returned (.bool true) ∧ Below w.heap.size w w' := by
  obtain ⟨st, xs, ys, bs, ps⟩ := d
  obtain ⟨v1, v2, v3, v4, rfl, ⟨a1, c1, rfl, l1, m1, x1⟩, ⟨a2, c2, rfl, l2, m2, x2⟩, ⟨a3, c3, rfl, l3, m3, x3⟩, ⟨a4, c4, rfl, l4, m4, x4⟩⟩ := hv
  obtain ⟨u1, u2, u3, u4, rfl, ⟨b1, e1, rfl, _, _, y1⟩, ⟨b2, e2, rfl, _, _, y2⟩, ⟨b3, e3, rfl, _, _, y3⟩, ⟨b4, e4, rfl, _, _, y4⟩⟩ := hu
  simp only at x1 x2 x3 x4 y1 y2 y3 y4 l1 l2 l3 l4 ⊢
  have n1 : xs.length ≤ maxLen := by omega
  have n2 : ys.length ≤ maxLen := by omega
  have n3 : bs.length ≤ maxLen := by omega
  have n4 : ps.length ≤ maxLen := by omega
  have HB := Lib.hid (show Below w.heap.size w ((w.alloc (.cells #[.int .i64 st, .slice a1 xs.length c1, .slice a2 ys.length c2, .slice a3 bs.length c3, .slice a4 ps.length c4] 27)).alloc (.cells #[.int .i64 st, .slice b1 xs.length e1, .slice b2 ys.length e2, .slice b3 bs.length e3, .slice b4 ps.length e4] 27)) from ((Below.refl _ _).alloc (Nat.le_refl _) _).alloc (by simp) _)
  have KA := Lib.hid (show Blk ((w.alloc (.cells #[.int .i64 st, .slice a1 xs.length c1, .slice a2 ys.length c2, .slice a3 bs.length c3, .slice a4 ps.length c4] 27)).alloc (.cells #[.int .i64 st, .slice b1 xs.length e1, .slice b2 ys.length e2, .slice b3 bs.length e3, .slice b4 ps.length e4] 27)) w.heap.size #[.int .i64 st, .slice a1 xs.length c1, .slice a2 ys.length c2, .slice a3 bs.length c3, .slice a4 ps.length c4] 27 from (Blk.new w _ _).below (n := w.heap.size + 1) ((Below.refl _ _).alloc (by simp) _) (by omega))
  have KB := Lib.hid (show Blk ((w.alloc (.cells #[.int .i64 st, .slice a1 xs.length c1, .slice a2 ys.length c2, .slice a3 bs.length c3, .slice a4 ps.length c4] 27)).alloc (.cells #[.int .i64 st, .slice b1 xs.length e1, .slice b2 ys.length e2, .slice b3 bs.length e3, .slice b4 ps.length e4] 27)) (w.heap.size + 1) #[.int .i64 st, .slice b1 xs.length e1, .slice b2 ys.length e2, .slice b3 bs.length e3, .slice b4 ps.length e4] 27 by
    have := Blk.new (w.alloc (.cells #[.int .i64 st, .slice a1 xs.length c1, .slice a2 ys.length c2, .slice a3 bs.length c3, .slice a4 ps.length c4] 27)) #[.int .i64 st, .slice b1 xs.length e1, .slice b2 ys.length e2, .slice b3 bs.length e3, .slice b4 ps.length e4] 27
    rw [World.size_alloc] at this
    exact this)
  have H1 := Lib.hid (fun w' (h : Below w.heap.size w w') => lpaTx_same a1 b1 c1 e1 xs w' n1 (x1.below h) (y1.below h))
  have H2 := Lib.hid (fun w' (h : Below w.heap.size w w') => lpaTx_same a2 b2 c2 e2 ys w' n2 (x2.below h) (y2.below h))
  have X3 := Lib.hid x3
  have Y3 := Lib.hid y3
  have X4 := Lib.hid x4
  have Y4 := Lib.hid y4
  have e0 : (st != st) = false := by simp
  have z3 : ((bs.length : Int) != (bs.length : Int)) = false := by simp
  have z4 : ((ps.length : Int) != (ps.length : Int)) = false := by simp
  clear x1 x2 x3 x4 y1 y2 y3 y4 l1 l2 l3 l4 m1 m2 m3 m4 n1 n2
  unfold maxLen at n3 n4
  go_enter Try.func8, Try.ntmps8
  go_wp2_with fail
  generalize ((w.alloc (.cells #[.int .i64 st, .slice a1 xs.length c1, .slice a2 ys.length c2, .slice a3 bs.length c3, .slice a4 ps.length c4] 27)).alloc (.cells #[.int .i64 st, .slice b1 xs.length e1, .slice b2 ys.length e2, .slice b3 bs.length e3, .slice b4 ps.length e4] 27)) = W at HB KA KB ⊢
  refine (H1.out _ HB.out).mono ?_
  rintro e w1 ⟨rfl, hB1⟩
  have KA := Lib.hid (KA.out.below hB1 KA.out.lt)
  have KB := Lib.hid (KB.out.below hB1 KB.out.lt)
  have HB := Lib.hid (below_trans HB.out hB1 HB.out.size)
  clear hB1
  have p0 : w1.cell? ⟨w.heap.size, 0, none⟩ = some (.int .i64 st) := KA.out.cell 0
  have p1 : w1.cell? ⟨w.heap.size, 1, none⟩ = some (.slice a1 xs.length c1) := KA.out.cell 1
  have p2 : w1.cell? ⟨w.heap.size, 2, none⟩ = some (.slice a2 ys.length c2) := KA.out.cell 2
  have p3 : w1.cell? ⟨w.heap.size, 3, none⟩ = some (.slice a3 bs.length c3) := KA.out.cell 3
  have p4 : w1.cell? ⟨w.heap.size, 4, none⟩ = some (.slice a4 ps.length c4) := KA.out.cell 4
  have q0 : w1.cell? ⟨w.heap.size + 1, 0, none⟩ = some (.int .i64 st) := KB.out.cell 0
  have q1 : w1.cell? ⟨w.heap.size + 1, 1, none⟩ = some (.slice b1 xs.length e1) := KB.out.cell 1
  have q2 : w1.cell? ⟨w.heap.size + 1, 2, none⟩ = some (.slice b2 ys.length e2) := KB.out.cell 2
  have q3 : w1.cell? ⟨w.heap.size + 1, 3, none⟩ = some (.slice b3 bs.length e3) := KB.out.cell 3
  have q4 : w1.cell? ⟨w.heap.size + 1, 4, none⟩ = some (.slice b4 ps.length e4) := KB.out.cell 4
  go_wp2_with fail
  refine (H2.out _ HB.out).mono ?_
  rintro e w2 ⟨rfl, hB2⟩
  have KA := Lib.hid (KA.out.below hB2 KA.out.lt)
  have KB := Lib.hid (KB.out.below hB2 KB.out.lt)
  have HB := Lib.hid (below_trans HB.out hB2 HB.out.size)
  clear hB2 p0 p1 p2 p3 p4 q0 q1 q2 q3 q4
  have p0 : w2.cell? ⟨w.heap.size, 0, none⟩ = some (.int .i64 st) := KA.out.cell 0
  have p1 : w2.cell? ⟨w.heap.size, 1, none⟩ = some (.slice a1 xs.length c1) := KA.out.cell 1
  have p2 : w2.cell? ⟨w.heap.size, 2, none⟩ = some (.slice a2 ys.length c2) := KA.out.cell 2
  have p3 : w2.cell? ⟨w.heap.size, 3, none⟩ = some (.slice a3 bs.length c3) := KA.out.cell 3
  have p4 : w2.cell? ⟨w.heap.size, 4, none⟩ = some (.slice a4 ps.length c4) := KA.out.cell 4
  have q0 : w2.cell? ⟨w.heap.size + 1, 0, none⟩ = some (.int .i64 st) := KB.out.cell 0
  have q1 : w2.cell? ⟨w.heap.size + 1, 1, none⟩ = some (.slice b1 xs.length e1) := KB.out.cell 1
  have q2 : w2.cell? ⟨w.heap.size + 1, 2, none⟩ = some (.slice b2 ys.length e2) := KB.out.cell 2
  have q3 : w2.cell? ⟨w.heap.size + 1, 3, none⟩ = some (.slice b3 bs.length e3) := KB.out.cell 3
  have q4 : w2.cell? ⟨w.heap.size + 1, 4, none⟩ = some (.slice b4 ps.length e4) := KB.out.cell 4
  go_wp2_with fail
  go_loopw [5] (fun i wr => ∃ k : Nat, i = .int .i64 (k : Int) ∧ k ≤ bs.length ∧ Hid (Below w2.heap.size w2 wr)) (fun i _ => bs.length - (intOf i).toNat)
  case atStart => exact ⟨0, rfl, by omega, Below.refl _ _⟩
  case round =>
    obtain ⟨k, rfl, hk, hBr⟩ := hrel
    clear p0 p1 p2 p3 p4 q0 q1 q2 q3 q4
    have KA := Lib.hid (KA.out.below hBr.out KA.out.lt)
    have KB := Lib.hid (KB.out.below hBr.out KB.out.lt)
    have HB := Lib.hid (below_trans HB.out hBr.out HB.out.size)
    have p3 : wr.cell? ⟨w.heap.size, 3, none⟩ = some (.slice a3 bs.length c3) := KA.out.cell 3
    have p4 : wr.cell? ⟨w.heap.size, 4, none⟩ = some (.slice a4 ps.length c4) := KA.out.cell 4
    have q3 : wr.cell? ⟨w.heap.size + 1, 3, none⟩ = some (.slice b3 bs.length e3) := KB.out.cell 3
    have q4 : wr.cell? ⟨w.heap.size + 1, 4, none⟩ = some (.slice b4 ps.length e4) := KB.out.cell 4
    by_cases hlt : k < bs.length
    · obtain ⟨g1, o1, rfl, hc1⟩ := (X3.out.below HB.out).resolve_left (fun e => by subst e; simp at hlt)
      obtain ⟨g2, o2, rfl, hc2⟩ := (Y3.out.below HB.out).resolve_left (fun e => by subst e; simp at hlt)
      have k1 := hc1 k hlt
      have k2 := hc2 k hlt
      clear hc1 hc2
      generalize bs.getD k false = x at k1 k2
      have i1 : (k : Int) < (bs.length : Int) := by omega
      have i0 : (0 : Int) ≤ (k : Int) := by omega
      have xx : (x != x) = false := by simp
      go_wp2
      go_quiet (fail)
      go_wp2
      exact ⟨⟨k + 1, by go_num, by omega, belowN hBr.out _⟩, by simp [intOf]; omega⟩
    · obtain rfl : k = bs.length := by omega
      go_wp2_with fail
      go_loopw [6] (fun i wq => ∃ k : Nat, i = .int .i64 (k : Int) ∧ k ≤ ps.length ∧ Hid (Below wr.heap.size wr wq)) (fun i _ => ps.length - (intOf i).toNat)
      case atStart => exact ⟨0, rfl, by omega, Below.refl _ _⟩
      case round =>
        obtain ⟨m, rfl, hm, hBq⟩ := hrel
        clear p3 p4 q3 q4
        have KA := Lib.hid (KA.out.below hBq.out KA.out.lt)
        have KB := Lib.hid (KB.out.below hBq.out KB.out.lt)
        have HB := Lib.hid (below_trans HB.out hBq.out HB.out.size)
        have p3 : wr.cell? ⟨w.heap.size, 3, none⟩ = some (.slice a3 bs.length c3) := KA.out.cell 3
        have p4 : wr.cell? ⟨w.heap.size, 4, none⟩ = some (.slice a4 ps.length c4) := KA.out.cell 4
        have q3 : wr.cell? ⟨w.heap.size + 1, 3, none⟩ = some (.slice b3 bs.length e3) := KB.out.cell 3
        have q4 : wr.cell? ⟨w.heap.size + 1, 4, none⟩ = some (.slice b4 ps.length e4) := KB.out.cell 4
        by_cases hmt : m < ps.length
        · obtain ⟨g1, o1, rfl, hc1⟩ := (X4.out.below HB.out).resolve_left (fun e => by subst e; simp at hmt)
          obtain ⟨g2, o2, rfl, hc2⟩ := (Y4.out.below HB.out).resolve_left (fun e => by subst e; simp at hmt)
          obtain ⟨r0, r1, r2⟩ := hc1 m hmt
          obtain ⟨s0, s1, s2⟩ := hc2 m hmt
          clear hc1 hc2
          generalize ps.getD m put0 = x at r0 r1 r2 s0 s1 s2
          have i1 : (m : Int) < (ps.length : Int) := by omega
          have i0 : (0 : Int) ≤ (m : Int) := by omega
          go_wp2
          go_quiet (fail)
          go_wp2
          exact ⟨⟨m + 1, by go_num, by omega, belowN hBq.out _⟩, by simp [intOf]; omega⟩
        · go_wp2
          go_ret
          exact ⟨rfl, HB.out⟩

end Go.Proofs.Ytifgoanicbaohaa

/- The exact laws' own helpers for disks: sizes and comparisons. Conditions: none but the row's own bound on sizes. -/
import Derived.Test.YtcdiengbmjkglaaGreatPKGT
import Derived.Test.YtcdiengbmjkglaaGreatPKG0
namespace Go.Proofs.YtcdiengbmjkglaaGreat
open Go.RowKit Go.Sort

def PuSmall (xs : List PutD) : Prop := xs.length ≤ 1048576 ∧ ∀ j, j < xs.length → (xs.getD j put0).text.size ≤ 1048576
def DiskSmall (d : DiskD) : Prop := TxSmall d.slots ∧ TxSmall d.rings ∧ d.spoilt.length ≤ 1048576 ∧ PuSmall d.wait
set_option maxHeartbeats 400000 in
theorem szBo_any (a : Option Addr) (n cap left : Nat) (w : World) (hl : n ≤ maxLen) (hleft : left ≤ 1048576) :
    Calls Tryz.prog 57 #[.slice a n cap, .int .i64 (left : Int)] w (SzIf (n ≤ 1048576) left w) := by
  unfold maxLen at hl
  by_cases h : left < n
  · have d0 : decide ((left : Int) - (n : Int) < 0) = true := by simp; omega
    go_enter Tryz.func57, Tryz.ntmps57
    go_wp2
    go_ret
    exact ⟨.inl rfl, Below.refl _ _⟩
  · have d0 : decide ((left : Int) - (n : Int) < 0) = false := by simp; omega
    have H : Hid ((left : Int) - (n : Int) = ((left - n : Nat) : Int)) := by show (left : Int) - (n : Int) = ((left - n : Nat) : Int); omega
    go_enter Tryz.func57, Tryz.ntmps57
    go_wp2
    go_ret
    exact ⟨.inr ⟨left - n, congrArg (fun z => Ending.returned (.int .i64 z)) H.out, by omega, by omega⟩, Below.refl _ _⟩

set_option maxHeartbeats 400000 in
theorem szPut_any (b : Bool) (z : Int) (s : ByteArray) (left : Nat) (w : World) (hn : s.size ≤ maxLen) (hleft : left ≤ 1048576) :
    Calls Tryz.prog 93 #[.agg #[.bool b, .int .i64 z, .string s], .int .i64 (left : Int)] w (SzIf (s.size ≤ 1048576) left w) := by
  unfold maxLen at hn
  have hB : Below w.heap.size w (w.alloc (.cells #[.bool b, .int .i64 z, .string s] 129)) := (Below.refl _ _).alloc (Nat.le_refl _) _
  have HB := Lib.hid hB
  clear hB
  by_cases h0 : left < s.size
  · have d0 : decide ((left : Int) - (s.size : Int) < 0) = true := by simp; omega
    go_enter Tryz.func93, Tryz.ntmps93
    go_wp2
    go_ret
    exact ⟨.inl rfl, HB.out⟩
  · have d0 : decide ((left : Int) - (s.size : Int) < 0) = false := by simp; omega
    have H : Hid ((left : Int) - (s.size : Int) = ((left - s.size : Nat) : Int)) := by show (left : Int) - (s.size : Int) = ((left - s.size : Nat) : Int); omega
    go_enter Tryz.func93, Tryz.ntmps93
    go_wp2
    go_ret
    exact ⟨.inr ⟨left - s.size, congrArg (fun z => Ending.returned (.int .i64 z)) H.out, by omega, by omega⟩, HB.out⟩

set_option maxRecDepth 100000 in
set_option maxHeartbeats 1000000 in
theorem szPutS_any (a : Option Addr) (cap left : Nat) (ps : List PutD) (w : World) (hl : ps.length ≤ maxLen) (hs : Hid (∀ j, j < ps.length → (ps.getD j put0).text.size ≤ maxLen)) (hleft : left ≤ 1048576) (hx : Hid (PuAt w a ps)) :
    Calls Tryz.prog 58 #[.slice a ps.length cap, .int .i64 (left : Int)] w (SzIf (PuSmall ps) left w) := by
  unfold maxLen at hl
  by_cases h0 : left < ps.length
  · have d0 : decide ((left : Int) - (ps.length : Int) < 0) = true := by simp; omega
    go_enter Tryz.func58, Tryz.ntmps58
    go_wp2
    go_ret
    exact ⟨.inl rfl, Below.refl _ _⟩
  · obtain ⟨r0, hr0⟩ : ∃ r0 : Nat, (left : Int) - (ps.length : Int) = (r0 : Int) := ⟨left - ps.length, by omega⟩
    have d0 : decide ((left : Int) - (ps.length : Int) < 0) = false := by simp; omega
    go_enter Tryz.func58, Tryz.ntmps58
    go_wp2_with fail
    go_loopw [1, 5] (fun l i wr => ∃ k r : Nat, i = .int .i64 (k : Int) ∧ l = .int .i64 (r : Int) ∧ k ≤ ps.length ∧ r ≤ left ∧ Hid (Below w.heap.size w wr) ∧ Hid (∀ j, j < k → (ps.getD j put0).text.size ≤ 1048576)) (fun _ i _ => ps.length - (intOf i).toNat)
    case atStart => exact ⟨0, r0, rfl, by go_num, by omega, by omega, Below.refl _ _, fun j hj => by omega⟩
    case round =>
      obtain ⟨k, r, rfl, rfl, hk, hr, hB, hall⟩ := hrel
      by_cases hlt : k < ps.length
      · obtain ⟨b, off, rfl, hc⟩ := (hx.out.below hB.out).resolve_left (fun e => by subst e; simp at hlt)
        obtain ⟨e0, e1, e2⟩ := hc k hlt
        have hns := hs.out k hlt
        clear hc
        generalize hg : ps.getD k put0 = q at e0 e1 e2 hns
        have Hg := Lib.hid hg
        clear hg
        obtain ⟨b1, z1, s1⟩ := q
        simp only at e0 e1 e2 hns
        go_wp2_with fail
        refine (szPut_any b1 z1 s1 r _ hns (by omega)).mono ?_
        rintro e w1 ⟨he, hB1⟩
        have HB1 := Lib.hid (hB.out.trans (hB1.mono hB.out.size))
        clear hB1
        rcases he with rfl | ⟨r2, rfl, hr2, hs2⟩
        · go_wp2
          go_ret
          exact ⟨.inl rfl, HB1.out⟩
        · have d1 : decide ((r2 : Int) < 0) = false := by simp
          have HN : Hid (∀ j, j < k + 1 → (ps.getD j put0).text.size ≤ 1048576) := fun j hj => by
            by_cases e : j = k
            · subst e; rw [Hg.out]; exact hs2
            · exact hall.out j (by omega)
          go_wp2
          exact ⟨⟨k + 1, r2, by go_num, rfl, by omega, by omega, HB1, HN⟩, by simp [intOf]; omega⟩
      · have HL : Hid (PuSmall ps) := ⟨by omega, fun j hj => hall.out j (by omega)⟩
        go_wp2
        go_ret
        exact ⟨.inr ⟨r, rfl, hr, HL.out⟩, hB.out⟩

set_option maxRecDepth 100000 in
set_option maxHeartbeats 1000000 in
theorem szDisk_any (v : Value) (d : DiskD) (left : Nat) (w : World) (hv : DiskV w v d) (hb : DiskBd d) (hleft : left ≤ 1048576) :
    Calls Tryz.prog 20 #[v, .int .i64 (left : Int)] w (SzIf (DiskSmall d) left w) := by
  obtain ⟨st, xs, ys, bs, ps⟩ := d
  obtain ⟨v1, v2, v3, v4, rfl, ⟨a1, c1, rfl, l1, m1, x1⟩, ⟨a2, c2, rfl, l2, m2, x2⟩, ⟨a3, c3, rfl, l3, m3, x3⟩, ⟨a4, c4, rfl, l4, m4, x4⟩⟩ := hv
  obtain ⟨s1, s2, s4⟩ := hb
  simp only at x1 x2 x3 x4 l1 l2 l3 l4 s1 s2 s4 ⊢
  have hB : Below w.heap.size w (w.alloc (.cells #[.int .i64 st, .slice a1 xs.length c1, .slice a2 ys.length c2, .slice a3 bs.length c3, .slice a4 ps.length c4] 58)) := (Below.refl _ _).alloc (Nat.le_refl _) _
  have HB := Lib.hid hB
  have X1 := Lib.hid (x1.below hB)
  have X2 := Lib.hid (x2.below hB)
  have X4 := Lib.hid (x4.below hB)
  have S1 := Lib.hid s1
  have S2 := Lib.hid s2
  have S4 := Lib.hid s4
  clear hB x1 x2 x3 x4 s1 s2 s4
  have n1 : xs.length ≤ maxLen := by omega
  have n2 : ys.length ≤ maxLen := by omega
  have n3 : bs.length ≤ maxLen := by omega
  have n4 : ps.length ≤ maxLen := by omega
  clear l1 l2 l3 l4 m1 m2 m3 m4
  go_enter Tryz.func20, Tryz.ntmps20
  go_wp2_with fail
  refine (szTx_any a1 c1 xs left _ n1 S1 hleft X1).mono ?_
  rintro e w1 ⟨he, hB1⟩
  obtain ⟨hc1, _⟩ := bcell hB1
  have k2 : w1.cell? ⟨w.heap.size, 2, none⟩ = some (.slice a2 ys.length c2) := by rw [hc1 _ _ (by simp), World.cell?_alloc_mark]; rfl
  have k3 : w1.cell? ⟨w.heap.size, 3, none⟩ = some (.slice a3 bs.length c3) := by rw [hc1 _ _ (by simp), World.cell?_alloc_mark]; rfl
  have k4 : w1.cell? ⟨w.heap.size, 4, none⟩ = some (.slice a4 ps.length c4) := by rw [hc1 _ _ (by simp), World.cell?_alloc_mark]; rfl
  have HB1 := Lib.hid (HB.out.trans (hB1.mono HB.out.size))
  have X2' := Lib.hid (X2.out.below hB1)
  have X4' := Lib.hid (X4.out.below hB1)
  clear hB1 hc1
  rcases he with rfl | ⟨r, rfl, hr, t1⟩
  · go_wp2
    go_ret
    exact ⟨.inl rfl, HB1.out⟩
  · have d1 : decide ((r : Int) < 0) = false := by simp
    have T1 := Lib.hid t1
    clear t1
    go_wp2_with fail
    refine (szTx_any a2 c2 ys r _ n2 S2 (by omega) X2').mono ?_
    rintro e w2 ⟨he, hB2⟩
    have j3 := cell_below hB2 k3
    have j4 := cell_below hB2 k4
    have HB2 := Lib.hid (HB1.out.trans (hB2.mono HB1.out.size))
    have X4 := Lib.hid (X4'.out.below hB2)
    clear hB2 k2 k3 k4
    rcases he with rfl | ⟨r2, rfl, hr2, t2⟩
    · go_wp2
      go_ret
      exact ⟨.inl rfl, HB2.out⟩
    · have d2 : decide ((r2 : Int) < 0) = false := by simp
      have T2 := Lib.hid t2
      clear t2
      go_wp2_with fail
      refine (szBo_any a3 bs.length c3 r2 _ n3 (by omega)).mono ?_
      rintro e w3 ⟨he, hB3⟩
      have k4 := cell_below hB3 j4
      have HB3 := Lib.hid (HB2.out.trans (hB3.mono HB2.out.size))
      have X4' := Lib.hid (X4.out.below hB3)
      clear hB3 j3 j4
      rcases he with rfl | ⟨r3, rfl, hr3, t3⟩
      · go_wp2
        go_ret
        exact ⟨.inl rfl, HB3.out⟩
      · have d3 : decide ((r3 : Int) < 0) = false := by simp
        go_wp2_with fail
        refine (szPutS_any a4 c4 r3 ps _ n4 S4 (by omega) X4').mono ?_
        rintro e w4 ⟨he, hB4⟩
        have HB4 := Lib.hid (HB3.out.trans (hB4.mono HB3.out.size))
        clear hB4
        rcases he with rfl | ⟨r4, rfl, hr4, t4⟩
        · go_wp2
          go_ret
          exact ⟨.inl rfl, HB4.out⟩
        · have d4 : decide ((r4 : Int) < 0) = false := by simp
          have T4 := Lib.hid t4
          clear t4
          go_wp2
          go_ret
          exact ⟨.inr ⟨r4, rfl, by omega, T1.out, T2.out, t3, T4.out⟩, HB4.out⟩

set_option maxRecDepth 100000 in
set_option maxHeartbeats 1000000 in
theorem eqBo_same (a b : Option Addr) (ca cb : Nat) (xs : List Bool) (w : World) (hl : xs.length ≤ maxLen) (ha : Hid (BoAt w a xs)) (hb : Hid (BoAt w b xs)) :
    Calls Tryz.prog 77 #[.slice a xs.length ca, .slice b xs.length cb] w fun e w' => e = .returned (.bool true) ∧ Below w.heap.size w w' := by
  unfold maxLen at hl
  have d0 : ((xs.length : Int) != (xs.length : Int)) = false := by simp
  go_enter Tryz.func77, Tryz.ntmps77
  go_wp2_with fail
  go_loopw [5] (fun i wr => ∃ k : Nat, i = .int .i64 (k : Int) ∧ k ≤ xs.length ∧ Below w.heap.size w wr) (fun i _ => xs.length - (intOf i).toNat)
  case atStart => exact ⟨0, rfl, by omega, Below.refl _ _⟩
  case round =>
    obtain ⟨k, rfl, hk, hB⟩ := hrel
    by_cases hlt : k < xs.length
    · obtain ⟨b1, o1, rfl, hc1⟩ := (ha.out.below hB).resolve_left (fun e => by subst e; simp at hlt)
      obtain ⟨b2, o2, rfl, hc2⟩ := (hb.out.below hB).resolve_left (fun e => by subst e; simp at hlt)
      have k1 := hc1 k hlt
      have k2 := hc2 k hlt
      clear hc1 hc2
      generalize xs.getD k false = x at k1 k2
      have e1 : (x != x) = false := by simp
      have i1 : (k : Int) < (xs.length : Int) := by omega
      have i0 : (0 : Int) ≤ (k : Int) := by omega
      go_wp2
      go_quiet (fail)
      go_wp2
      exact ⟨⟨k + 1, by go_num, by omega, belowN hB nq⟩, by simp [intOf]; omega⟩
    · go_wp2
      go_ret
      exact ⟨rfl, hB⟩

set_option maxHeartbeats 400000 in
theorem eqPut_same (b : Bool) (z : Int) (s : ByteArray) (w : World) :
    Calls Tryz.prog 112 #[.agg #[.bool b, .int .i64 z, .string s], .agg #[.bool b, .int .i64 z, .string s]] w fun e w' => e = .returned (.bool true) ∧ Below w.heap.size w w' := by
  have e1 : (b != b) = false := by simp
  have e2 : (z != z) = false := by simp
  go_enter Tryz.func112, Tryz.ntmps112
  go_wp2
  go_ret
  exact ⟨rfl, ((Below.refl _ w).alloc (Nat.le_refl _) _).alloc (by simp) _⟩

set_option maxRecDepth 100000 in
set_option maxHeartbeats 1000000 in
theorem eqPutS_same (a b : Option Addr) (ca cb : Nat) (ps : List PutD) (w : World) (hl : ps.length ≤ maxLen) (ha : Hid (PuAt w a ps)) (hb : Hid (PuAt w b ps)) :
    Calls Tryz.prog 78 #[.slice a ps.length ca, .slice b ps.length cb] w fun e w' => e = .returned (.bool true) ∧ Below w.heap.size w w' := by
  unfold maxLen at hl
  have d0 : ((ps.length : Int) != (ps.length : Int)) = false := by simp
  go_enter Tryz.func78, Tryz.ntmps78
  go_wp2_with fail
  go_loopw [5] (fun i wr => ∃ k : Nat, i = .int .i64 (k : Int) ∧ k ≤ ps.length ∧ Hid (Below w.heap.size w wr)) (fun i _ => ps.length - (intOf i).toNat)
  case atStart => exact ⟨0, rfl, by omega, Below.refl _ _⟩
  case round =>
    obtain ⟨k, rfl, hk, hB⟩ := hrel
    by_cases hlt : k < ps.length
    · obtain ⟨b1, o1, rfl, hc1⟩ := (ha.out.below hB.out).resolve_left (fun e => by subst e; simp at hlt)
      obtain ⟨b2, o2, rfl, hc2⟩ := (hb.out.below hB.out).resolve_left (fun e => by subst e; simp at hlt)
      have k1 := hc1 k hlt
      have k2 := hc2 k hlt
      clear hc1 hc2
      generalize ps.getD k put0 = q at k1 k2
      obtain ⟨rg, z, s⟩ := q
      have g1 := cell_regrown k1.1
      have g2 := cell_regrown k1.2.1
      have g3 := cell_regrown k1.2.2
      have g4 := cell_regrown k2.1
      have g5 := cell_regrown k2.2.1
      have g6 := cell_regrown k2.2.2
      clear k1 k2
      simp only at g1 g2 g3 g4 g5 g6
      have i1 : (k : Int) < (ps.length : Int) := by omega
      have i0 : (0 : Int) ≤ (k : Int) := by omega
      go_wp2_with fail
      refine wp_region_quiet_below (by kernel_rfl) (by kernel_rfl) ?_
      repeat (go_big_quiet_step ((go_at_call 112; exact Calls.regrown_of (eqPut_same rg z s _))))
      refine wpQuiet_nil ?_
      intro w9 hw9
      have HB9 : Hid (Below w.heap.size w w9) := by obtain ⟨p, rfl⟩ := hw9; exact rg_below hB.out _ _
      clear hw9
      go_wp2
      exact ⟨⟨k + 1, by go_num, by omega, HB9⟩, by simp [intOf]; omega⟩
    · go_wp2
      go_ret
      exact ⟨rfl, hB.out⟩

set_option maxRecDepth 100000 in
set_option maxHeartbeats 1000000 in
theorem eqDisk_same (v u : Value) (d : DiskD) (w : World) (hv : DiskV w v d) (hu : DiskV w u d) :
    Calls Tryz.prog 33 #[v, u] w fun e w' => e = .returned (.bool true) ∧ Below w.heap.size w w' := by
  obtain ⟨st, xs, ys, bs, ps⟩ := d
  obtain ⟨v1, v2, v3, v4, rfl, ⟨a1, c1, rfl, l1, m1, x1⟩, ⟨a2, c2, rfl, l2, m2, x2⟩, ⟨a3, c3, rfl, l3, m3, x3⟩, ⟨a4, c4, rfl, l4, m4, x4⟩⟩ := hv
  obtain ⟨u1, u2, u3, u4, rfl, ⟨b1, e1, rfl, _, _, y1⟩, ⟨b2, e2, rfl, _, _, y2⟩, ⟨b3, e3, rfl, _, _, y3⟩, ⟨b4, e4, rfl, _, _, y4⟩⟩ := hu
  simp only at x1 x2 x3 x4 y1 y2 y3 y4 l1 l2 l3 l4 ⊢
  have n1 : xs.length ≤ maxLen := by omega
  have n2 : ys.length ≤ maxLen := by omega
  have n3 : bs.length ≤ maxLen := by omega
  have n4 : ps.length ≤ maxLen := by omega
  have hB : Below w.heap.size w ((w.alloc (.cells #[.int .i64 st, .slice a1 xs.length c1, .slice a2 ys.length c2, .slice a3 bs.length c3, .slice a4 ps.length c4] 50)).alloc (.cells #[.int .i64 st, .slice b1 xs.length e1, .slice b2 ys.length e2, .slice b3 bs.length e3, .slice b4 ps.length e4] 50)) := ((Below.refl _ _).alloc (Nat.le_refl _) _).alloc (by simp) _
  have HB := Lib.hid hB
  have H1 := Lib.hid (fun w' (h : Below w.heap.size w w') => eqTx_same a1 b1 c1 e1 xs w' n1 (x1.below h) (y1.below h))
  have H2 := Lib.hid (fun w' (h : Below w.heap.size w w') => eqTx_same a2 b2 c2 e2 ys w' n2 (x2.below h) (y2.below h))
  have H3 := Lib.hid (fun w' (h : Below w.heap.size w w') => eqBo_same a3 b3 c3 e3 bs w' n3 (x3.below h) (y3.below h))
  have H4 := Lib.hid (fun w' (h : Below w.heap.size w w') => eqPutS_same a4 b4 c4 e4 ps w' n4 (x4.below h) (y4.below h))
  have e0 : (st != st) = false := by simp
  clear x1 x2 x3 x4 y1 y2 y3 y4 l1 l2 l3 l4 m1 m2 m3 m4 hB n1 n2 n3 n4
  go_enter Tryz.func33, Tryz.ntmps33
  go_wp2_with fail
  refine (H1.out _ HB.out).mono ?_
  rintro e w1 ⟨rfl, hB1⟩
  obtain ⟨hc1, _⟩ := bcell hB1
  have k2 : w1.cell? ⟨w.heap.size, 2, none⟩ = some (.slice a2 ys.length c2) := (hc1 _ _ (by simp; omega)).trans (box1 _ _ _ _ _)
  have k3 : w1.cell? ⟨w.heap.size, 3, none⟩ = some (.slice a3 bs.length c3) := (hc1 _ _ (by simp; omega)).trans (box1 _ _ _ _ _)
  have k4 : w1.cell? ⟨w.heap.size, 4, none⟩ = some (.slice a4 ps.length c4) := (hc1 _ _ (by simp; omega)).trans (box1 _ _ _ _ _)
  have j2 : w1.cell? ⟨w.heap.size + 1, 2, none⟩ = some (.slice b2 ys.length e2) := (hc1 _ _ (by simp)).trans (box2 _ _ _ _ _)
  have j3 : w1.cell? ⟨w.heap.size + 1, 3, none⟩ = some (.slice b3 bs.length e3) := (hc1 _ _ (by simp)).trans (box2 _ _ _ _ _)
  have j4 : w1.cell? ⟨w.heap.size + 1, 4, none⟩ = some (.slice b4 ps.length e4) := (hc1 _ _ (by simp)).trans (box2 _ _ _ _ _)
  have HB1 := Lib.hid (below_trans HB.out hB1 HB.out.size)
  clear hB1 hc1
  go_wp2_with fail
  refine (H2.out _ HB1.out).mono ?_
  rintro e w2 ⟨rfl, hB2⟩
  have k3 := cell_below hB2 k3
  have k4 := cell_below hB2 k4
  have j3 := cell_below hB2 j3
  have j4 := cell_below hB2 j4
  have HB2 := Lib.hid (below_trans HB1.out hB2 HB1.out.size)
  clear hB2 k2 j2
  go_wp2_with fail
  refine (H3.out _ HB2.out).mono ?_
  rintro e w3 ⟨rfl, hB3⟩
  have k4 := cell_below hB3 k4
  have j4 := cell_below hB3 j4
  have HB3 := Lib.hid (below_trans HB2.out hB3 HB2.out.size)
  clear hB3
  go_wp2_with fail
  refine (H4.out _ HB3.out).mono ?_
  rintro e w4 ⟨rfl, hB4⟩
  go_wp2
  go_ret
  exact ⟨rfl, below_trans HB3.out hB4 HB3.out.size⟩

end Go.Proofs.YtcdiengbmjkglaaGreat

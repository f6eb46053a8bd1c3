/- The exact laws' own helpers for disks: sizes and comparisons. Conditions: none but the row's own bound on sizes. The exact laws' own copies of writes and disks: they own all their memory. Conditions: sizes of at most 2^20. -/
import Derived.Test.YtceielkcplcccaaGreatDoorPKRG
import Derived.Test.YtceielkcplcccaaGreatDoorPKG0
namespace Go.Proofs.YtceielkcplcccaaGreatDoor
open Go.RowKit Go.Sort

def PuSmall (xs : List PutD) : Prop := xs.length ≤ 1048576 ∧ ∀ j, j < xs.length → (xs.getD j put0).text.size ≤ 1048576
def DiskSmall (d : DiskD) : Prop := TxSmall d.slots ∧ TxSmall d.rings ∧ d.spoilt.length ≤ 1048576 ∧ PuSmall d.wait
set_option maxRecDepth 100000 in
set_option maxHeartbeats 1000000 in
theorem eqBo_same (a b : Option Addr) (ca cb : Nat) (xs : List Bool) (w : World) (hl : xs.length ≤ maxLen) (ha : Hid (BoAt w a xs)) (hb : Hid (BoAt w b xs)) :
    Calls Tryz.prog 55 #[.slice a xs.length ca, .slice b xs.length cb] w fun e w' => e = .returned (.bool true) ∧ Below w.heap.size w w' := by
  unfold maxLen at hl
  have d0 : ((xs.length : Int) != (xs.length : Int)) = false := by simp
  go_enter Tryz.func55, Tryz.ntmps55
  go_wp2_with fail
  go_loopw [5] (fun i wr => ∃ k : Nat, i = .int .i64 (k : Int) ∧ k ≤ xs.length ∧ Below w.heap.size w wr) (fun i _ => xs.length - (intOf i).toNat)
  case atStart => exact ⟨0, rfl, by omega, Below.refl _ _⟩
  case round =>
    obtain ⟨k, rfl, hk, hB⟩ := hrel
    by_cases hlt : k < xs.length
    · obtain ⟨b1, o1, rfl, hc1⟩ := (ha.out.below hB).resolve_left (fun e => by subst e; simp at hlt)
      obtain ⟨b2, o2, rfl, hc2⟩ := (hb.out.below hB).resolve_left (fun e => by subst e; simp at hlt)
      have k1 := hc1 k hlt
      have k2 := hc2 k hlt
      clear hc1 hc2
      generalize xs.getD k false = x at k1 k2
      have e1 : (x != x) = false := by simp
      have i1 : (k : Int) < (xs.length : Int) := by omega
      have i0 : (0 : Int) ≤ (k : Int) := by omega
      go_wp2
      go_quiet (fail)
      go_wp2
      exact ⟨⟨k + 1, by go_num, by omega, belowN hB nq⟩, by simp [intOf]; omega⟩
    · go_wp2
      go_ret
      exact ⟨rfl, hB⟩

set_option maxHeartbeats 400000 in
theorem eqPut_same (b : Bool) (z : Int) (s : ByteArray) (w : World) :
    Calls Tryz.prog 77 #[.agg #[.bool b, .int .i64 z, .string s], .agg #[.bool b, .int .i64 z, .string s]] w fun e w' => e = .returned (.bool true) ∧ Below w.heap.size w w' := by
  have e1 : (b != b) = false := by simp
  have e2 : (z != z) = false := by simp
  go_enter Tryz.func77, Tryz.ntmps77
  go_wp2
  go_ret
  exact ⟨rfl, ((Below.refl _ w).alloc (Nat.le_refl _) _).alloc (by simp) _⟩

set_option maxRecDepth 100000 in
set_option maxHeartbeats 1000000 in
theorem eqPutS_same (a b : Option Addr) (ca cb : Nat) (ps : List PutD) (w : World) (hl : ps.length ≤ maxLen) (ha : Hid (PuAt w a ps)) (hb : Hid (PuAt w b ps)) :
    Calls Tryz.prog 56 #[.slice a ps.length ca, .slice b ps.length cb] w fun e w' => e = .returned (.bool true) ∧ Below w.heap.size w w' := by
  unfold maxLen at hl
  have d0 : ((ps.length : Int) != (ps.length : Int)) = false := by simp
  go_enter Tryz.func56, Tryz.ntmps56
  go_wp2_with fail
  go_loopw [5] (fun i wr => ∃ k : Nat, i = .int .i64 (k : Int) ∧ k ≤ ps.length ∧ Hid (Below w.heap.size w wr)) (fun i _ => ps.length - (intOf i).toNat)
  case atStart => exact ⟨0, rfl, by omega, Below.refl _ _⟩
  case round =>
    obtain ⟨k, rfl, hk, hB⟩ := hrel
    by_cases hlt : k < ps.length
    · obtain ⟨b1, o1, rfl, hc1⟩ := (ha.out.below hB.out).resolve_left (fun e => by subst e; simp at hlt)
      obtain ⟨b2, o2, rfl, hc2⟩ := (hb.out.below hB.out).resolve_left (fun e => by subst e; simp at hlt)
      have k1 := hc1 k hlt
      have k2 := hc2 k hlt
      clear hc1 hc2
      generalize ps.getD k put0 = q at k1 k2
      obtain ⟨rg, z, s⟩ := q
      have g1 := cell_regrown k1.1
      have g2 := cell_regrown k1.2.1
      have g3 := cell_regrown k1.2.2
      have g4 := cell_regrown k2.1
      have g5 := cell_regrown k2.2.1
      have g6 := cell_regrown k2.2.2
      clear k1 k2
      simp only at g1 g2 g3 g4 g5 g6
      have i1 : (k : Int) < (ps.length : Int) := by omega
      have i0 : (0 : Int) ≤ (k : Int) := by omega
      go_wp2_with fail
      refine wp_region_quiet_below (by kernel_rfl) (by kernel_rfl) ?_
      repeat (go_big_quiet_step ((go_at_call 77; exact Calls.regrown_of (eqPut_same rg z s _))))
      refine wpQuiet_nil ?_
      intro w9 hw9
      have HB9 : Hid (Below w.heap.size w w9) := by obtain ⟨p, rfl⟩ := hw9; exact rg_below hB.out _ _
      clear hw9
      go_wp2
      exact ⟨⟨k + 1, by go_num, by omega, HB9⟩, by simp [intOf]; omega⟩
    · go_wp2
      go_ret
      exact ⟨rfl, hB.out⟩

set_option maxRecDepth 100000 in
set_option maxHeartbeats 1000000 in
theorem eqDisk_same (v u : Value) (d : DiskD) (w : World) (hv : DiskV w v d) (hu : DiskV w u d) :
    Calls Tryz.prog 32 #[v, u] w fun e w' => e = .returned (.bool true) ∧ Below w.heap.size w w' := by
  obtain ⟨st, xs, ys, bs, ps⟩ := d
  obtain ⟨v1, v2, v3, v4, rfl, ⟨a1, c1, rfl, l1, m1, x1⟩, ⟨a2, c2, rfl, l2, m2, x2⟩, ⟨a3, c3, rfl, l3, m3, x3⟩, ⟨a4, c4, rfl, l4, m4, x4⟩⟩ := hv
  obtain ⟨u1, u2, u3, u4, rfl, ⟨b1, e1, rfl, _, _, y1⟩, ⟨b2, e2, rfl, _, _, y2⟩, ⟨b3, e3, rfl, _, _, y3⟩, ⟨b4, e4, rfl, _, _, y4⟩⟩ := hu
  simp only at x1 x2 x3 x4 y1 y2 y3 y4 l1 l2 l3 l4 ⊢
  have n1 : xs.length ≤ maxLen := by omega
  have n2 : ys.length ≤ maxLen := by omega
  have n3 : bs.length ≤ maxLen := by omega
  have n4 : ps.length ≤ maxLen := by omega
  have hB : Below w.heap.size w ((w.alloc (.cells #[.int .i64 st, .slice a1 xs.length c1, .slice a2 ys.length c2, .slice a3 bs.length c3, .slice a4 ps.length c4] 37)).alloc (.cells #[.int .i64 st, .slice b1 xs.length e1, .slice b2 ys.length e2, .slice b3 bs.length e3, .slice b4 ps.length e4] 37)) := ((Below.refl _ _).alloc (Nat.le_refl _) _).alloc (by simp) _
  have HB := Lib.hid hB
  have H1 := Lib.hid (fun w' (h : Below w.heap.size w w') => eqTx_same a1 b1 c1 e1 xs w' n1 (x1.below h) (y1.below h))
  have H2 := Lib.hid (fun w' (h : Below w.heap.size w w') => eqTx_same a2 b2 c2 e2 ys w' n2 (x2.below h) (y2.below h))
  have H3 := Lib.hid (fun w' (h : Below w.heap.size w w') => eqBo_same a3 b3 c3 e3 bs w' n3 (x3.below h) (y3.below h))
  have H4 := Lib.hid (fun w' (h : Below w.heap.size w w') => eqPutS_same a4 b4 c4 e4 ps w' n4 (x4.below h) (y4.below h))
  have e0 : (st != st) = false := by simp
  clear x1 x2 x3 x4 y1 y2 y3 y4 l1 l2 l3 l4 m1 m2 m3 m4 hB n1 n2 n3 n4
  go_enter Tryz.func32, Tryz.ntmps32
  go_wp2_with fail
  refine (H1.out _ HB.out).mono ?_
  rintro e w1 ⟨rfl, hB1⟩
  obtain ⟨hc1, _⟩ := bcell hB1
  have k2 : w1.cell? ⟨w.heap.size, 2, none⟩ = some (.slice a2 ys.length c2) := (hc1 _ _ (by simp; omega)).trans (box1 _ _ _ _ _)
  have k3 : w1.cell? ⟨w.heap.size, 3, none⟩ = some (.slice a3 bs.length c3) := (hc1 _ _ (by simp; omega)).trans (box1 _ _ _ _ _)
  have k4 : w1.cell? ⟨w.heap.size, 4, none⟩ = some (.slice a4 ps.length c4) := (hc1 _ _ (by simp; omega)).trans (box1 _ _ _ _ _)
  have j2 : w1.cell? ⟨w.heap.size + 1, 2, none⟩ = some (.slice b2 ys.length e2) := (hc1 _ _ (by simp)).trans (box2 _ _ _ _ _)
  have j3 : w1.cell? ⟨w.heap.size + 1, 3, none⟩ = some (.slice b3 bs.length e3) := (hc1 _ _ (by simp)).trans (box2 _ _ _ _ _)
  have j4 : w1.cell? ⟨w.heap.size + 1, 4, none⟩ = some (.slice b4 ps.length e4) := (hc1 _ _ (by simp)).trans (box2 _ _ _ _ _)
  have HB1 := Lib.hid (below_trans HB.out hB1 HB.out.size)
  clear hB1 hc1
  go_wp2_with fail
  refine (H2.out _ HB1.out).mono ?_
  rintro e w2 ⟨rfl, hB2⟩
  have k3 := cell_below hB2 k3
  have k4 := cell_below hB2 k4
  have j3 := cell_below hB2 j3
  have j4 := cell_below hB2 j4
  have HB2 := Lib.hid (below_trans HB1.out hB2 HB1.out.size)
  clear hB2 k2 j2
  go_wp2_with fail
  refine (H3.out _ HB2.out).mono ?_
  rintro e w3 ⟨rfl, hB3⟩
  have k4 := cell_below hB3 k4
  have j4 := cell_below hB3 j4
  have HB3 := Lib.hid (below_trans HB2.out hB3 HB2.out.size)
  clear hB3
  go_wp2_with fail
  refine (H4.out _ HB3.out).mono ?_
  rintro e w4 ⟨rfl, hB4⟩
  go_wp2
  go_ret
  exact ⟨rfl, below_trans HB3.out hB4 HB3.out.size⟩

end Go.Proofs.YtceielkcplcccaaGreatDoor

namespace Go.Proofs.YtceielkcplcccaaGreatDoor
open Go.RowKit Go.Sort

theorem infoBo : (Tryz.prog.info? 4).map (fun i => (i.zero, i.size, i.bytes)) = some (some (.bool false), 1, 1) := by kernel_rfl
theorem infoPu : (Tryz.prog.info? 41).map (fun i => (i.zero, i.size, i.bytes)) = some (some (.agg #[.bool false, .int .i64 0, .string ByteArray.empty]), 3, 32) := by kernel_rfl

end Go.Proofs.YtceielkcplcccaaGreatDoor

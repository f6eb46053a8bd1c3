/- The exact laws' own helpers for roots: sizes and comparisons. Conditions: none but the row's own bound on sizes. -/
import Derived.Test.YtceielkcplcccaaGreatDoorPKU7
namespace Go.Proofs.YtceielkcplcccaaGreatDoor
open Go.RowKit Go.Sort

/-- LITTLE: so many at most, at every level. -/
def PtSmall (L : Nat) (ps : List PtrD) : Prop := ps.length ≤ L ∧ ∀ j, j < ps.length → (ps.getD j ptr0).places.length ≤ L
def VoSmall (L : Nat) (vs : List VolD) : Prop := vs.length ≤ L ∧ ∀ j, j < vs.length → (vs.getD j vol0).name.size ≤ L ∧ PtSmall L (vs.getD j vol0).blocks
def LeftIf (P : Prop) (left : Nat) (w : World) (e : Ending) (w' : World) : Prop := (e = .returned (.int .i64 (-1)) ∨ ∃ r : Nat, e = .returned (.int .i64 (r : Int)) ∧ r ≤ left ∧ P) ∧ Below w.heap.size w w'

set_option maxRecDepth 100000 in
set_option maxHeartbeats 1000000 in
theorem eqPtrS_same (a b : Option Addr) (ca cb : Nat) (ps : List PtrD) (w : World) (hl : ps.length ≤ maxLen) (ha : Hid (PtrsAt w a ps)) (hb : Hid (PtrsAt w b ps)) :
    Calls Tryz.prog 78 #[.slice a ps.length ca, .slice b ps.length cb] w fun e w' => e = .returned (.bool true) ∧ Below w.heap.size w w' := by
  unfold maxLen at hl
  have d0 : ((ps.length : Int) != (ps.length : Int)) = false := by simp
  go_enter Tryz.func78, Tryz.ntmps78
  go_wp2_with fail
  go_loopw [5] (fun i wr => ∃ k : Nat, i = .int .i64 (k : Int) ∧ k ≤ ps.length ∧ Hid (Below w.heap.size w wr)) (fun i _ => ps.length - (intOf i).toNat)
  case atStart => exact ⟨0, rfl, by omega, Below.refl _ _⟩
  case round =>
    obtain ⟨k, rfl, hk, hB⟩ := hrel
    by_cases hlt : k < ps.length
    · obtain ⟨b1, o1, rfl, hc1⟩ := (ha.out.below hB.out).resolve_left (fun e => by subst e; simp at hlt)
      obtain ⟨b2, o2, rfl, hc2⟩ := (hb.out.below hB.out).resolve_left (fun e => by subst e; simp at hlt)
      obtain ⟨k0, k1, u1, k2, hu1⟩ := hc1 k hlt
      obtain ⟨m0, m1, u2, m2, hu2⟩ := hc2 k hlt
      clear hc1 hc2
      generalize ps.getD k ptr0 = q at k0 k1 hu1 m0 m1 hu2
      obtain ⟨z, s, qs⟩ := q
      obtain ⟨a1, cap1, rfl, hcl1, hm1, hx1⟩ := hu1
      obtain ⟨a2, cap2, rfl, hcl2, hm2, hx2⟩ := hu2
      simp only at k0 k1 k2 m0 m1 m2 hcl1 hcl2 hx1 hx2
      have HE := Lib.hid (fun w' (hw : Below wr.heap.size wr w') => eqPtr_same z s a1 a2 cap1 cap2 qs w' (by omega) (hx1.below hw) (hx2.below hw))
      have g1 := cell_regrown k0
      have g2 := cell_regrown k1
      have g3 := cell_regrown k2
      have g4 := cell_regrown m0
      have g5 := cell_regrown m1
      have g6 := cell_regrown m2
      clear k0 k1 k2 m0 m1 m2 hx1 hx2
      have i1 : (k : Int) < (ps.length : Int) := by omega
      have i0 : (0 : Int) ≤ (k : Int) := by omega
      go_wp2_with fail
      refine wp_region_quiet_below (by kernel_rfl) (by kernel_rfl) ?_
      repeat (go_big_quiet_step ((go_at_call 100; exact Calls.regrown_of (HE.out _ (below_regrown _ _ _)))))
      refine wpQuiet_nil ?_
      intro w9 hw9
      have HB9 : Hid (Below w.heap.size w w9) := by obtain ⟨p, rfl⟩ := hw9; exact rg_below hB.out _ _
      clear hw9
      go_wp2
      exact ⟨⟨k + 1, by go_num, by omega, HB9⟩, by simp [intOf]; omega⟩
    · go_wp2
      go_ret
      exact ⟨rfl, hB.out⟩

set_option maxRecDepth 100000 in
set_option maxHeartbeats 1000000 in
theorem eqVol_same (nm : ByteArray) (a b : Option Addr) (ca cb : Nat) (ps : List PtrD) (w : World) (hl : ps.length ≤ maxLen) (ha : Hid (PtrsAt w a ps)) (hb : Hid (PtrsAt w b ps)) :
    Calls Tryz.prog 57 #[.agg #[.string nm, .slice a ps.length ca], .agg #[.string nm, .slice b ps.length cb]] w fun e w' => e = .returned (.bool true) ∧ Below w.heap.size w w' := by
  have hB : Below w.heap.size w ((w.alloc (.cells #[.string nm, .slice a ps.length ca] 62)).alloc (.cells #[.string nm, .slice b ps.length cb] 62)) := ((Below.refl _ _).alloc (Nat.le_refl _) _).alloc (by simp) _
  have HB := Lib.hid hB
  clear hB
  go_enter Tryz.func57, Tryz.ntmps57
  go_wp2_with fail
  refine (eqPtrS_same a b ca cb ps _ hl (ha.out.below HB.out) (hb.out.below HB.out)).mono ?_
  rintro e w1 ⟨rfl, hB1⟩
  go_wp2
  go_ret
  exact ⟨rfl, HB.out.trans (hB1.mono HB.out.size)⟩

set_option maxRecDepth 100000 in
set_option maxHeartbeats 1000000 in
theorem eqVolS_same (a b : Option Addr) (ca cb : Nat) (vs : List VolD) (w : World) (hl : vs.length ≤ maxLen) (ha : Hid (VolsAt w a vs)) (hb : Hid (VolsAt w b vs)) :
    Calls Tryz.prog 33 #[.slice a vs.length ca, .slice b vs.length cb] w fun e w' => e = .returned (.bool true) ∧ Below w.heap.size w w' := by
  unfold maxLen at hl
  have d0 : ((vs.length : Int) != (vs.length : Int)) = false := by simp
  go_enter Tryz.func33, Tryz.ntmps33
  go_wp2_with fail
  go_loopw [5] (fun i wr => ∃ k : Nat, i = .int .i64 (k : Int) ∧ k ≤ vs.length ∧ Hid (Below w.heap.size w wr)) (fun i _ => vs.length - (intOf i).toNat)
  case atStart => exact ⟨0, rfl, by omega, Below.refl _ _⟩
  case round =>
    obtain ⟨k, rfl, hk, hB⟩ := hrel
    by_cases hlt : k < vs.length
    · obtain ⟨b1, o1, rfl, hc1⟩ := (ha.out.below hB.out).resolve_left (fun e => by subst e; simp at hlt)
      obtain ⟨b2, o2, rfl, hc2⟩ := (hb.out.below hB.out).resolve_left (fun e => by subst e; simp at hlt)
      obtain ⟨k0, u1, k1, hu1⟩ := hc1 k hlt
      obtain ⟨m0, u2, m1, hu2⟩ := hc2 k hlt
      clear hc1 hc2
      generalize vs.getD k vol0 = q at k0 hu1 m0 hu2
      obtain ⟨nm, qs⟩ := q
      obtain ⟨a1, cap1, rfl, hcl1, hm1, hx1⟩ := hu1
      obtain ⟨a2, cap2, rfl, hcl2, hm2, hx2⟩ := hu2
      simp only at k0 k1 m0 m1 hcl1 hcl2 hx1 hx2
      have HE := Lib.hid (fun w' (hw : Below wr.heap.size wr w') => eqVol_same nm a1 a2 cap1 cap2 qs w' (by omega) (hx1.below hw) (hx2.below hw))
      have g1 := cell_regrown k0
      have g2 := cell_regrown k1
      have g4 := cell_regrown m0
      have g5 := cell_regrown m1
      clear k0 k1 m0 m1 hx1 hx2
      have i1 : (k : Int) < (vs.length : Int) := by omega
      have i0 : (0 : Int) ≤ (k : Int) := by omega
      go_wp2_with fail
      refine wp_region_quiet_below (by kernel_rfl) (by kernel_rfl) ?_
      repeat (go_big_quiet_step ((go_at_call 57; exact Calls.regrown_of (HE.out _ (below_regrown _ _ _)))))
      refine wpQuiet_nil ?_
      intro w9 hw9
      have HB9 : Hid (Below w.heap.size w w9) := by obtain ⟨p, rfl⟩ := hw9; exact rg_below hB.out _ _
      clear hw9
      go_wp2
      exact ⟨⟨k + 1, by go_num, by omega, HB9⟩, by simp [intOf]; omega⟩
    · go_wp2
      go_ret
      exact ⟨rfl, hB.out⟩

set_option maxRecDepth 100000 in
set_option maxHeartbeats 1000000 in
theorem eqRoot_same (t : Int) (a b : Option Addr) (ca cb : Nat) (vs : List VolD) (w : World) (hl : vs.length ≤ maxLen) (ha : Hid (VolsAt w a vs)) (hb : Hid (VolsAt w b vs)) :
    Calls Tryz.prog 17 #[.agg #[.int .i64 t, .slice a vs.length ca], .agg #[.int .i64 t, .slice b vs.length cb]] w fun e w' => e = .returned (.bool true) ∧ Below w.heap.size w w' := by
  have e1 : (t != t) = false := by simp
  have hB : Below w.heap.size w ((w.alloc (.cells #[.int .i64 t, .slice a vs.length ca] 25)).alloc (.cells #[.int .i64 t, .slice b vs.length cb] 25)) := ((Below.refl _ _).alloc (Nat.le_refl _) _).alloc (by simp) _
  have HB := Lib.hid hB
  clear hB
  go_enter Tryz.func17, Tryz.ntmps17
  go_wp2_with fail
  refine (eqVolS_same a b ca cb vs _ hl (ha.out.below HB.out) (hb.out.below HB.out)).mono ?_
  rintro e w1 ⟨rfl, hB1⟩
  go_wp2
  go_ret
  exact ⟨rfl, HB.out.trans (hB1.mono HB.out.size)⟩

end Go.Proofs.YtceielkcplcccaaGreatDoor

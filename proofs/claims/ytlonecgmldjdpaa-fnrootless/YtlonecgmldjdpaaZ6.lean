/- RootPlaces of both sides, at every root. Conditions: none but the row's own bound on sizes. -/
import Derived.Test.YtlonecgmldjdpaaZ4
import Derived.Test.YtlonecgmldjdpaaZ5
namespace Go.Proofs.Ytlonecgmldjdpaa
open Go.RowKit Go.Sort Go.Lib

set_option maxRecDepth 100000 in
set_option maxHeartbeats 1000000 in
theorem implPlaces_no (n t : Int) (a : Option Addr) (cap : Nat) (vs : List VolD) (w : World) (hl : vs.length ≤ cap) (hnm : Hid (∀ j, j < vs.length → (vs.getD j vol0).name.size ≤ maxLen)) (hx : Hid (VolsAt w a vs)) (hno : Hid (¬RootOkP n ⟨t, vs⟩)) :
    Calls Try.prog 11 #[.int .i64 n, .agg #[.int .i64 t, .slice a vs.length cap]] w fun e w' => ∃ v, e = .returned v ∧ OwnPl w' w.heap.size v [] ∧ Below w.heap.size w w' := by
  have hB0 : Below w.heap.size w (w.alloc (.cells #[.int .i64 t, .slice a vs.length cap] 25)) := (Below.refl _ _).alloc (Nat.le_refl _) _
  have HB0 := Lib.hid hB0
  clear hB0
  have HR := Lib.hid (fun w' h => implRoot_any n ⟨t, vs⟩ a cap w' hl hnm h)
  rw [tt_false hno.out] at HR
  go_enter Try.func11, Try.ntmps11
  go_wp2_with fail
  refine (HR.out _ (hx.out.below HB0.out)).mono ?_
  rintro e w1 ⟨rfl, hB1⟩
  have HB1 := Lib.hid (HB0.out.trans (hB1.mono HB0.out.size))
  clear hB1
  go_wp2
  go_ret
  exact ⟨_, rfl, ⟨rfl, .inl ⟨rfl, rfl⟩⟩, HB1.out⟩

set_option maxRecDepth 100000 in
set_option maxHeartbeats 1000000 in
theorem specPlaces_no (n t : Int) (a : Option Addr) (cap : Nat) (vs : List VolD) (w : World) (hl : vs.length ≤ maxLen) (hnm : Hid (∀ j, j < vs.length → (vs.getD j vol0).name.size ≤ maxLen)) (hx : Hid (VolsAt w a vs)) (hno : Hid (¬RootOkP n ⟨t, vs⟩)) :
    Calls Try.prog 13 #[.int .i64 n, .agg #[.int .i64 t, .slice a vs.length cap]] w fun e w' => ∃ v, e = .returned v ∧ OwnPl w' w.heap.size v [] ∧ Below w.heap.size w w' := by
  have hB0 : Below w.heap.size w ((w.alloc (.cells #[.int .i64 t, .slice a vs.length cap] 25)).alloc (.cells #[] 39)) := ((Below.refl _ _).alloc (Nat.le_refl _) _).alloc (by simp) _
  have HO0 : Hid (((w.alloc (.cells #[.int .i64 t, .slice a vs.length cap] 25)).alloc (.cells #[] 39)).ownsRow w.heap.size 39 2 (.slice (some ⟨w.heap.size + 1, 0, none⟩) 0 0) 0 []) := by
    have := World.ownsRow_made (e := 39) (size := 2) (w.alloc (.cells #[.int .i64 t, .slice a vs.length cap] 25)) #[] 0 (Nat.le_refl _) (by simp [maxLen]) (by simp)
    simp only [World.size_alloc] at this
    exact own_mono this (by omega)
  have HB0 := Lib.hid hB0
  clear hB0
  have HR := Lib.hid (fun w' h => specRoot_any n ⟨t, vs⟩ a cap w' hl hnm h)
  rw [tt_false hno.out] at HR
  go_enter Try.func13, Try.ntmps13
  go_wp2_with fail
  refine (HR.out _ (hx.out.below HB0.out)).mono ?_
  rintro e w1 ⟨rfl, hB1⟩
  have HO1 := Lib.hid (own_below HO0.out hB1)
  have HB1 := Lib.hid (HB0.out.trans (hB1.mono HB0.out.size))
  clear hB1
  go_wp2
  go_ret
  exact ⟨_, rfl, HO1.out, HB1.out⟩

theorem implPlaces_any (n t : Int) (a : Option Addr) (cap : Nat) (vs : List VolD) (w : World) (hl : vs.length ≤ cap) (hnm : Hid (∀ j, j < vs.length → (vs.getD j vol0).name.size ≤ maxLen)) (hx : Hid (VolsAt w a vs)) :
    Calls Try.prog 11 #[.int .i64 n, .agg #[.int .i64 t, .slice a vs.length cap]] w fun e w' => ∃ v, e = .returned v ∧ OwnPl w' w.heap.size v (rpl n ⟨t, vs⟩) ∧ Below w.heap.size w w' := by
  by_cases h : RootOkP n ⟨t, vs⟩
  · obtain ⟨nn, rfl⟩ := Int.eq_ofNat_of_zero_le (show 0 ≤ n by have := h.1.1; omega)
    rw [rpl_ok h]
    exact implPlaces_ok nn t a cap vs w hl hnm hx h
  · rw [rpl_no h]
    exact implPlaces_no n t a cap vs w hl hnm hx h
theorem specPlaces_any (n t : Int) (a : Option Addr) (cap : Nat) (vs : List VolD) (w : World) (hl : vs.length ≤ maxLen) (hnm : Hid (∀ j, j < vs.length → (vs.getD j vol0).name.size ≤ maxLen)) (hx : Hid (VolsAt w a vs)) :
    Calls Try.prog 13 #[.int .i64 n, .agg #[.int .i64 t, .slice a vs.length cap]] w fun e w' => ∃ v, e = .returned v ∧ OwnPl w' w.heap.size v (rpl n ⟨t, vs⟩) ∧ Below w.heap.size w w' := by
  by_cases h : RootOkP n ⟨t, vs⟩
  · obtain ⟨nn, rfl⟩ := Int.eq_ofNat_of_zero_le (show 0 ≤ n by have := h.1.1; omega)
    rw [rpl_ok h]
    exact specPlaces_ok nn t a cap vs w hl hnm hx h
  · rw [rpl_no h]
    exact specPlaces_no n t a cap vs w hl hnm hx h

end Go.Proofs.Ytlonecgmldjdpaa

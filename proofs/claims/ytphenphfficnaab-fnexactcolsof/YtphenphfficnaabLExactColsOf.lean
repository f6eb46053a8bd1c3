/- 'laws.FnExactColsOf' returns true at every text: ColsOf of the program answers as ColsOf of the specification, and its answer owns its memory, behind another call too. Conditions: none. -/
import Derived.Test.YtphenphfficnaabK
import Derived.Test.YtphenphfficnaabE2
namespace Go.Proofs.Ytphenphfficnaab
open Go.ChangeShapes Go.WideShapes Go.ChangeAt Go.RowKit
open Go.ChangeMaps (open_string shut_string)
namespace FnExactColsOf
set_option linter.unusedVariables false

set_option maxRecDepth 100000 in
set_option maxHeartbeats 1000000 in
theorem main (a0 : ByteArray) (w : World) (h0 : a0.size ≤ 1048576) :
    Calls Try.prog 4 #[.string a0] w fun e w' => e = .returned (.bool true) ∧ Below w.heap.size w w' := by
  have hm0 : a0.size ≤ maxLen := by unfold maxLen; omega
  have HC := Lib.hid (fun w' => implCols_any a0 hm0 w')
  have HD := Lib.hid (fun w' => specCols_any a0 hm0 w')
  have hn : (colsOf a0).length ≤ 1048576 := by
    unfold colsOf colsTo
    split
    · rw [List.length_map, List.length_range]; omega
    · simp
  generalize colsOf a0 = xs at HC HD hn
  clear hm0
  have hl63 : xs.length ≤ maxLen := by unfold maxLen; omega
  go_enter Try.func4, Try.ntmps4
  go_wp2_with fail
  refine (HD.out _).mono ?_
  rintro e w1 ⟨v1, rfl, hown1, hB1⟩
  obtain ⟨a1, c1, rfl, _, _, hs1⟩ := strs_of_owns hown1
  have HS1 := Lib.hid hs1
  have HB1 := Lib.hid hB1
  clear hown1 hs1 hB1
  go_wp2_with fail
  refine (HC.out _).mono ?_
  rintro e w2 ⟨v2, rfl, hown2, hB2⟩
  have hown2' := hown2
  obtain ⟨a2, c2, rfl, _, _, hs2⟩ := strs_of_owns hown2'
  have HS2 := Lib.hid hs2
  have HS12 := Lib.hid (HS1.out.below hB2)
  have HO2 := Lib.hid hown2
  have HB2 := Lib.hid hB2
  clear hown2 hown2' hs2 hB2
  go_wp2_with fail
  refine (eqStringS_same a2 a1 c2 c1 xs _ hl63 HS2 HS12).mono ?_
  rintro e w3 ⟨rfl, hB3⟩
  have HO3 := Lib.hid (owns_below HO2.out hB3)
  have HB3 := Lib.hid (HB2.out.trans (hB3.mono HB2.out.size))
  clear hB3
  go_wp2_with fail
  refine (markStringS_any w1.heap.size xs.length 1 (.slice a2 xs.length c2) _ _ HB3.out.size (by omega) (by omega) HO3.out).mono ?_
  rintro e w4 ⟨rfl, hB4, hown4⟩
  have hS4 : Strs w4 a2 (marks 1 xs.length) := by
    obtain ⟨a', c', hv, _, _, hs⟩ := strs_of_owns (xs := marks 1 xs.length) (by rw [marks_length]; exact hown4)
    rw [marks_length] at hv
    cases hv
    exact hs
  have HS4 := Lib.hid hS4
  have HB4 := Lib.hid (HB3.out.trans hB4)
  clear hB4 hown4 hS4
  have d1 : decide (((1 + xs.length : Nat) : Int) < 0) = false := by simp; omega
  have HM := Lib.hid (fun w' hs => heldStringS_marks a2 xs.length c2 1 w' (by omega) (by omega) hs)
  generalize 1 + xs.length = m at d1 HM
  go_wp2_with fail
  refine (HM.out _ HS4).mono ?_
  rintro e w5 ⟨rfl, hB5⟩
  have HB45 := Lib.hid hB5
  have HB5 := Lib.hid (HB4.out.trans (hB5.mono HB4.out.size))
  clear hB5
  go_wp2_with fail
  refine (HC.out _).mono ?_
  rintro e w6 ⟨v6, rfl, hown6, hB6⟩
  obtain ⟨a6, c6, rfl, _, _, hs6⟩ := strs_of_owns hown6
  have HS6 := Lib.hid hs6
  have HB46 := Lib.hid (HB45.out.trans (hB6.mono HB45.out.size))
  have HB6 := Lib.hid (HB5.out.trans (hB6.mono HB5.out.size))
  have HS16 := Lib.hid (HS1.out.below HB6.out)
  clear hown6 hs6 hB6
  go_wp2_with fail
  refine (eqStringS_same a6 a1 c6 c1 xs _ hl63 HS6 HS16).mono ?_
  rintro e w7 ⟨rfl, hB7⟩
  have HS47 := Lib.hid (HS4.out.below (HB46.out.trans (hB7.mono HB46.out.size)))
  have HB7 := Lib.hid (HB6.out.trans (hB7.mono HB6.out.size))
  clear hB7
  go_wp2_with fail
  refine (HM.out _ HS47).mono ?_
  rintro e w8 ⟨rfl, hB8⟩
  have HB8 := Lib.hid (HB1.out.trans ((HB7.out.trans (hB8.mono HB7.out.size)).mono HB1.out.size))
  clear hB8
  go_wp2
  go_ret
  exact ⟨rfl, HB8.out⟩

set_option maxRecDepth 100000 in
set_option maxHeartbeats 1000000 in
theorem walk (a0 : ByteArray) (w : World) (w0 : a0.size ≤ maxLen) :
    Calls Try.prog 4 #[.string a0] w fun e w' => e = .returned (.bool true) ∧ Below w.heap.size w w' := by
  by_cases h0 : a0.size ≤ 1048576
  · exact main a0 w h0
  · clear w0
    go_enter Try.func4, Try.ntmps4
    go_wp2
    go_ret
    exact ⟨rfl, Below.refl _ _⟩

set_option maxRecDepth 100000 in
theorem lifted (os : Os) (started : os.Started) (H : Type) (enc : TypeId × Value → H) :
    ReturnsInHanded {} Try.checked os 4 .any (Rows.fnExactColsOfSpec.pre6 enc Try.prog Try.f4 Rows.fnExactColsOfRow.domain false) (Rows.fnExactColsOfSpec.post enc Try.prog Try.f4 false true false false) := by
  refine returnsInHanded_of_change (C := Try.checked) own started (by kernel_rfl) Try.func4
    (ChangeSpec.witness6 (enc := enc) (C := Try.checked) false ⟨#[], #[.string ByteArray.empty], []⟩ 8 (by kernel_rfl) (by kernel_rfl) (by kernel_rfl) (by kernel_rfl)) ?_
  intro W base args ds gs before hval0 hW hcnd _
  have hval : ∀ (j : Nat) t v, Try.f4.params[j]? = some t → args[j]? = some v → Value.okWide Try.prog W .any base t v := hval0
  have hW' := hW
  obtain ⟨p, q, hA0, hV, rfl, hfz, hnd⟩ := hW
  have hA : DataW.TrodAll enc Try.prog W 0 (fun _ => true) true Try.f4.params.toList args.toList ds p := hA0
  rw [Try.params4] at hA hval
  obtain ⟨v0, vs0, d0, ds0, p0, q0, hargs, rfl, rfl, h0, r0⟩ := trodAll_cons hA
  obtain ⟨rfl, rfl, rfl⟩ := trodAll_nil r0
  obtain rfl : args = #[v0] := by cases args; simp_all
  obtain ⟨rfl, rfl⟩ := trodVars_none hV
  have k0 := h0
  have lt0 : ∀ x ∈ p0, x.block < W.heap.size := by obtain ⟨m, hm⟩ := k0; exact DataW.trod_lt m _ _ _ hm
  obtain ⟨a0, rfl, rfl, e0, w0⟩ := open_string Try.underlying9 (hval 0 9 v0 rfl rfl) h0
  clear hA0 hval0
  refine (walk a0 W w0).mono fun e W' ⟨he, bel⟩ => ?_
  subst he
  exact ⟨_, rfl, _, _, _, [], _, [], hW', trodAll_mk1 (shut_bool Try.underlying4 _), (trodAll_cons_mk (Below.trod laidOut (by kernel_rfl) (of_decide_eq_true (by kernel_rfl)) k0 bel lt0) trodAll_mk0), rfl, bel.frame _, fun h => by cases h⟩

theorem over : Rows.fnExactColsOfRow.holds Try.pinned (OpenSpec.ofChange Rows.fnExactColsOfSpec) :=
  OpenClaim.holds_of_wide 4 Try.f4 rfl rfl rfl rfl rfl rfl rfl ⟨rfl, rfl, rfl, rfl, rfl⟩ rfl rfl rfl rfl rfl (by kernel_rfl) Try.func4 (by kernel_rfl)
    (of_decide_eq_true (by kernel_rfl)) (by unfold Func.isWrapper; first | (rw [if_pos (by decide +kernel)]; kernel_rfl) | (rw [if_neg (by decide +kernel)]; exact ⟨rfl, rfl⟩))
    (fun os started H enc _ => lifted os started H enc)

end FnExactColsOf

theorem FnExactColsOf_holds : Rows.FnExactColsOfSaid := FnExactColsOf.over

end Go.Proofs.Ytphenphfficnaab

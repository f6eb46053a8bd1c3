/- 'laws.FnExactStripeOk' returns true at all disks: StripeOk of the program answers as StripeOk of the specification, and changes no argument. Conditions: none. -/
import Derived.Test.YtpbdhpomlakinaaK
import Derived.Test.YtpbdhpomlakinaaGD
namespace Go.Proofs.Ytpbdhpomlakinaa
open Go.ChangeShapes Go.WideShapes Go.ChangeAt Go.RowKit Go.Sort
namespace FnExactStripeOk
set_option linter.unusedVariables false

set_option maxRecDepth 100000 in
set_option maxHeartbeats 2000000 in
theorem main (a : Option Addr) (cap : Nat) (ds : List DiskD) (w : World) (hl : ds.length ≤ maxLen) (hb : Hid (∀ j, j < ds.length → DiskBd (ds.getD j disk0))) (H0 : Hid (DksAt w a ds)) :
    Calls Try.prog 14 #[.slice a ds.length cap] w fun e w' => e = .returned (.bool true) ∧ Below w.heap.size w w' := by
  go_enter Try.func14, Try.ntmps14
  go_wp2_with fail
  refine (szDiskS_any a cap ds _ hl hb H0).mono ?_
  rintro e w1 ⟨he, hB1⟩
  have HB1 := Lib.hid hB1
  clear hB1
  rcases he with rfl | ⟨r, rfl, hr, hsm⟩
  · go_wp2
    go_ret
    exact ⟨rfl, HB1.out⟩
  have d0 : decide ((r : Int) < 0) = false := by simp
  have HT := Lib.hid (fun w' (h : Below w.heap.size w w') => toDiskS_any a cap ds w' hsm (H0.out.below h))
  clear hsm hr
  go_wp2_with fail
  refine (HT.out _ HB1.out).mono ?_
  rintro e w2 ⟨v2, rfl, hv2, hB2⟩
  obtain ⟨a2, c2, rfl, _, _, hx2⟩ := hv2
  have HX2 := Lib.hid hx2
  have HB2 := Lib.hid (HB1.out.trans (hB2.mono HB1.out.size))
  clear hx2 hB2
  have HD := Lib.hid (fun a' c' w' h => specStripes_any a' c' ds w' hl h)
  have HI := Lib.hid (fun a' c' w' h => implStripes_any a' c' ds w' hl h)
  generalize tt (StripeFine ds) = bb at HD HI
  have ebb : (bb != bb) = false := by simp
  go_wp2_with fail
  refine (HD.out _ _ _ HX2).mono ?_
  rintro e w3 ⟨rfl, hB3⟩
  have HB3 := Lib.hid (HB2.out.trans (hB3.mono HB2.out.size))
  clear hB3
  go_wp2_with fail
  refine (HT.out _ HB3.out).mono ?_
  rintro e w4 ⟨v4, rfl, hv4, hB4⟩
  obtain ⟨a4, c4, rfl, _, _, hx4⟩ := hv4
  have HX4 := Lib.hid hx4
  have HB4 := Lib.hid (HB3.out.trans (hB4.mono HB3.out.size))
  clear hx4 hB4
  go_wp2_with fail
  refine (HI.out _ _ _ HX4).mono ?_
  rintro e w5 ⟨rfl, hB5⟩
  have HX5 := Lib.hid (HX4.out.below hB5)
  have HB5 := Lib.hid (HB4.out.trans (hB5.mono HB4.out.size))
  clear hB5
  go_wp2_with fail
  refine (HT.out _ HB5.out).mono ?_
  rintro e w6 ⟨v6, rfl, hv6, hB6⟩
  obtain ⟨a6, c6, rfl, _, _, hx6⟩ := hv6
  have HX6 := Lib.hid hx6
  have HX56 := Lib.hid (HX5.out.below hB6)
  have HB6 := Lib.hid (HB5.out.trans (hB6.mono HB5.out.size))
  clear hx6 hB6
  go_wp2_with fail
  refine (eqDiskS_same a4 a6 c4 c6 ds _ hl HX56 HX6).mono ?_
  rintro e w7 ⟨rfl, hB7⟩
  have HB7 := Lib.hid (HB6.out.trans (hB7.mono HB6.out.size))
  clear hB7
  go_wp2
  go_ret
  exact ⟨rfl, HB7.out⟩

theorem walk (u0 : Value) (x0 : List DiskD) (w : World) (w0 : DksV w u0 x0) (wn0 : ∀ j, j < x0.length → DiskBd (x0.getD j disk0)) :
    Calls Try.prog 14 #[u0] w fun e w' => e = .returned (.bool true) ∧ Below w.heap.size w w' := by
  obtain ⟨a, cap, rfl, h1, h2, h3⟩ := w0
  exact main a cap x0 w (by omega) wn0 h3

set_option maxRecDepth 100000 in
theorem lifted (os : Os) (started : os.Started) (H : Type) (enc : TypeId × Value → H) :
    ReturnsInHanded {} Try.checked os 14 .any (Rows.fnExactStripeOkSpec.pre6 enc Try.prog Try.f14 Rows.fnExactStripeOkRow.domain false) (Rows.fnExactStripeOkSpec.post enc Try.prog Try.f14 false true false false) := by
  refine returnsInHanded_of_change (C := Try.checked) own started (by kernel_rfl) Try.func14
    (ChangeSpec.witness6 (enc := enc) (C := Try.checked) false ⟨#[], #[.slice none 0 0], []⟩ 8 (by kernel_rfl) (by kernel_rfl) (by kernel_rfl) (by kernel_rfl)) ?_
  intro W base args ds gs before hval0 hW hcnd _
  have hval : ∀ (j : Nat) t v, Try.f14.params[j]? = some t → args[j]? = some v → Value.okWide Try.prog W .any base t v := hval0
  have hW' := hW
  obtain ⟨p, q, hA0, hV, rfl, hfz, hnd⟩ := hW
  have hA : DataW.TrodAll enc Try.prog W 0 (fun _ => true) true Try.f14.params.toList args.toList ds p := hA0
  rw [Try.params14] at hA hval
  obtain ⟨v0, vs0, d0, ds0, p0, q0, hargs, rfl, rfl, h0, r0⟩ := trodAll_cons hA
  obtain ⟨rfl, rfl, rfl⟩ := trodAll_nil r0
  obtain rfl : args = #[v0] := by cases args; simp_all
  obtain ⟨rfl, rfl⟩ := trodVars_none hV
  have k0 := h0
  have lt0 : ∀ x ∈ p0, x.block < W.heap.size := by obtain ⟨m, hm⟩ := k0; exact DataW.trod_lt m _ _ _ hm
  obtain ⟨a0, len0, cap0, rfl⟩ := okWide_slice Try.underlying73 (hval 0 73 v0 rfl rfl)
  obtain ⟨x0, w0, wn0⟩ : ∃ ds, DksV W (.slice a0 len0 cap0) ds ∧ ∀ j, j < ds.length → DiskBd (ds.getD j disk0) := by
    obtain ⟨fuel, hf⟩ := h0
    exact in_disks hf
  clear hA0 hval0
  refine (walk (.slice a0 len0 cap0) x0 W w0 wn0).mono fun e W' ⟨he, bel⟩ => ?_
  subst he
  exact ⟨_, rfl, _, _, _, [], _, [], hW', trodAll_mk1 (shut_bool Try.underlying4 _), (trodAll_cons_mk (Below.trod laidOut (by kernel_rfl) (of_decide_eq_true (by kernel_rfl)) k0 bel lt0) trodAll_mk0), rfl, bel.frame _, fun h => by cases h⟩

theorem over : Rows.fnExactStripeOkRow.holds Try.pinned (OpenSpec.ofChange Rows.fnExactStripeOkSpec) :=
  OpenClaim.holds_of_wide 14 Try.f14 rfl rfl rfl rfl rfl rfl rfl ⟨rfl, rfl, rfl, rfl, rfl⟩ rfl rfl rfl rfl rfl (by kernel_rfl) Try.func14 (by kernel_rfl)
    (of_decide_eq_true (by kernel_rfl)) (by unfold Func.isWrapper; first | (rw [if_pos (by decide +kernel)]; kernel_rfl) | (rw [if_neg (by decide +kernel)]; exact ⟨rfl, rfl⟩))
    (fun os started H enc _ => lifted os started H enc)

end FnExactStripeOk

theorem FnExactStripeOk_holds : Rows.FnExactStripeOkSaid := FnExactStripeOk.over

end Go.Proofs.Ytpbdhpomlakinaa

/- 'laws.FnExactMendOf' returns true at every arguments: MendOf of the program answers as MendOf of the specification, and changes no argument. Conditions: none. -/
import Derived.Test.YtphenphfficnaabK
import Derived.Test.YtphenphfficnaabE1
namespace Go.Proofs.Ytphenphfficnaab
open Go.ChangeShapes Go.WideShapes Go.ChangeAt Go.RowKit
open Go.ChangeMaps (open_string shut_string)
namespace FnExactMendOf
set_option linter.unusedVariables false

theorem det (xs : List ByteArray) (p : ByteArray) (i : Int) : ∃ (s : ByteArray) (b : Bool), ∀ w e w', Mended xs p i w e w' → e = .returned (.tuple #[.string s, .bool b]) ∧ Below w.heap.size w w' := by
  by_cases h : ∃ m : Nat, i = m ∧ MendOk xs p m
  · obtain ⟨m, hm, hk⟩ := h
    refine ⟨parOf (xs.set m p), true, fun w e w' hr => ⟨hr.1.elim (fun k => ?_) (fun k => (k.1 m hm hk).elim), hr.2⟩⟩
    obtain ⟨m', hm', _, he⟩ := k
    obtain rfl : m = m' := by omega
    exact he
  · exact ⟨_, _, fun w e w' hr => ⟨hr.1.elim (fun k => by obtain ⟨m, hm, hk, _⟩ := k; exact (h ⟨m, hm, hk⟩).elim) (fun k => k.2), hr.2⟩⟩

set_option maxRecDepth 100000 in
set_option maxHeartbeats 1000000 in
theorem main (a0 : Option Addr) (cap0 : Nat) (x0 : List ByteArray) (a1 : ByteArray) (a2i : Int) (w : World) (H0 : Hid (InStrs w a0 x0)) (h1 : a1.size ≤ 1048576) :
    Calls Try.prog 7 #[.slice a0 x0.length cap0, .string a1, .int .i64 a2i] w fun e w' => e = .returned (.bool true) ∧ Below w.heap.size w w' := by
  obtain ⟨s, b, hdet⟩ := det x0 a1 a2i
  have Hdet := Lib.hid hdet
  clear hdet
  go_enter Try.func7, Try.ntmps7
  go_wp2_with fail
  refine (szStringS_any a0 cap0 x0 1048576 _ (by omega) H0).mono ?_
  rintro e w1 ⟨he, rfl⟩
  rcases he with rfl | ⟨r, rfl, hr, _⟩
  · go_wp2
    go_ret
    exact ⟨rfl, Below.refl _ _⟩
  · have hl : x0.length ≤ 1048576 := by omega
    have hl63 : x0.length ≤ maxLen := H0.out.2.1
    have d0 : decide ((r : Int) < 0) = false := by simp
    clear hr
    go_wp2_with fail
    refine (toStringS_any a0 cap0 x0 _ hl H0.out.1).mono ?_
    rintro e w2 ⟨v2, rfl, hown2, hB2⟩
    obtain ⟨a2, c2, rfl, hc2, _, hs2⟩ := strs_of_owns hown2
    have HS2 := Lib.hid hs2
    have HB2 := Lib.hid hB2
    clear hown2 hs2 hB2
    go_wp2_with fail
    refine (specMend_any a2 c2 x0 a1 a2i _ hl HS2).mono ?_
    intro e w3 hm3
    obtain ⟨rfl, hB3⟩ := Hdet.out _ _ _ hm3
    have HB3 := Lib.hid (HB2.out.trans (hB3.mono HB2.out.size))
    clear hB3 hm3
    go_wp2_with fail
    refine (toStringS_any a0 cap0 x0 _ hl (H0.out.1.below HB3.out)).mono ?_
    rintro e w4 ⟨v4, rfl, hown4, hB4⟩
    obtain ⟨a4, c4, rfl, hc4, _, hs4⟩ := strs_of_owns hown4
    have HS4 := Lib.hid hs4
    have HB4 := Lib.hid (HB3.out.trans (hB4.mono HB3.out.size))
    clear hown4 hs4 hB4
    go_wp2_with fail
    refine (implMend_any a4 c4 x0 a1 a2i _ hl HS4).mono ?_
    intro e w5 hm5
    obtain ⟨rfl, hB5⟩ := Hdet.out _ _ _ hm5
    have HS5 := Lib.hid (HS4.out.below hB5)
    have HB5 := Lib.hid (HB4.out.trans (hB5.mono HB4.out.size))
    clear hB5 hm5
    have e2 : (b != b) = false := by simp
    go_wp2_with fail
    refine (toStringS_any a0 cap0 x0 _ hl (H0.out.1.below HB5.out)).mono ?_
    rintro e w6 ⟨v6, rfl, hown6, hB6⟩
    obtain ⟨a6, c6, rfl, _, _, hs6⟩ := strs_of_owns hown6
    have HS6 := Lib.hid hs6
    have HS56 := Lib.hid (HS5.out.below hB6)
    have HB6 := Lib.hid (HB5.out.trans (hB6.mono HB5.out.size))
    clear hown6 hs6 hB6
    go_wp2_with fail
    refine (eqStringS_same a4 a6 c4 c6 x0 _ hl63 HS56 HS6).mono ?_
    rintro e w7 ⟨rfl, hB7⟩
    go_wp2
    go_ret
    exact ⟨rfl, HB6.out.trans (hB7.mono HB6.out.size)⟩

set_option maxRecDepth 100000 in
set_option maxHeartbeats 1000000 in
theorem walk (a0 : Option Addr) (cap0 : Nat) (x0 : List ByteArray) (a1 : ByteArray) (a2 : Int) (w : World) (w0 : InStrs w a0 x0) (w1 : a1.size ≤ maxLen) (w2 : (Lit.int .i64 a2).wf = true) :
    Calls Try.prog 7 #[.slice a0 x0.length cap0, .string a1, .int .i64 a2] w fun e w' => e = .returned (.bool true) ∧ Below w.heap.size w w' := by
  by_cases h1 : a1.size ≤ 1048576
  · exact main a0 cap0 x0 a1 a2 w w0 h1
  · clear w0 w1 w2
    go_enter Try.func7, Try.ntmps7
    go_wp2
    go_ret
    exact ⟨rfl, Below.refl _ _⟩

set_option maxRecDepth 100000 in
theorem lifted (os : Os) (started : os.Started) (H : Type) (enc : TypeId × Value → H) :
    ReturnsInHanded {} Try.checked os 7 .any (Rows.fnExactMendOfSpec.pre6 enc Try.prog Try.f7 Rows.fnExactMendOfRow.domain false) (Rows.fnExactMendOfSpec.post enc Try.prog Try.f7 false true false false) := by
  refine returnsInHanded_of_change (C := Try.checked) own started (by kernel_rfl) Try.func7
    (ChangeSpec.witness6 (enc := enc) (C := Try.checked) false ⟨#[], #[.slice none 0 0, .string ByteArray.empty, .int .i64 0], []⟩ 8 (by kernel_rfl) (by kernel_rfl) (by kernel_rfl) (by kernel_rfl)) ?_
  intro W base args ds gs before hval0 hW hcnd _
  have hval : ∀ (j : Nat) t v, Try.f7.params[j]? = some t → args[j]? = some v → Value.okWide Try.prog W .any base t v := hval0
  have hW' := hW
  obtain ⟨p, q, hA0, hV, rfl, hfz, hnd⟩ := hW
  have hA : DataW.TrodAll enc Try.prog W 0 (fun _ => true) true Try.f7.params.toList args.toList ds p := hA0
  rw [Try.params7] at hA hval
  obtain ⟨v0, vs0, d0, ds0, p0, q0, hargs, rfl, rfl, h0, r0⟩ := trodAll_cons hA
  obtain ⟨v1, vs1, d1, ds1, p1, q1, rfl, rfl, rfl, h1, r1⟩ := trodAll_cons r0
  obtain ⟨v2, vs2, d2, ds2, p2, q2, rfl, rfl, rfl, h2, r2⟩ := trodAll_cons r1
  obtain ⟨rfl, rfl, rfl⟩ := trodAll_nil r2
  obtain rfl : args = #[v0, v1, v2] := by cases args; simp_all
  obtain ⟨rfl, rfl⟩ := trodVars_none hV
  have k0 := h0
  have lt0 : ∀ x ∈ p0, x.block < W.heap.size := by obtain ⟨m, hm⟩ := k0; exact DataW.trod_lt m _ _ _ hm
  obtain ⟨a0, len0, cap0, rfl⟩ := okWide_slice Try.underlying24 (hval 0 24 v0 rfl rfl)
  obtain ⟨x0, u0, w0⟩ : ∃ xs, len0 = xs.length ∧ InStrs W a0 xs := by
    obtain ⟨fuel, hf⟩ := h0
    rcases open_strings Try.underlying24 Try.underlying9 (by kernel_rfl) hf with ⟨hcs, _⟩ | ⟨x, l, c, ss, hcs, _, hl, hm, hz, _, hcell, hwz⟩
    · simp [Value.cells] at hcs
      obtain ⟨rfl, rfl, rfl⟩ := hcs
      exact ⟨[], rfl, .inl rfl, by simp [maxLen], fun j hj => by simp at hj⟩
    · simp [Value.cells] at hcs
      obtain ⟨rfl, rfl, rfl⟩ := hcs
      exact inStrs_of hl hm (by simpa using hz) hcell hwz
  subst u0
  have k1 := h1
  have lt1 : ∀ x ∈ p1, x.block < W.heap.size := by obtain ⟨m, hm⟩ := k1; exact DataW.trod_lt m _ _ _ hm
  obtain ⟨a1, rfl, rfl, e1, w1⟩ := open_string Try.underlying9 (hval 1 9 v1 rfl rfl) h1
  have k2 := h2
  have lt2 : ∀ x ∈ p2, x.block < W.heap.size := by obtain ⟨m, hm⟩ := k2; exact DataW.trod_lt m _ _ _ hm
  obtain ⟨a2, rfl, rfl, e2, w2⟩ := open_int Try.underlying3 (hval 2 3 v2 rfl rfl) h2
  clear hA0 hval0
  refine (walk a0 cap0 x0 a1 a2 W w0 w1 w2).mono fun e W' ⟨he, bel⟩ => ?_
  subst he
  exact ⟨_, rfl, _, _, _, [], _, [], hW', trodAll_mk1 (shut_bool Try.underlying4 _), (trodAll_cons_mk (Below.trod laidOut (by kernel_rfl) (of_decide_eq_true (by kernel_rfl)) k0 bel lt0) (trodAll_cons_mk (Below.trod laidOut (by kernel_rfl) (of_decide_eq_true (by kernel_rfl)) k1 bel lt1) (trodAll_cons_mk (Below.trod laidOut (by kernel_rfl) (of_decide_eq_true (by kernel_rfl)) k2 bel lt2) trodAll_mk0))), rfl, bel.frame _, fun h => by cases h⟩

theorem over : Rows.fnExactMendOfRow.holds Try.pinned (OpenSpec.ofChange Rows.fnExactMendOfSpec) :=
  OpenClaim.holds_of_wide 7 Try.f7 rfl rfl rfl rfl rfl rfl rfl ⟨rfl, rfl, rfl, rfl, rfl⟩ rfl rfl rfl rfl rfl (by kernel_rfl) Try.func7 (by kernel_rfl)
    (of_decide_eq_true (by kernel_rfl)) (by unfold Func.isWrapper; first | (rw [if_pos (by decide +kernel)]; kernel_rfl) | (rw [if_neg (by decide +kernel)]; exact ⟨rfl, rfl⟩))
    (fun os started H enc _ => lifted os started H enc)

end FnExactMendOf

theorem FnExactMendOf_holds : Rows.FnExactMendOfSaid := FnExactMendOf.over

end Go.Proofs.Ytphenphfficnaab

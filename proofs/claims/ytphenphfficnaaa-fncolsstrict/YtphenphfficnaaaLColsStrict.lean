/- 'laws.FnColsStrict' returns true at every code: what TextOf reads is split into just these columns again. Conditions: none. -/
import Derived.Test.YtphenphfficnaaaK
import Derived.Test.YtphenphfficnaaaD6
import Derived.Test.YtphenphfficnaaaT7
import Derived.Test.YtphenphfficnaaaM6
namespace Go.Proofs.Ytphenphfficnaaa
open Go.ChangeShapes Go.WideShapes Go.ChangeAt Go.RowKit
open Go.ChangeMaps (open_string shut_string)
namespace FnColsStrict
set_option linter.unusedVariables false

set_option maxRecDepth 100000 in
set_option maxHeartbeats 4000000 in
theorem main (a0 : Option Addr) (len0 cap0 : Nat) (z0 : List Int) (w : World) (H0 : Hid (IsBytes w a0 len0 cap0 z0)) (hl0 : len0 ≤ 1048576) :
    Calls Try.prog 8 #[.slice a0 len0 cap0] w fun e w' => e = .returned (.bool true) ∧ Below w.heap.size w w' := by
  go_enter Try.func8, Try.ntmps8
  go_wp2_with fail
  refine (drawText_any a0 len0 cap0 z0 _ H0.out).mono ?_
  rintro e w1 ⟨a, cap, xs, n, rfl, hl6, hn, hown, hB1⟩
  obtain ⟨a', cap', hv, hlc, _, hst⟩ := strs_of_owns hown
  cases hv
  have Ha := Lib.hid hst
  have q1 := hB1.size
  clear hown hst
  go_wp2_with fail
  refine (implText_any a cap xs n _ hlc Ha).mono ?_
  rintro e w2 ⟨hr2, hB2⟩
  have Ha2 := Lib.hid (Ha.out.below hB2)
  have q2 := hB2.size
  by_cases htx : TextOk xs n
  · obtain ⟨_, rfl⟩ | ⟨hno, _⟩ := hr2
    · have hn0 : 1 ≤ n ∧ n ≤ 3 * (xs.length : Int) := by have := htx.1.1; have := htx.2.1; omega
      obtain ⟨m, rfl⟩ := Int.eq_ofNat_of_zero_le (show 0 ≤ n by omega)
      have hts : ((cat xs).extract 0 m).size = m := cut_size _ _ (by rw [cat_size htx.1]; omega)
      have Hcols := Lib.hid ((text_iff htx.1 m (by omega)).2 htx)
      have Htx := Lib.hid htx
      rw [show ((m : Int)).toNat = m by omega]
      generalize hct : (cat xs).extract 0 m = t at hts Hcols
      have Hct := Lib.hid hct
      have Hts := Lib.hid hts
      have htm : t.size ≤ maxLen := by rw [hts]; unfold maxLen; omega
      have Htm := Lib.hid htm
      have hte : ((t.size : Int) == (m : Int)) = true := beq_iff_eq.2 (by omega)
      have HB2 : Hid (Below w.heap.size w w2) := hB1.trans (hB2.mono q1)
      clear hct hts htm hB1 hB2 htx
      go_wp2_with fail
      refine (specText_any a cap xs _ _ (by unfold maxLen; omega) Ha2).mono ?_
      rintro e w3 ⟨⟨_, rfl⟩ | ⟨hno, _⟩, hB3⟩
      · rw [show ((m : Int)).toNat = m by omega, Hct.out]
        have Ha3 := Lib.hid (Ha2.out.below hB3)
        have q3 := hB3.size
        have HB3 : Hid (Below w.heap.size w w3) := HB2.out.trans (hB3.mono (by omega))
        clear hB3
        go_wp2_with fail
        refine (implCols_any t Htm.out _).mono ?_
        rintro e w4 ⟨v4, rfl, hown4, hB4⟩
        rw [Hcols.out] at hown4
        obtain ⟨b4, cap4, rfl, _, _, hst4⟩ := strs_of_owns hown4
        have Ha4 := Lib.hid (Ha3.out.below hB4)
        have Hb4 := Lib.hid hst4
        have q4 := hB4.size
        have HB4 : Hid (Below w.heap.size w w4) := HB3.out.trans (hB4.mono (by omega))
        clear hown4 hB4 hst4
        go_wp2_with fail
        refine (lpaTexts_same b4 a cap4 cap xs _ (by unfold maxLen; omega) Hb4 Ha4).mono ?_
        rintro e w5 ⟨rfl, hB5⟩
        go_wp2
        go_ret
        exact ⟨rfl, HB4.out.trans (hB5.mono (by omega))⟩
      · exact absurd Htx.out hno
    · exact absurd htx hno
  · obtain ⟨hyes, _⟩ | ⟨_, rfl⟩ := hr2
    · exact absurd hyes htx
    · have Htx := Lib.hid htx
      have HB2 : Hid (Below w.heap.size w w2) := hB1.trans (hB2.mono q1)
      clear htx hB1 hB2
      go_wp2_with fail
      refine (specText_any a cap xs _ _ (by unfold maxLen; omega) Ha2).mono ?_
      rintro e w3 ⟨⟨hyes, _⟩ | ⟨_, rfl⟩, hB3⟩
      · exact absurd hyes Htx.out
      · have HB3 : Hid (Below w.heap.size w w3) := HB2.out.trans (hB3.mono (by omega))
        clear hB3
        go_wp2
        go_ret
        exact ⟨rfl, HB3.out⟩

set_option maxRecDepth 100000 in
set_option maxHeartbeats 1000000 in
theorem walk (a0 : Option Addr) (len0 cap0 : Nat) (z0 : List Int) (w : World) (w0 : IsBytes w a0 len0 cap0 z0) :
    Calls Try.prog 8 #[.slice a0 len0 cap0] w fun e w' => e = .returned (.bool true) ∧ Below w.heap.size w w' := by
  by_cases hl0 : len0 ≤ 1048576
  · exact main a0 len0 cap0 z0 w (Lib.hid w0) hl0
  · clear w0
    go_enter Try.func8, Try.ntmps8
    go_wp2
    go_ret
    exact ⟨rfl, Below.refl _ _⟩

set_option maxRecDepth 100000 in
theorem lifted (os : Os) (started : os.Started) (H : Type) (enc : TypeId × Value → H) :
    ReturnsInHanded {} Try.checked os 8 .any (Rows.fnColsStrictSpec.pre6 enc Try.prog Try.f8 Rows.fnColsStrictRow.domain false) (Rows.fnColsStrictSpec.post enc Try.prog Try.f8 false true false false) := by
  refine returnsInHanded_of_change (C := Try.checked) own started (by kernel_rfl) Try.func8
    (ChangeSpec.witness6 (enc := enc) (C := Try.checked) false ⟨#[], #[.slice none 0 0], []⟩ 8 (by kernel_rfl) (by kernel_rfl) (by kernel_rfl) (by kernel_rfl)) ?_
  intro W base args ds gs before hval0 hW hcnd _
  have hval : ∀ (j : Nat) t v, Try.f8.params[j]? = some t → args[j]? = some v → Value.okWide Try.prog W .any base t v := hval0
  have hW' := hW
  obtain ⟨p, q, hA0, hV, rfl, hfz, hnd⟩ := hW
  have hA : DataW.TrodAll enc Try.prog W 0 (fun _ => true) true Try.f8.params.toList args.toList ds p := hA0
  rw [Try.params8] at hA hval
  obtain ⟨v0, vs0, d0, ds0, p0, q0, hargs, rfl, rfl, h0, r0⟩ := trodAll_cons hA
  obtain ⟨rfl, rfl, rfl⟩ := trodAll_nil r0
  obtain rfl : args = #[v0] := by cases args; simp_all
  obtain ⟨rfl, rfl⟩ := trodVars_none hV
  have k0 := h0
  have lt0 : ∀ x ∈ p0, x.block < W.heap.size := by obtain ⟨m, hm⟩ := k0; exact DataW.trod_lt m _ _ _ hm
  obtain ⟨a0, len0, cap0, rfl⟩ := okWide_slice Try.underlying22 (hval 0 22 v0 rfl rfl)
  obtain ⟨z0, w0⟩ : ∃ zs, IsBytes W a0 len0 cap0 zs := by
    obtain ⟨fuel, hf⟩ := h0
    rcases open_ints Try.underlying22 Try.underlying5 (by kernel_rfl) hf with ⟨hcs, _⟩ | ⟨x, l, c, zs, hcs, _, hl, hm, hz, _, hcell, hwz⟩
    · simp [Value.cells] at hcs
      obtain ⟨rfl, rfl, rfl⟩ := hcs
      exact ⟨[], .inl ⟨rfl, rfl, rfl, rfl⟩⟩
    · simp [Value.cells] at hcs
      obtain ⟨rfl, rfl, rfl⟩ := hcs
      exact ⟨zs, .inr ⟨_, rfl, hl, hm, by simpa using hz, hcell, hwz⟩⟩
  clear hA0 hval0
  refine (walk a0 len0 cap0 z0 W w0).mono fun e W' ⟨he, bel⟩ => ?_
  subst he
  exact ⟨_, rfl, _, _, _, [], _, [], hW', trodAll_mk1 (shut_bool Try.underlying4 _), (trodAll_cons_mk (Below.trod laidOut (by kernel_rfl) (of_decide_eq_true (by kernel_rfl)) k0 bel lt0) trodAll_mk0), rfl, bel.frame _, fun h => by cases h⟩

theorem over : Rows.fnColsStrictRow.holds Try.pinned (OpenSpec.ofChange Rows.fnColsStrictSpec) :=
  OpenClaim.holds_of_wide 8 Try.f8 rfl rfl rfl rfl rfl rfl rfl ⟨rfl, rfl, rfl, rfl, rfl⟩ rfl rfl rfl rfl rfl (by kernel_rfl) Try.func8 (by kernel_rfl)
    (of_decide_eq_true (by kernel_rfl)) (by unfold Func.isWrapper; first | (rw [if_pos (by decide +kernel)]; kernel_rfl) | (rw [if_neg (by decide +kernel)]; exact ⟨rfl, rfl⟩))
    (fun os started H enc _ => lifted os started H enc)

end FnColsStrict

theorem FnColsStrict_holds : Rows.FnColsStrictSaid := FnColsStrict.over

end Go.Proofs.Ytphenphfficnaaa

/- 'laws.FnColsBack' returns true at every code: columns are as long as they should be, as few as can be, and the text is read back from them. Conditions: none. -/
import Derived.Test.YtphenphfficnaaaK
import Derived.Test.YtphenphfficnaaaD6
import Derived.Test.YtphenphfficnaaaT7
import Derived.Test.YtphenphfficnaaaM6
namespace Go.Proofs.Ytphenphfficnaaa
open Go.ChangeShapes Go.WideShapes Go.ChangeAt Go.RowKit
open Go.ChangeMaps (open_string shut_string)
namespace FnColsBack
set_option linter.unusedVariables false

set_option maxRecDepth 100000 in
set_option maxHeartbeats 4000000 in
theorem main (a0 : Option Addr) (len0 cap0 : Nat) (z0 : List Int) (w : World) (H0 : Hid (IsBytes w a0 len0 cap0 z0)) (hl0 : len0 ≤ 1048576) :
    Calls Try.prog 7 #[.slice a0 len0 cap0] w fun e w' => e = .returned (.bool true) ∧ Below w.heap.size w w' := by
  go_enter Try.func7, Try.ntmps7
  go_wp2_with fail
  refine (drawCols_any a0 len0 cap0 z0 _ H0.out).mono ?_
  rintro e w1 ⟨s, rfl, hs, hB1⟩
  have hsm : s.size ≤ maxLen := by unfold maxLen; omega
  have Hsm := Lib.hid hsm
  clear hsm
  go_wp2_with fail
  refine (implCols_any s Hsm.out _).mono ?_
  rintro e w2 ⟨v, rfl, hown, hB2⟩
  obtain ⟨a, cap, rfl, hlc, _, hst⟩ := strs_of_owns hown
  go_wp2_with fail
  refine (specCols_any s Hsm.out _).mono ?_
  rintro e w3 ⟨v3, rfl, hown3, hB3⟩
  obtain ⟨b, capb, rfl, _, _, hst3⟩ := strs_of_owns hown3
  have Ha := Lib.hid (hst.below hB3)
  have Hb := Lib.hid hst3
  have q1 := hB1.size
  have q2 := hB2.size
  have q3 := hB3.size
  have HB3 : Hid (Below w.heap.size w w3) := hB1.trans ((hB2.mono q1).trans (hB3.mono (by omega)))
  have hcl : (colsOf s).length ≤ 3 := by unfold colsOf; split <;> (try rw [colsTo_length]) <;> (first | omega | simp)
  clear hown hown3 hB1 hB2 hB3 hst hst3
  go_wp2_with fail
  refine (lpaTexts_same a b cap capb (colsOf s) _ (by unfold maxLen; omega) Ha Hb).mono ?_
  rintro e w4 ⟨rfl, hB4⟩
  have Ha4 := Lib.hid (Ha.out.below hB4)
  have q4 := hB4.size
  have HB4 : Hid (Below w.heap.size w w4) := HB3.out.trans (hB4.mono (by omega))
  clear hB4 Ha Hb HB3
  by_cases h0 : (colsOf s).length = 0
  · have d0 : (((colsOf s).length : Int) == 0) = true := beq_iff_eq.2 (by omega)
    clear h0
    go_wp2_with fail
    refine (specCols_any s Hsm.out _).mono ?_
    rintro e w5 ⟨v5, rfl, hown5, hB5⟩
    obtain ⟨b5, capb5, rfl, _, _, hst5⟩ := strs_of_owns hown5
    have Ha5 := Lib.hid (Ha4.out.below hB5)
    have Hb5 := Lib.hid hst5
    have q5 := hB5.size
    have HB5 : Hid (Below w.heap.size w w5) := HB4.out.trans (hB5.mono (by omega))
    clear hown5 hB5 hst5
    go_wp2_with fail
    refine (lpaTexts_same a b5 cap capb5 (colsOf s) _ (by unfold maxLen; omega) Ha5 Hb5).mono ?_
    rintro e w6 ⟨rfl, hB6⟩
    go_wp2
    go_ret
    exact ⟨rfl, HB5.out.trans (hB6.mono (by omega))⟩
  · have d0 : (((colsOf s).length : Int) == 0) = false := beq_eq_false_iff_ne.2 (by omega)
    have h9 : s.size ≤ 9 := by
      by_cases h : s.size ≤ 9
      · exact h
      · exact absurd (show (colsOf s).length = 0 by unfold colsOf; rw [if_neg h]; rfl) h0
    have hlen := colsOf_len s h9
    have h1 : 1 ≤ s.size := by omega
    have Hok := Lib.hid (colsOf_ok s h1 h9)
    have Hbk := Lib.hid (text_back s h1 h9)
    have hqe : (((colsOf s).length : Int) == ((s.size : Int) + 3 - 1) / 3) = true := beq_iff_eq.2 (by omega)
    have Hlen := Lib.hid hlen
    clear hlen
    generalize colsOf s = xs at *
    obtain ⟨bk, o, rfl, hc⟩ := Ha4.out.resolve_left (fun e => by subst e; simp at h0)
    have Hc := Lib.hid hc
    clear hc
    go_wp2_with fail
    go_loop [5] (fun i => ∃ k : Nat, i = .int .i64 (k : Int) ∧ k ≤ xs.length) (fun i => xs.length - (intOf i).toNat)
    case atStart => exact ⟨0, rfl, by omega⟩
    case round =>
      obtain ⟨k, rfl, hk⟩ := hrel
      by_cases hlt : k < xs.length
      · have hck := Hc.out k hlt
        have hx3 := Hok.out.2 k hlt
        generalize xs.getD k ByteArray.empty = x at hck hx3
        have d3 : ((x.size : Int) != 3) = false := by simp; omega
        clear hx3
        go_wp2
        exact ⟨⟨k + 1, by go_num, by omega⟩, by simp [intOf]; omega⟩
      · go_wp2_with fail
        refine (implText_any _ cap xs _ _ hlc Ha4).mono ?_
        rintro e w7 ⟨⟨hok, rfl⟩ | ⟨hno, rfl⟩, hB7⟩
        · rw [show ((s.size : Int)).toNat = s.size by omega, Hbk.out.2]
          have HB7 := Lib.hid (HB4.out.trans (hB7.mono (by omega)))
          clear hok hB7
          go_wp2
          go_ret
          exact ⟨rfl, HB7.out⟩
        · exact absurd Hbk.out.1 hno

set_option maxRecDepth 100000 in
set_option maxHeartbeats 1000000 in
theorem walk (a0 : Option Addr) (len0 cap0 : Nat) (z0 : List Int) (w : World) (w0 : IsBytes w a0 len0 cap0 z0) :
    Calls Try.prog 7 #[.slice a0 len0 cap0] w fun e w' => e = .returned (.bool true) ∧ Below w.heap.size w w' := by
  by_cases hl0 : len0 ≤ 1048576
  · exact main a0 len0 cap0 z0 w (Lib.hid w0) hl0
  · clear w0
    go_enter Try.func7, Try.ntmps7
    go_wp2
    go_ret
    exact ⟨rfl, Below.refl _ _⟩

set_option maxRecDepth 100000 in
theorem lifted (os : Os) (started : os.Started) (H : Type) (enc : TypeId × Value → H) :
    ReturnsInHanded {} Try.checked os 7 .any (Rows.fnColsBackSpec.pre6 enc Try.prog Try.f7 Rows.fnColsBackRow.domain false) (Rows.fnColsBackSpec.post enc Try.prog Try.f7 false true false false) := by
  refine returnsInHanded_of_change (C := Try.checked) own started (by kernel_rfl) Try.func7
    (ChangeSpec.witness6 (enc := enc) (C := Try.checked) false ⟨#[], #[.slice none 0 0], []⟩ 8 (by kernel_rfl) (by kernel_rfl) (by kernel_rfl) (by kernel_rfl)) ?_
  intro W base args ds gs before hval0 hW hcnd _
  have hval : ∀ (j : Nat) t v, Try.f7.params[j]? = some t → args[j]? = some v → Value.okWide Try.prog W .any base t v := hval0
  have hW' := hW
  obtain ⟨p, q, hA0, hV, rfl, hfz, hnd⟩ := hW
  have hA : DataW.TrodAll enc Try.prog W 0 (fun _ => true) true Try.f7.params.toList args.toList ds p := hA0
  rw [Try.params7] at hA hval
  obtain ⟨v0, vs0, d0, ds0, p0, q0, hargs, rfl, rfl, h0, r0⟩ := trodAll_cons hA
  obtain ⟨rfl, rfl, rfl⟩ := trodAll_nil r0
  obtain rfl : args = #[v0] := by cases args; simp_all
  obtain ⟨rfl, rfl⟩ := trodVars_none hV
  have k0 := h0
  have lt0 : ∀ x ∈ p0, x.block < W.heap.size := by obtain ⟨m, hm⟩ := k0; exact DataW.trod_lt m _ _ _ hm
  obtain ⟨a0, len0, cap0, rfl⟩ := okWide_slice Try.underlying22 (hval 0 22 v0 rfl rfl)
  obtain ⟨z0, w0⟩ : ∃ zs, IsBytes W a0 len0 cap0 zs := by
    obtain ⟨fuel, hf⟩ := h0
    rcases open_ints Try.underlying22 Try.underlying5 (by kernel_rfl) hf with ⟨hcs, _⟩ | ⟨x, l, c, zs, hcs, _, hl, hm, hz, _, hcell, hwz⟩
    · simp [Value.cells] at hcs
      obtain ⟨rfl, rfl, rfl⟩ := hcs
      exact ⟨[], .inl ⟨rfl, rfl, rfl, rfl⟩⟩
    · simp [Value.cells] at hcs
      obtain ⟨rfl, rfl, rfl⟩ := hcs
      exact ⟨zs, .inr ⟨_, rfl, hl, hm, by simpa using hz, hcell, hwz⟩⟩
  clear hA0 hval0
  refine (walk a0 len0 cap0 z0 W w0).mono fun e W' ⟨he, bel⟩ => ?_
  subst he
  exact ⟨_, rfl, _, _, _, [], _, [], hW', trodAll_mk1 (shut_bool Try.underlying4 _), (trodAll_cons_mk (Below.trod laidOut (by kernel_rfl) (of_decide_eq_true (by kernel_rfl)) k0 bel lt0) trodAll_mk0), rfl, bel.frame _, fun h => by cases h⟩

theorem over : Rows.fnColsBackRow.holds Try.pinned (OpenSpec.ofChange Rows.fnColsBackSpec) :=
  OpenClaim.holds_of_wide 7 Try.f7 rfl rfl rfl rfl rfl rfl rfl ⟨rfl, rfl, rfl, rfl, rfl⟩ rfl rfl rfl rfl rfl (by kernel_rfl) Try.func7 (by kernel_rfl)
    (of_decide_eq_true (by kernel_rfl)) (by unfold Func.isWrapper; first | (rw [if_pos (by decide +kernel)]; kernel_rfl) | (rw [if_neg (by decide +kernel)]; exact ⟨rfl, rfl⟩))
    (fun os started H enc _ => lifted os started H enc)

end FnColsBack

theorem FnColsBack_holds : Rows.FnColsBackSaid := FnColsBack.over

end Go.Proofs.Ytphenphfficnaaa

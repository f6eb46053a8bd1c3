/- 'laws.FnParityMore' returns true at every two codes: a column more is one more in the parity; the same twice is none. Conditions: none. -/
import Derived.Test.YtphenphfficnaaaK
import Derived.Test.YtphenphfficnaaaD6
import Derived.Test.YtphenphfficnaaaM8
namespace Go.Proofs.Ytphenphfficnaaa
open Go.ChangeShapes Go.WideShapes Go.ChangeAt Go.RowKit
open Go.ChangeMaps (open_string shut_string)
namespace FnParityMore
set_option linter.unusedVariables false

theorem parityOf {ys : List ByteArray} {q : ByteArray} {w : World} {base g c n : Nat} (hn : n = ys.length) (hown : w.ownsRow base 9 1 (.slice (some ⟨g, 0, none⟩) n c) n (ys.map Value.string)) (hb : ColsOk ys ∧ parOf ys = q) :
    Calls Try.prog 30 #[.slice (some ⟨g, 0, none⟩) n c] w fun e w' => e = .returned (.string q) ∧ Below w.heap.size w w' := by
  subst hn
  obtain ⟨a5, c5, hv5, _, _, hst5⟩ := strs_of_owns hown
  cases hv5
  have HP := implParity_any (some ⟨g, 0, none⟩) c ys w hst5
  rw [parRes_yes (colsB_true hb.1), hb.2] at HP
  exact HP

set_option maxRecDepth 100000 in
set_option maxHeartbeats 1500000 in
theorem main (a0 : Option Addr) (len0 cap0 : Nat) (z0 : List Int) (a1 : Option Addr) (len1 cap1 : Nat) (w : World) (H0 : Hid (IsBytes w a0 len0 cap0 z0)) (hl0 : len0 ≤ 1048576) (hl1 : len1 ≤ 1048576) :
    Calls Try.prog 12 #[.slice a0 len0 cap0, .slice a1 len1 cap1] w fun e w' => e = .returned (.bool true) ∧ Below w.heap.size w w' := by
  obtain ⟨i0, hi0, hz0, hz1, hz2⟩ := info_parts info9
  have d0 : decide (1048576 < (len0 : Int)) = false := by simp; omega
  have d1 : decide (1048576 < (len1 : Int)) = false := by simp; omega
  go_enter Try.func12, Try.ntmps12
  go_wp2_with fail
  refine (drawParity_any a0 len0 cap0 z0 _ H0.out).mono ?_
  rintro e w1 ⟨a, cap, xs, rfl, h1, h6, hown, hB1⟩
  obtain ⟨a', cap', hv, hlc, _, hst⟩ := strs_of_owns hown
  cases hv
  have Ha := Lib.hid hst
  have q1 := hB1.size
  clear hown hst
  go_wp2_with fail
  refine (implParity_any a cap xs _ Ha).mono ?_
  rintro e w2 ⟨rfl, hB2⟩
  have Ha2 := Lib.hid (Ha.out.below hB2)
  have q2 := hB2.size
  have HB2 : Hid (Below w.heap.size w w2) := hB1.trans (hB2.mono q1)
  clear hB1 hB2
  go_wp2_with fail
  refine (specParity_any a cap xs _ (by unfold maxLen; omega) Ha2).mono ?_
  rintro e w3 ⟨rfl, hB3⟩
  have Ha3 := Lib.hid (Ha2.out.below hB3)
  have q3 := hB3.size
  have HB3 : Hid (Below w.heap.size w w3) := HB2.out.trans (hB3.mono (by omega))
  clear hB3
  cases hcb : colsB xs
  · rw [parRes_no hcb]
    have HR := Lib.hid (parRes_no hcb)
    clear hcb
    go_wp2_with fail
    refine (specParity_any a cap xs _ (by unfold maxLen; omega) Ha3).mono ?_
    rintro e w4 ⟨rfl, hB4⟩
    rw [HR.out]
    have HB4 : Hid (Below w.heap.size w w4) := HB3.out.trans (hB4.mono (by omega))
    clear hB4
    go_wp2
    go_ret
    exact ⟨rfl, HB4.out⟩
  · have hok := (colsB_iff xs).1 hcb
    have hpp : parRes xs = parOf xs := parRes_yes hcb
    have hps : (parOf xs).size = 3 := parOf_size hok
    have hpe : (parOf xs).toList.isEmpty = false := text_some (by omega)
    have hx3 := hok.1.2
    by_cases hl3 : xs.length = 3
    · have d3 : ((xs.length : Int) == 3) = true := beq_iff_eq.2 (by omega)
      clear hl3 hok hcb hps
      have HR := Lib.hid hpp
      clear hpp
      rw [HR.out]
      go_wp2_with fail
      refine (specParity_any a cap xs _ (by unfold maxLen; omega) Ha3).mono ?_
      rintro e w4 ⟨rfl, hB4⟩
      rw [HR.out]
      have HB4 : Hid (Below w.heap.size w w4) := HB3.out.trans (hB4.mono (by omega))
      clear hB4
      generalize parOf xs = p at *
      go_wp2
      go_ret
      exact ⟨rfl, HB4.out⟩
    · have d3 : ((xs.length : Int) == 3) = false := beq_eq_false_iff_ne.2 (by omega)
      rw [hpp]
      obtain ⟨k, hki⟩ : ∃ k : Nat, (len1 : Int) % (xs.length : Int) = (k : Int) := ⟨len1 % xs.length, by push_cast; rfl⟩
      have hk : k < xs.length := by have := Int.emod_lt_of_pos (len1 : Int) (show (0 : Int) < xs.length by omega); omega
      have hcs := hok.2 k hk
      have Hm1 := Lib.hid (parity_more xs (xs.getD k ByteArray.empty) hok hcs (by omega))
      have Hm2 : Hid (xs.length = 1 → ColsOk (xs ++ [xs.getD k ByteArray.empty] ++ [xs.getD k ByteArray.empty]) ∧ parOf (xs ++ [xs.getD k ByteArray.empty] ++ [xs.getD k ByteArray.empty]) = parOf xs) := fun hl => by
        have h2 := parity_more (xs ++ [xs.getD k ByteArray.empty]) (xs.getD k ByteArray.empty) Hm1.out.1 hcs (by rw [List.length_append]; simp; omega)
        refine ⟨h2.1, h2.2.trans ?_⟩
        rw [Hm1.out.2]
        exact xorS_cancel _ _ (by omega)
      have hps3 : (parOf xs).size ≤ 3 := by omega
      clear hpp hcb hok hps
      generalize parOf xs = p at *
      obtain ⟨b, off, rfl, hc⟩ := Ha3.out.resolve_left (fun e => by subst e; simp at h1)
      have hbl : b < w3.heap.size := World.block_lt_of_cell? w3 _ (hc 0 (by omega))
      have Hc : Hid (∀ j u, (xs.map Value.string)[j]? = some u → (w3.alloc (.cells #[] 9)).cell? ((⟨b, off, none⟩ : Addr).add j) = some u) :=
        news_strs (fun j hj => (World.cell?_of_block (Below.heap_alloc w3 _ b hbl)).trans (hc j hj))
      have Ho : Hid ((w3.alloc (.cells #[] 9)).ownsRow w3.heap.size 9 1 (.slice (some ⟨w3.heap.size, 0, none⟩) 0 0) 0 []) := World.ownsRow_made w3 #[] 0 (by omega) (by simp [maxLen]) (by simp)
      have hck := hc k hk
      clear hc
      generalize xs.getD k ByteArray.empty = c at *
      have hl2 : xs.length ≤ 2 := by omega
      go_wp2_with (first
        | (at_builtin; refine wpList_append_lies _ rfl _ _ 31 rfl w3.heap.size 9 i0 _ 1 16 Try.underlying31 hi0 hz0 hz1 hz2 rfl (by omega) _ xs.length (xs.map Value.string) rfl (hown4.alloc _) ⟨w4.heap.size, 0, none⟩ 1 1 [.string c] rfl rfl (news_new _ _ 9 _ rfl) (by simp [Value.oneCell']) (by omega) (by simp [maxLen]; omega) (by omega) (by simp at q4 ⊢; omega) _ rfl ?_; intro g5 c5 w5 hown5 hgrow5 hat5 hlt5)
        | (at_builtin; refine wpList_append_lies _ rfl _ _ 31 rfl w3.heap.size 9 i0 _ 1 16 Try.underlying31 hi0 hz0 hz1 hz2 rfl (by omega) _ 0 [] rfl Ho.out ⟨b, off, none⟩ xs.length cap (xs.map Value.string) rfl (by simp) Hc.out (by simp [Value.oneCell']) (by omega) (by simp [maxLen]; omega) (by omega) (by simp) _ rfl ?_; intro g c4 w4 hown4 hgrow4 hat4 hlt4; have q4 := hgrow4.size; rw [List.nil_append, Nat.zero_add] at hown4))
      have hgl : ∀ i, some g = some i → w3.heap.size ≤ i := fun i e => by cases e; exact (hown4.lt g rfl).1
      have hB4 : Below w3.heap.size w3 w4 := ((Below.refl _ w3).alloc (by omega) _).grown hgrow4 (by simp) (fun i e => (Ho.out.lt i e).1)
      have hB5 : Below w3.heap.size w3 w5 := (hB4.alloc hB4.size _).grown hgrow5 (by have := hB4.size; simp; omega) hgl
      have ho5 : w5.ownsRow w3.heap.size 9 1 (.slice (some ⟨g5, 0, none⟩) (xs.length + 1) c5) (xs.length + 1) ((xs ++ [c]).map Value.string) := by rw [List.map_append]; exact hown5
      have Ho5 := Lib.hid ho5
      have HB5 := Lib.hid hB5
      clear ho5 hB5 hB4 hown5 hown4 hgrow4 hgrow5 hgl
      refine (parityOf (by rw [List.length_append]; rfl) Ho5.out Hm1.out).mono ?_
      rintro e w6 ⟨rfl, hB6⟩
      have Ho6 := Lib.hid (owns_below Ho5.out hB6)
      have HB6 : Hid (Below w3.heap.size w3 w6) := HB5.out.trans (hB6.mono HB5.out.size)
      have q6 := HB6.out.size
      clear hB6
      go_wp2_with fail
      refine (implXor_any p c (by omega) (by omega) _).mono ?_
      rintro e w7 ⟨rfl, hB7⟩
      have Ho7 := Lib.hid (owns_below Ho6.out hB7)
      have HB7 : Hid (Below w3.heap.size w3 w7) := HB6.out.trans (hB7.mono q6)
      have q7 := HB7.out.size
      clear hB7 Hm1
      generalize xorS p c = x7
      by_cases hl1' : xs.length = 1
      · have Hfin := Lib.hid (Hm2.out hl1')
        have e3 : ((xs.length : Int) + 1 == 3) = false := beq_eq_false_iff_ne.2 (by omega)
        clear hl1' Hm2
        go_wp2_with (at_builtin; refine BigFrame.wpList_want rfl (fun K hK => wp_append_lies _ _ _ 31 rfl w3.heap.size 9 i0 _ 1 16 Try.underlying31 hi0 hz0 hz1 hz2 rfl (by omega) _ (xs.length + 1) ((xs ++ [c]).map Value.string) rfl (Ho7.out.alloc _) ⟨w7.heap.size, 0, none⟩ 1 1 [.string c] rfl rfl (news_new _ _ 9 _ rfl) (by simp [Value.oneCell']) (by omega) (by simp [maxLen]; omega) (by omega) (by simp; omega) _ rfl (fun g8 c8 w8 hown8 hgrow8 hat8 hlt8 => hK _ _ ?_)))
        have ho8 : w8.ownsRow w3.heap.size 9 1 (.slice (some ⟨g8, 0, none⟩) (xs.length + 1 + 1) c8) (xs.length + 1 + 1) ((xs ++ [c] ++ [c]).map Value.string) := by rw [List.map_append]; exact hown8
        have hB8 : Below w3.heap.size w3 w8 := (HB7.out.alloc q7 _).grown hgrow8 (by simp; omega) (fun i e => (Ho7.out.lt i e).1)
        have HB8 := Lib.hid hB8
        refine (parityOf (by rw [List.length_append, List.length_append]; rfl) ho8 Hfin.out).mono ?_
        rintro e w9 ⟨rfl, hB9⟩
        have HB9 : Hid (Below w.heap.size w w9) := HB3.out.trans ((HB8.out.trans (hB9.mono HB8.out.size)).mono (by omega))
        clear hB9 hB8 ho8 hown8 hgrow8
        go_wp2
        go_ret
        exact ⟨rfl, HB9.out⟩
      · have e3 : ((xs.length : Int) + 1 == 3) = true := beq_iff_eq.2 (by omega)
        have HBf : Hid (Below w.heap.size w w7) := HB3.out.trans (HB7.out.mono (by omega))
        clear hl1' Hm2
        go_wp2
        go_ret
        exact ⟨rfl, HBf.out⟩

set_option maxRecDepth 100000 in
set_option maxHeartbeats 1000000 in
theorem walk (a0 : Option Addr) (len0 cap0 : Nat) (z0 : List Int) (a1 : Option Addr) (len1 cap1 : Nat) (z1 : List Int) (w : World) (w0 : IsBytes w a0 len0 cap0 z0) (w1 : IsBytes w a1 len1 cap1 z1) :
    Calls Try.prog 12 #[.slice a0 len0 cap0, .slice a1 len1 cap1] w fun e w' => e = .returned (.bool true) ∧ Below w.heap.size w w' := by
  by_cases hl0 : len0 ≤ 1048576
  · by_cases hl1 : len1 ≤ 1048576
    · exact main a0 len0 cap0 z0 a1 len1 cap1 w (Lib.hid w0) hl0 hl1
    · clear w0 w1
      have d0 : decide (1048576 < (len0 : Int)) = false := by simp; omega
      have d1 : decide (1048576 < (len1 : Int)) = true := by simp; omega
      go_enter Try.func12, Try.ntmps12
      go_wp2
      go_ret
      exact ⟨rfl, Below.refl _ _⟩
  · clear w0 w1
    have d0 : decide (1048576 < (len0 : Int)) = true := by simp; omega
    go_enter Try.func12, Try.ntmps12
    go_wp2
    go_ret
    exact ⟨rfl, Below.refl _ _⟩

set_option maxRecDepth 100000 in
theorem lifted (os : Os) (started : os.Started) (H : Type) (enc : TypeId × Value → H) :
    ReturnsInHanded {} Try.checked os 12 .any (Rows.fnParityMoreSpec.pre6 enc Try.prog Try.f12 Rows.fnParityMoreRow.domain false) (Rows.fnParityMoreSpec.post enc Try.prog Try.f12 false true false false) := by
  refine returnsInHanded_of_change (C := Try.checked) own started (by kernel_rfl) Try.func12
    (ChangeSpec.witness6 (enc := enc) (C := Try.checked) false ⟨#[], #[.slice none 0 0, .slice none 0 0], []⟩ 8 (by kernel_rfl) (by kernel_rfl) (by kernel_rfl) (by kernel_rfl)) ?_
  intro W base args ds gs before hval0 hW hcnd _
  have hval : ∀ (j : Nat) t v, Try.f12.params[j]? = some t → args[j]? = some v → Value.okWide Try.prog W .any base t v := hval0
  have hW' := hW
  obtain ⟨p, q, hA0, hV, rfl, hfz, hnd⟩ := hW
  have hA : DataW.TrodAll enc Try.prog W 0 (fun _ => true) true Try.f12.params.toList args.toList ds p := hA0
  rw [Try.params12] at hA hval
  obtain ⟨v0, vs0, d0, ds0, p0, q0, hargs, rfl, rfl, h0, r0⟩ := trodAll_cons hA
  obtain ⟨v1, vs1, d1, ds1, p1, q1, rfl, rfl, rfl, h1, r1⟩ := trodAll_cons r0
  obtain ⟨rfl, rfl, rfl⟩ := trodAll_nil r1
  obtain rfl : args = #[v0, v1] := by cases args; simp_all
  obtain ⟨rfl, rfl⟩ := trodVars_none hV
  have k0 := h0
  have lt0 : ∀ x ∈ p0, x.block < W.heap.size := by obtain ⟨m, hm⟩ := k0; exact DataW.trod_lt m _ _ _ hm
  obtain ⟨a0, len0, cap0, rfl⟩ := okWide_slice Try.underlying22 (hval 0 22 v0 rfl rfl)
  obtain ⟨z0, w0⟩ : ∃ zs, IsBytes W a0 len0 cap0 zs := by
    obtain ⟨fuel, hf⟩ := h0
    rcases open_ints Try.underlying22 Try.underlying5 (by kernel_rfl) hf with ⟨hcs, _⟩ | ⟨x, l, c, zs, hcs, _, hl, hm, hz, _, hcell, hwz⟩
    · simp [Value.cells] at hcs
      obtain ⟨rfl, rfl, rfl⟩ := hcs
      exact ⟨[], .inl ⟨rfl, rfl, rfl, rfl⟩⟩
    · simp [Value.cells] at hcs
      obtain ⟨rfl, rfl, rfl⟩ := hcs
      exact ⟨zs, .inr ⟨_, rfl, hl, hm, by simpa using hz, hcell, hwz⟩⟩
  have k1 := h1
  have lt1 : ∀ x ∈ p1, x.block < W.heap.size := by obtain ⟨m, hm⟩ := k1; exact DataW.trod_lt m _ _ _ hm
  obtain ⟨a1, len1, cap1, rfl⟩ := okWide_slice Try.underlying22 (hval 1 22 v1 rfl rfl)
  obtain ⟨z1, w1⟩ : ∃ zs, IsBytes W a1 len1 cap1 zs := by
    obtain ⟨fuel, hf⟩ := h1
    rcases open_ints Try.underlying22 Try.underlying5 (by kernel_rfl) hf with ⟨hcs, _⟩ | ⟨x, l, c, zs, hcs, _, hl, hm, hz, _, hcell, hwz⟩
    · simp [Value.cells] at hcs
      obtain ⟨rfl, rfl, rfl⟩ := hcs
      exact ⟨[], .inl ⟨rfl, rfl, rfl, rfl⟩⟩
    · simp [Value.cells] at hcs
      obtain ⟨rfl, rfl, rfl⟩ := hcs
      exact ⟨zs, .inr ⟨_, rfl, hl, hm, by simpa using hz, hcell, hwz⟩⟩
  clear hA0 hval0
  refine (walk a0 len0 cap0 z0 a1 len1 cap1 z1 W w0 w1).mono fun e W' ⟨he, bel⟩ => ?_
  subst he
  exact ⟨_, rfl, _, _, _, [], _, [], hW', trodAll_mk1 (shut_bool Try.underlying4 _), (trodAll_cons_mk (Below.trod laidOut (by kernel_rfl) (of_decide_eq_true (by kernel_rfl)) k0 bel lt0) (trodAll_cons_mk (Below.trod laidOut (by kernel_rfl) (of_decide_eq_true (by kernel_rfl)) k1 bel lt1) trodAll_mk0)), rfl, bel.frame _, fun h => by cases h⟩

theorem over : Rows.fnParityMoreRow.holds Try.pinned (OpenSpec.ofChange Rows.fnParityMoreSpec) :=
  OpenClaim.holds_of_wide 12 Try.f12 rfl rfl rfl rfl rfl rfl rfl ⟨rfl, rfl, rfl, rfl, rfl⟩ rfl rfl rfl rfl rfl (by kernel_rfl) Try.func12 (by kernel_rfl)
    (of_decide_eq_true (by kernel_rfl)) (by unfold Func.isWrapper; first | (rw [if_pos (by decide +kernel)]; kernel_rfl) | (rw [if_neg (by decide +kernel)]; exact ⟨rfl, rfl⟩))
    (fun os started H enc _ => lifted os started H enc)

end FnParityMore

theorem FnParityMore_holds : Rows.FnParityMoreSaid := FnParityMore.over

end Go.Proofs.Ytphenphfficnaaa

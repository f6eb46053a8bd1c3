/- 'laws.FnMendParity' returns true at every code: with what MendOf tells at its place ParityOf is the parity. Conditions: none. -/
import Derived.Test.YtphenphfficnaaaK
import Derived.Test.YtphenphfficnaaaD6
import Derived.Test.YtphenphfficnaaaM7
namespace Go.Proofs.Ytphenphfficnaaa
open Go.ChangeShapes Go.WideShapes Go.ChangeAt Go.RowKit
open Go.ChangeMaps (open_string shut_string)
namespace FnMendParity
set_option linter.unusedVariables false

set_option maxRecDepth 100000 in
set_option maxHeartbeats 4000000 in
theorem main (a0 : Option Addr) (len0 cap0 : Nat) (z0 : List Int) (w : World) (H0 : Hid (IsBytes w a0 len0 cap0 z0)) (hl0 : len0 ≤ 1048576) :
    Calls Try.prog 11 #[.slice a0 len0 cap0] w fun e w' => e = .returned (.bool true) ∧ Below w.heap.size w w' := by
  obtain ⟨i0, hi0, hz0, hz1, hz2⟩ := info_parts info9
  go_enter Try.func11, Try.ntmps11
  go_wp2_with fail
  refine (drawMend_any a0 len0 cap0 z0 _ H0.out).mono ?_
  rintro e w1 ⟨a, cap, xs, p, i, rfl, hl6, hib, hown, hB1⟩
  obtain ⟨a', cap', hv, hlc, _, hst⟩ := strs_of_owns hown
  cases hv
  have Ha := Lib.hid hst
  have q1 := hB1.size
  clear hown hst
  go_wp2_with fail
  refine (implMend_any a cap xs p i _ (by omega) Ha).mono ?_
  rintro e w2 ⟨hr2, hB2⟩
  have Ha2 := Lib.hid (Ha.out.below hB2)
  have q2 := hB2.size
  have HB2 : Hid (Below w.heap.size w w2) := hB1.trans (hB2.mono q1)
  clear hB1 hB2
  obtain ⟨m, rfl, hok, rfl⟩ | ⟨hno, rfl⟩ := hr2
  · have Hok := Lib.hid hok
    have Hpar := Lib.hid (mend_parity xs p m hok)
    have hml := hok.1
    clear hok
    generalize hX : parOf (xs.set m p) = X at Hpar ⊢
    have HX := Lib.hid hX
    clear hX
    go_wp2_with fail
    refine (specMend_any a cap xs p _ _ (by omega) Ha2).mono ?_
    rintro e w3 ⟨⟨m', hm', _, rfl⟩ | ⟨hno, _⟩, hB3⟩
    · obtain rfl : m = m' := by omega
      rw [HX.out]
      have Ha3 := Lib.hid (Ha2.out.below hB3)
      have q3 := hB3.size
      have HB3 : Hid (Below w.heap.size w w3) := HB2.out.trans (hB3.mono (by omega))
      clear hB3 hm'
      obtain ⟨b, off, rfl, hc⟩ := Ha3.out.resolve_left (fun e => by subst e; simp at hml)
      have Hc : Hid (∀ j u, (xs.map Value.string)[j]? = some u → (w3.alloc (.cells #[] 9)).cell? ((⟨b, off, none⟩ : Addr).add j) = some u) :=
        news_strs (fun j hj => (World.cell?_of_block (Below.heap_alloc w3 _ b (World.block_lt_of_cell? w3 _ (hc j hj)))).trans (hc j hj))
      have Ho : Hid ((w3.alloc (.cells #[] 9)).ownsRow w.heap.size 9 1 (.slice (some ⟨w3.heap.size, 0, none⟩) 0 0) 0 []) := World.ownsRow_made w3 #[] 0 (by omega) (by simp [maxLen]) (by simp)
      clear hc
      go_wp2_with (at_builtin; refine wpList_append_lies _ rfl _ _ 31 rfl w.heap.size 9 i0 _ 1 16 Try.underlying31 hi0 hz0 hz1 hz2 rfl (by omega) _ 0 [] rfl Ho.out ⟨b, off, none⟩ xs.length cap (xs.map Value.string) rfl (by simp) Hc.out (by simp [Value.oneCell']) (by omega) (by simp [maxLen]; omega) (by omega) (by simp; omega) _ rfl ?_; intro g c4 w4 hown4 hgrow4 hat4 hlt4; have q4 := hgrow4.size; rw [List.nil_append, Nat.zero_add] at hown4; obtain ⟨hset, hcell, hfr⟩ := owns_set hown4 m hml (.string X))
      rw [← List.map_set] at hset
      have hlen : (xs.set m X).length = xs.length := List.length_set
      have hgb : w.heap.size ≤ g := (hown4.lt g rfl).1
      have hB5 : Below w.heap.size w (w4.setCell ⟨g, m, none⟩ (.string X)) := ((HB3.out.alloc (by omega) _).grown hgrow4 (by simp; omega) (fun i e => (Ho.out.lt i e).1)).setCell (p := ⟨g, m, none⟩) hgb _
      generalize w4.setCell ⟨g, m, none⟩ (.string X) = w5 at hset hB5 ⊢
      obtain ⟨a5, c5, hv5, _, _, hst5⟩ := strs_of_owns (xs := xs.set m X) (by rw [hlen]; exact hset)
      rw [hlen] at hv5
      cases hv5
      have HP := implParity_any _ c4 (xs.set m X) w5 hst5
      rw [hlen, parRes_yes (colsB_true Hpar.out.1), Hpar.out.2] at HP
      refine HP.mono ?_
      rintro e w6 ⟨rfl, hB6⟩
      have q5 := hB5.size
      have HB6 : Hid (Below w.heap.size w w6) := hB5.trans (hB6.mono q5)
      clear HP hB6 hB5 hst5 hset hcell hfr hown4 hgrow4
      go_wp2
      go_ret
      exact ⟨rfl, HB6.out⟩
    · exact absurd Hok.out (hno m rfl)
  · have Hno := Lib.hid hno
    clear hno
    go_wp2_with fail
    refine (specMend_any a cap xs p _ _ (by omega) Ha2).mono ?_
    rintro e w3 ⟨⟨m', hm', hok', rfl⟩ | ⟨_, rfl⟩, hB3⟩
    · exact absurd hok' (Hno.out m' hm')
    · have HB3 : Hid (Below w.heap.size w w3) := HB2.out.trans (hB3.mono (by omega))
      clear hB3
      go_wp2
      go_ret
      exact ⟨rfl, HB3.out⟩

set_option maxRecDepth 100000 in
set_option maxHeartbeats 1000000 in
theorem walk (a0 : Option Addr) (len0 cap0 : Nat) (z0 : List Int) (w : World) (w0 : IsBytes w a0 len0 cap0 z0) :
    Calls Try.prog 11 #[.slice a0 len0 cap0] w fun e w' => e = .returned (.bool true) ∧ Below w.heap.size w w' := by
  by_cases hl0 : len0 ≤ 1048576
  · exact main a0 len0 cap0 z0 w (Lib.hid w0) hl0
  · clear w0
    go_enter Try.func11, Try.ntmps11
    go_wp2
    go_ret
    exact ⟨rfl, Below.refl _ _⟩

set_option maxRecDepth 100000 in
theorem lifted (os : Os) (started : os.Started) (H : Type) (enc : TypeId × Value → H) :
    ReturnsInHanded {} Try.checked os 11 .any (Rows.fnMendParitySpec.pre6 enc Try.prog Try.f11 Rows.fnMendParityRow.domain false) (Rows.fnMendParitySpec.post enc Try.prog Try.f11 false true false false) := by
  refine returnsInHanded_of_change (C := Try.checked) own started (by kernel_rfl) Try.func11
    (ChangeSpec.witness6 (enc := enc) (C := Try.checked) false ⟨#[], #[.slice none 0 0], []⟩ 8 (by kernel_rfl) (by kernel_rfl) (by kernel_rfl) (by kernel_rfl)) ?_
  intro W base args ds gs before hval0 hW hcnd _
  have hval : ∀ (j : Nat) t v, Try.f11.params[j]? = some t → args[j]? = some v → Value.okWide Try.prog W .any base t v := hval0
  have hW' := hW
  obtain ⟨p, q, hA0, hV, rfl, hfz, hnd⟩ := hW
  have hA : DataW.TrodAll enc Try.prog W 0 (fun _ => true) true Try.f11.params.toList args.toList ds p := hA0
  rw [Try.params11] at hA hval
  obtain ⟨v0, vs0, d0, ds0, p0, q0, hargs, rfl, rfl, h0, r0⟩ := trodAll_cons hA
  obtain ⟨rfl, rfl, rfl⟩ := trodAll_nil r0
  obtain rfl : args = #[v0] := by cases args; simp_all
  obtain ⟨rfl, rfl⟩ := trodVars_none hV
  have k0 := h0
  have lt0 : ∀ x ∈ p0, x.block < W.heap.size := by obtain ⟨m, hm⟩ := k0; exact DataW.trod_lt m _ _ _ hm
  obtain ⟨a0, len0, cap0, rfl⟩ := okWide_slice Try.underlying22 (hval 0 22 v0 rfl rfl)
  obtain ⟨z0, w0⟩ : ∃ zs, IsBytes W a0 len0 cap0 zs := by
    obtain ⟨fuel, hf⟩ := h0
    rcases open_ints Try.underlying22 Try.underlying5 (by kernel_rfl) hf with ⟨hcs, _⟩ | ⟨x, l, c, zs, hcs, _, hl, hm, hz, _, hcell, hwz⟩
    · simp [Value.cells] at hcs
      obtain ⟨rfl, rfl, rfl⟩ := hcs
      exact ⟨[], .inl ⟨rfl, rfl, rfl, rfl⟩⟩
    · simp [Value.cells] at hcs
      obtain ⟨rfl, rfl, rfl⟩ := hcs
      exact ⟨zs, .inr ⟨_, rfl, hl, hm, by simpa using hz, hcell, hwz⟩⟩
  clear hA0 hval0
  refine (walk a0 len0 cap0 z0 W w0).mono fun e W' ⟨he, bel⟩ => ?_
  subst he
  exact ⟨_, rfl, _, _, _, [], _, [], hW', trodAll_mk1 (shut_bool Try.underlying4 _), (trodAll_cons_mk (Below.trod laidOut (by kernel_rfl) (of_decide_eq_true (by kernel_rfl)) k0 bel lt0) trodAll_mk0), rfl, bel.frame _, fun h => by cases h⟩

theorem over : Rows.fnMendParityRow.holds Try.pinned (OpenSpec.ofChange Rows.fnMendParitySpec) :=
  OpenClaim.holds_of_wide 11 Try.f11 rfl rfl rfl rfl rfl rfl rfl ⟨rfl, rfl, rfl, rfl, rfl⟩ rfl rfl rfl rfl rfl (by kernel_rfl) Try.func11 (by kernel_rfl)
    (of_decide_eq_true (by kernel_rfl)) (by unfold Func.isWrapper; first | (rw [if_pos (by decide +kernel)]; kernel_rfl) | (rw [if_neg (by decide +kernel)]; exact ⟨rfl, rfl⟩))
    (fun os started H enc _ => lifted os started H enc)

end FnMendParity

theorem FnMendParity_holds : Rows.FnMendParitySaid := FnMendParity.over

end Go.Proofs.Ytphenphfficnaaa

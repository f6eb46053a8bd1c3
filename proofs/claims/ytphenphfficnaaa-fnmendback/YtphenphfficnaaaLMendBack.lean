/- 'laws.FnMendBack' returns true at every two codes: a column that is lost is found from the others and the parity, whatever stands there now. Conditions: none. -/
import Derived.Test.YtphenphfficnaaaK
import Derived.Test.YtphenphfficnaaaD6
import Derived.Test.YtphenphfficnaaaM7
namespace Go.Proofs.Ytphenphfficnaaa
open Go.ChangeShapes Go.WideShapes Go.ChangeAt Go.RowKit
open Go.ChangeMaps (open_string shut_string)
namespace FnMendBack
set_option linter.unusedVariables false

/-- What stands there for a while. -/
def anyText : ByteArray := ⟨#[97, 110, 121]⟩

/-- MendOf, where one column is lost. -/
theorem mendLost {xs : List ByteArray} {p y x : ByteArray} {w : World} {base g c : Nat} (k : Nat) (hk : k < xs.length) (hown : w.ownsRow base 9 1 (.slice (some ⟨g, 0, none⟩) xs.length c) xs.length ((xs.set k y).map Value.string))
    (hb : ∀ y, MendOk (xs.set k y) p k ∧ parOf ((xs.set k y).set k p) = x) (hl : xs.length ≤ 6) :
    Calls Try.prog 32 #[.slice (some ⟨g, 0, none⟩) xs.length c, .string p, .int .i64 (k : Int)] w fun e w' => e = .returned (.tuple #[.string x, .bool true]) ∧ Below w.heap.size w w' := by
  have hlen : (xs.set k y).length = xs.length := List.length_set
  obtain ⟨a5, c5, hv5, _, _, hst5⟩ := strs_of_owns (xs := xs.set k y) (by rw [hlen]; exact hown)
  rw [hlen] at hv5
  cases hv5
  have HP := implMend_any (some ⟨g, 0, none⟩) c (xs.set k y) p (k : Int) w (by rw [hlen]; omega) hst5
  rw [hlen] at HP
  refine HP.mono ?_
  rintro e w6 ⟨⟨m, hm, _, rfl⟩ | ⟨hno, _⟩, hB⟩
  · obtain rfl : k = m := by omega
    exact ⟨by rw [(hb y).2], hB⟩
  · exact absurd (hb y).1 (hno k rfl)

set_option maxRecDepth 100000 in
set_option maxHeartbeats 4000000 in
theorem main (a0 : Option Addr) (len0 cap0 : Nat) (z0 : List Int) (a1 : Option Addr) (len1 cap1 : Nat) (w : World) (H0 : Hid (IsBytes w a0 len0 cap0 z0)) (hl0 : len0 ≤ 1048576) (hl1 : len1 ≤ 1048576) :
    Calls Try.prog 10 #[.slice a0 len0 cap0, .slice a1 len1 cap1] w fun e w' => e = .returned (.bool true) ∧ Below w.heap.size w w' := by
  obtain ⟨i0, hi0, hz0, hz1, hz2⟩ := info_parts info9
  have d0 : decide (1048576 < (len0 : Int)) = false := by simp; omega
  have d1 : decide (1048576 < (len1 : Int)) = false := by simp; omega
  go_enter Try.func10, Try.ntmps10
  go_wp2_with fail
  refine (drawParity_any a0 len0 cap0 z0 _ H0.out).mono ?_
  rintro e w1 ⟨a, cap, xs, rfl, h1, h6, hown, hB1⟩
  obtain ⟨a', cap', hv, hlc, _, hst⟩ := strs_of_owns hown
  cases hv
  have Ha := Lib.hid hst
  have q1 := hB1.size
  clear hown hst
  go_wp2_with fail
  refine (implParity_any a cap xs _ Ha).mono ?_
  rintro e w2 ⟨rfl, hB2⟩
  have Ha2 := Lib.hid (Ha.out.below hB2)
  have q2 := hB2.size
  have HB2 : Hid (Below w.heap.size w w2) := hB1.trans (hB2.mono q1)
  clear hB1 hB2
  go_wp2_with fail
  refine (specParity_any a cap xs _ (by unfold maxLen; omega) Ha2).mono ?_
  rintro e w3 ⟨rfl, hB3⟩
  have Ha3 := Lib.hid (Ha2.out.below hB3)
  have q3 := hB3.size
  have HB3 : Hid (Below w.heap.size w w3) := HB2.out.trans (hB3.mono (by omega))
  clear hB3
  cases hcb : colsB xs
  · rw [parRes_no hcb]
    have HR := Lib.hid (parRes_no hcb)
    clear hcb
    go_wp2_with fail
    refine (specParity_any a cap xs _ (by unfold maxLen; omega) Ha3).mono ?_
    rintro e w4 ⟨rfl, hB4⟩
    rw [HR.out]
    have HB4 : Hid (Below w.heap.size w w4) := HB3.out.trans (hB4.mono (by omega))
    clear hB4
    go_wp2
    go_ret
    exact ⟨rfl, HB4.out⟩
  · have hok := (colsB_iff xs).1 hcb
    have hpp : parRes xs = parOf xs := parRes_yes hcb
    rw [hpp]
    have hps : (parOf xs).size = 3 := parOf_size hok
    have hpe : (parOf xs).toList.isEmpty = false := text_some (by omega)
    obtain ⟨k, hki⟩ : ∃ k : Nat, (len1 : Int) % (xs.length : Int) = (k : Int) := ⟨len1 % xs.length, by push_cast; rfl⟩
    have hk : k < xs.length := by have := Int.emod_lt_of_pos (len1 : Int) (show (0 : Int) < xs.length by omega); omega
    have Hbk := Lib.hid (mend_back xs k hok hk)
    have Hok := Lib.hid hok
    clear hpp hps hok hcb
    generalize parOf xs = p at *
    obtain ⟨b, off, rfl, hc⟩ := Ha3.out.resolve_left (fun e => by subst e; simp at h1)
    have hbl : b < w3.heap.size := World.block_lt_of_cell? w3 _ (hc 0 (by omega))
    have Hc : Hid (∀ j u, (xs.map Value.string)[j]? = some u → (w3.alloc (.cells #[] 9)).cell? ((⟨b, off, none⟩ : Addr).add j) = some u) :=
      news_strs (fun j hj => (World.cell?_of_block (Below.heap_alloc w3 _ b hbl)).trans (hc j hj))
    have Ho : Hid ((w3.alloc (.cells #[] 9)).ownsRow w3.heap.size 9 1 (.slice (some ⟨w3.heap.size, 0, none⟩) 0 0) 0 []) := World.ownsRow_made w3 #[] 0 (by omega) (by simp [maxLen]) (by simp)
    have Hck := Lib.hid (hc k hk)
    clear hc
    generalize xs.getD k ByteArray.empty = x at Hbk Hck
    go_wp2_with (at_builtin; refine wpList_append_lies _ rfl _ _ 31 rfl w3.heap.size 9 i0 _ 1 16 Try.underlying31 hi0 hz0 hz1 hz2 rfl (by omega) _ 0 [] rfl Ho.out ⟨b, off, none⟩ xs.length cap (xs.map Value.string) rfl (by simp) Hc.out (by simp [Value.oneCell']) (by omega) (by simp [maxLen]; omega) (by omega) (by simp) _ rfl ?_; intro g c4 w4 hown4 hgrow4 hat4 hlt4; have q4 := hgrow4.size; rw [List.nil_append, Nat.zero_add] at hown4; obtain ⟨hset, hcell, hfr⟩ := owns_set hown4 k hk (.string ByteArray.empty))
    have hgb : w3.heap.size ≤ g := (hown4.lt g rfl).1
    have hB4 : Below w3.heap.size w3 w4 := ((Below.refl _ w3).alloc (by omega) _).grown hgrow4 (by simp) (fun i e => (Ho.out.lt i e).1)
    have hB5 : Below w3.heap.size w3 (w4.setCell ⟨g, k, none⟩ (.string ByteArray.empty)) := hB4.setCell (p := ⟨g, k, none⟩) hgb _
    rw [← List.map_set] at hset
    change Calls _ _ _ (w4.setCell ⟨g, k, none⟩ (.string ByteArray.empty)) _
    generalize w4.setCell ⟨g, k, none⟩ (.string ByteArray.empty) = w5 at hset hB5 ⊢
    have HM := mendLost (xs := xs) k hk hset Hbk.out (by omega)
    refine HM.mono ?_
    rintro e w6 ⟨rfl, hB6⟩
    have hown6 := owns_below hset hB6
    have hB6' : Below w3.heap.size w3 w6 := hB5.trans (hB6.mono hB5.size)
    obtain ⟨hset6, hcell6, hfr6⟩ := owns_set hown6 k hk (.string anyText)
    rw [← List.map_set, set_set] at hset6
    have hB7 : Below w3.heap.size w3 (w6.setCell ⟨g, k, none⟩ (.string anyText)) := hB6'.setCell (p := ⟨g, k, none⟩) hgb _
    have Hset6 := Lib.hid hset6
    have HB7 := Lib.hid hB7
    clear hcell hfr hown4 hgrow4 hset hB4 hB5 hB6 hB6' hown6 hset6 hB7 HM
    unfold anyText at Hset6 HB7
    go_wp2_with fail
    generalize w6.setCell ⟨g, k, none⟩ (.string _) = w7 at Hset6 HB7 ⊢
    refine (mendLost (xs := xs) k hk Hset6.out Hbk.out (by omega)).mono ?_
    rintro e w8 ⟨rfl, hB8⟩
    have hB8' : Below w3.heap.size w3 w8 := HB7.out.trans (hB8.mono HB7.out.size)
    have hck8 := (hB8'.cell (p := ⟨b, off + k, none⟩) hbl).trans Hck.out
    have HB8 : Hid (Below w.heap.size w w8) := HB3.out.trans (hB8'.mono (by omega))
    clear hB8 hB8'
    go_wp2
    go_ret
    exact ⟨rfl, HB8.out⟩

set_option maxRecDepth 100000 in
set_option maxHeartbeats 1000000 in
theorem walk (a0 : Option Addr) (len0 cap0 : Nat) (z0 : List Int) (a1 : Option Addr) (len1 cap1 : Nat) (z1 : List Int) (w : World) (w0 : IsBytes w a0 len0 cap0 z0) (w1 : IsBytes w a1 len1 cap1 z1) :
    Calls Try.prog 10 #[.slice a0 len0 cap0, .slice a1 len1 cap1] w fun e w' => e = .returned (.bool true) ∧ Below w.heap.size w w' := by
  by_cases hl0 : len0 ≤ 1048576
  · by_cases hl1 : len1 ≤ 1048576
    · exact main a0 len0 cap0 z0 a1 len1 cap1 w (Lib.hid w0) hl0 hl1
    · clear w0 w1
      have d0 : decide (1048576 < (len0 : Int)) = false := by simp; omega
      have d1 : decide (1048576 < (len1 : Int)) = true := by simp; omega
      go_enter Try.func10, Try.ntmps10
      go_wp2
      go_ret
      exact ⟨rfl, Below.refl _ _⟩
  · clear w0 w1
    have d0 : decide (1048576 < (len0 : Int)) = true := by simp; omega
    go_enter Try.func10, Try.ntmps10
    go_wp2
    go_ret
    exact ⟨rfl, Below.refl _ _⟩

set_option maxRecDepth 100000 in
theorem lifted (os : Os) (started : os.Started) (H : Type) (enc : TypeId × Value → H) :
    ReturnsInHanded {} Try.checked os 10 .any (Rows.fnMendBackSpec.pre6 enc Try.prog Try.f10 Rows.fnMendBackRow.domain false) (Rows.fnMendBackSpec.post enc Try.prog Try.f10 false true false false) := by
  refine returnsInHanded_of_change (C := Try.checked) own started (by kernel_rfl) Try.func10
    (ChangeSpec.witness6 (enc := enc) (C := Try.checked) false ⟨#[], #[.slice none 0 0, .slice none 0 0], []⟩ 8 (by kernel_rfl) (by kernel_rfl) (by kernel_rfl) (by kernel_rfl)) ?_
  intro W base args ds gs before hval0 hW hcnd _
  have hval : ∀ (j : Nat) t v, Try.f10.params[j]? = some t → args[j]? = some v → Value.okWide Try.prog W .any base t v := hval0
  have hW' := hW
  obtain ⟨p, q, hA0, hV, rfl, hfz, hnd⟩ := hW
  have hA : DataW.TrodAll enc Try.prog W 0 (fun _ => true) true Try.f10.params.toList args.toList ds p := hA0
  rw [Try.params10] at hA hval
  obtain ⟨v0, vs0, d0, ds0, p0, q0, hargs, rfl, rfl, h0, r0⟩ := trodAll_cons hA
  obtain ⟨v1, vs1, d1, ds1, p1, q1, rfl, rfl, rfl, h1, r1⟩ := trodAll_cons r0
  obtain ⟨rfl, rfl, rfl⟩ := trodAll_nil r1
  obtain rfl : args = #[v0, v1] := by cases args; simp_all
  obtain ⟨rfl, rfl⟩ := trodVars_none hV
  have k0 := h0
  have lt0 : ∀ x ∈ p0, x.block < W.heap.size := by obtain ⟨m, hm⟩ := k0; exact DataW.trod_lt m _ _ _ hm
  obtain ⟨a0, len0, cap0, rfl⟩ := okWide_slice Try.underlying22 (hval 0 22 v0 rfl rfl)
  obtain ⟨z0, w0⟩ : ∃ zs, IsBytes W a0 len0 cap0 zs := by
    obtain ⟨fuel, hf⟩ := h0
    rcases open_ints Try.underlying22 Try.underlying5 (by kernel_rfl) hf with ⟨hcs, _⟩ | ⟨x, l, c, zs, hcs, _, hl, hm, hz, _, hcell, hwz⟩
    · simp [Value.cells] at hcs
      obtain ⟨rfl, rfl, rfl⟩ := hcs
      exact ⟨[], .inl ⟨rfl, rfl, rfl, rfl⟩⟩
    · simp [Value.cells] at hcs
      obtain ⟨rfl, rfl, rfl⟩ := hcs
      exact ⟨zs, .inr ⟨_, rfl, hl, hm, by simpa using hz, hcell, hwz⟩⟩
  have k1 := h1
  have lt1 : ∀ x ∈ p1, x.block < W.heap.size := by obtain ⟨m, hm⟩ := k1; exact DataW.trod_lt m _ _ _ hm
  obtain ⟨a1, len1, cap1, rfl⟩ := okWide_slice Try.underlying22 (hval 1 22 v1 rfl rfl)
  obtain ⟨z1, w1⟩ : ∃ zs, IsBytes W a1 len1 cap1 zs := by
    obtain ⟨fuel, hf⟩ := h1
    rcases open_ints Try.underlying22 Try.underlying5 (by kernel_rfl) hf with ⟨hcs, _⟩ | ⟨x, l, c, zs, hcs, _, hl, hm, hz, _, hcell, hwz⟩
    · simp [Value.cells] at hcs
      obtain ⟨rfl, rfl, rfl⟩ := hcs
      exact ⟨[], .inl ⟨rfl, rfl, rfl, rfl⟩⟩
    · simp [Value.cells] at hcs
      obtain ⟨rfl, rfl, rfl⟩ := hcs
      exact ⟨zs, .inr ⟨_, rfl, hl, hm, by simpa using hz, hcell, hwz⟩⟩
  clear hA0 hval0
  refine (walk a0 len0 cap0 z0 a1 len1 cap1 z1 W w0 w1).mono fun e W' ⟨he, bel⟩ => ?_
  subst he
  exact ⟨_, rfl, _, _, _, [], _, [], hW', trodAll_mk1 (shut_bool Try.underlying4 _), (trodAll_cons_mk (Below.trod laidOut (by kernel_rfl) (of_decide_eq_true (by kernel_rfl)) k0 bel lt0) (trodAll_cons_mk (Below.trod laidOut (by kernel_rfl) (of_decide_eq_true (by kernel_rfl)) k1 bel lt1) trodAll_mk0)), rfl, bel.frame _, fun h => by cases h⟩

theorem over : Rows.fnMendBackRow.holds Try.pinned (OpenSpec.ofChange Rows.fnMendBackSpec) :=
  OpenClaim.holds_of_wide 10 Try.f10 rfl rfl rfl rfl rfl rfl rfl ⟨rfl, rfl, rfl, rfl, rfl⟩ rfl rfl rfl rfl rfl (by kernel_rfl) Try.func10 (by kernel_rfl)
    (of_decide_eq_true (by kernel_rfl)) (by unfold Func.isWrapper; first | (rw [if_pos (by decide +kernel)]; kernel_rfl) | (rw [if_neg (by decide +kernel)]; exact ⟨rfl, rfl⟩))
    (fun os started H enc _ => lifted os started H enc)

end FnMendBack

theorem FnMendBack_holds : Rows.FnMendBackSaid := FnMendBack.over

end Go.Proofs.Ytphenphfficnaaa

/- 'laws.FnMendWrong' returns true at every two codes: if one column has a byte changed, what is found of another one has just that byte changed so. Conditions: none. -/
import Derived.Test.YtphenphfficnaaaK
import Derived.Test.YtphenphfficnaaaD6
import Derived.Test.YtphenphfficnaaaM8
import Derived.Test.YtphenphfficnaaaC1
namespace Go.Proofs.Ytphenphfficnaaa
open Go.ChangeShapes Go.WideShapes Go.ChangeAt Go.RowKit
open Go.ChangeMaps (open_string shut_string)
namespace FnMendWrong
set_option linter.unusedVariables false

theorem changedD {s : ByteArray} {t : Nat} (hs : s.size = 3) (ht : t < 3) (w : World) :
    Calls Try.prog 18 #[.string s, .int .i64 (t : Int), .int .u8 5] w fun e w' => e = .returned (.string (xorS s (delta t 5))) ∧ Below w.heap.size w w' := by
  refine (lpaChanged_any s t 5 w (by omega)).mono ?_
  rintro e w' ⟨rfl, hB⟩
  exact ⟨by rw [with_delta s t 5 hs ht (by omega)], hB⟩

theorem mended {xs : List ByteArray} {p y r : ByteArray} {w : World} {base g c o k : Nat} (hown : w.ownsRow base 9 1 (.slice (some ⟨g, 0, none⟩) xs.length c) xs.length ((xs.set o y).map Value.string))
    (hb : MendOk (xs.set o y) p k ∧ parOf ((xs.set o y).set k p) = r) (hl : xs.length ≤ 6) :
    Calls Try.prog 32 #[.slice (some ⟨g, 0, none⟩) xs.length c, .string p, .int .i64 (k : Int)] w fun e w' => e = .returned (.tuple #[.string r, .bool true]) ∧ Below w.heap.size w w' := by
  have hlen : (xs.set o y).length = xs.length := List.length_set
  obtain ⟨a5, c5, hv5, _, _, hst5⟩ := strs_of_owns (xs := xs.set o y) (by rw [hlen]; exact hown)
  rw [hlen] at hv5
  cases hv5
  have HP := implMend_any (some ⟨g, 0, none⟩) c (xs.set o y) p (k : Int) w (by rw [hlen]; omega) hst5
  rw [hlen] at HP
  refine HP.mono ?_
  rintro e w6 ⟨⟨m, hm, _, rfl⟩ | ⟨hno, _⟩, hB⟩
  · obtain rfl : k = m := by omega
    exact ⟨by rw [hb.2], hB⟩
  · exact absurd hb.1 (hno k rfl)

set_option maxRecDepth 100000 in
set_option maxHeartbeats 1500000 in
theorem main (a0 : Option Addr) (len0 cap0 : Nat) (z0 : List Int) (a1 : Option Addr) (len1 cap1 : Nat) (w : World) (H0 : Hid (IsBytes w a0 len0 cap0 z0)) (hl0 : len0 ≤ 1048576) (hl1 : len1 ≤ 1048576) :
    Calls Try.prog 13 #[.slice a0 len0 cap0, .slice a1 len1 cap1] w fun e w' => e = .returned (.bool true) ∧ Below w.heap.size w w' := by
  obtain ⟨i0, hi0, hz0, hz1, hz2⟩ := info_parts info9
  have d0 : decide (1048576 < (len0 : Int)) = false := by simp; omega
  have d1 : decide (1048576 < (len1 : Int)) = false := by simp; omega
  go_enter Try.func13, Try.ntmps13
  go_wp2_with fail
  refine (drawParity_any a0 len0 cap0 z0 _ H0.out).mono ?_
  rintro e w1 ⟨a, cap, xs, rfl, h1, h6, hown, hB1⟩
  obtain ⟨a', cap', hv, hlc, _, hst⟩ := strs_of_owns hown
  cases hv
  have Ha := Lib.hid hst
  have q1 := hB1.size
  clear hown hst
  go_wp2_with fail
  refine (implParity_any a cap xs _ Ha).mono ?_
  rintro e w2 ⟨rfl, hB2⟩
  have Ha2 := Lib.hid (Ha.out.below hB2)
  have q2 := hB2.size
  have HB2 : Hid (Below w.heap.size w w2) := hB1.trans (hB2.mono q1)
  clear hB1 hB2
  go_wp2_with fail
  refine (specParity_any a cap xs _ (by unfold maxLen; omega) Ha2).mono ?_
  rintro e w3 ⟨rfl, hB3⟩
  have Ha3 := Lib.hid (Ha2.out.below hB3)
  have q3 := hB3.size
  have HB3 : Hid (Below w.heap.size w w3) := HB2.out.trans (hB3.mono (by omega))
  clear hB3
  cases hcb : colsB xs
  · rw [parRes_no hcb]
    have HR := Lib.hid (parRes_no hcb)
    clear hcb
    go_wp2_with fail
    refine (specParity_any a cap xs _ (by unfold maxLen; omega) Ha3).mono ?_
    rintro e w4 ⟨rfl, hB4⟩
    rw [HR.out]
    have HB4 : Hid (Below w.heap.size w w4) := HB3.out.trans (hB4.mono (by omega))
    clear hB4
    go_wp2
    go_ret
    exact ⟨rfl, HB4.out⟩
  · have hok := (colsB_iff xs).1 hcb
    have hpp : parRes xs = parOf xs := parRes_yes hcb
    have hps : (parOf xs).size = 3 := parOf_size hok
    have hpe : (parOf xs).toList.isEmpty = false := text_some (by omega)
    have hx3 := hok.1.2
    by_cases hl3 : xs.length < 2
    · have d3 : decide ((xs.length : Int) < 2) = true := by simp; omega
      clear hl3 hok hcb hps
      have HR := Lib.hid hpp
      clear hpp
      rw [HR.out]
      go_wp2_with fail
      refine (specParity_any a cap xs _ (by unfold maxLen; omega) Ha3).mono ?_
      rintro e w4 ⟨rfl, hB4⟩
      rw [HR.out]
      have HB4 : Hid (Below w.heap.size w w4) := HB3.out.trans (hB4.mono (by omega))
      clear hB4
      generalize parOf xs = p at *
      go_wp2
      go_ret
      exact ⟨rfl, HB4.out⟩
    · have d3 : decide ((xs.length : Int) < 2) = false := by simp; omega
      rw [hpp]
      obtain ⟨k, hki⟩ : ∃ k : Nat, (len1 : Int) % (xs.length : Int) = (k : Int) := ⟨len1 % xs.length, by push_cast; rfl⟩
      have hk : k < xs.length := by have := Int.emod_lt_of_pos (len1 : Int) (show (0 : Int) < xs.length by omega); omega
      obtain ⟨o, ho⟩ : ∃ o : Nat, o = (k + 1) % xs.length := ⟨_, rfl⟩
      have hoi : ((k : Int) + 1) % (xs.length : Int) = (o : Int) := by rw [ho]; push_cast; rfl
      have hol : o < xs.length := by rw [ho]; exact Nat.mod_lt _ (by omega)
      obtain ⟨q, hqi⟩ : ∃ q : Nat, (len1 : Int) / (xs.length : Int) = (q : Int) := ⟨len1 / xs.length, by push_cast; rfl⟩
      have hq : q ≤ len1 := by have := Int.ediv_le_self (a := (len1 : Int)) (xs.length : Int) (by omega); omega
      obtain ⟨t, hti⟩ : ∃ t : Nat, (q : Int) % 3 = (t : Int) := ⟨q % 3, by push_cast; rfl⟩
      have ht3 : t < 3 := by omega
      have Hw := Lib.hid (mend_wrong xs k o (delta t 5) (delta_size _ _) hok (by omega) hk ho)
      have hxo := hok.2 o hol
      have hxk := hok.2 k hk
      clear hpp hcb hok hps ho
      generalize parOf xs = p at *
      obtain ⟨b, off, rfl, hc⟩ := Ha3.out.resolve_left (fun e => by subst e; simp at h1)
      have hbl : b < w3.heap.size := World.block_lt_of_cell? w3 _ (hc 0 (by omega))
      have Hc : Hid (∀ j u, (xs.map Value.string)[j]? = some u → (w3.alloc (.cells #[] 9)).cell? ((⟨b, off, none⟩ : Addr).add j) = some u) :=
        news_strs (fun j hj => (World.cell?_of_block (Below.heap_alloc w3 _ b hbl)).trans (hc j hj))
      have Ho : Hid ((w3.alloc (.cells #[] 9)).ownsRow w3.heap.size 9 1 (.slice (some ⟨w3.heap.size, 0, none⟩) 0 0) 0 []) := World.ownsRow_made w3 #[] 0 (by omega) (by simp [maxLen]) (by simp)
      have Hck := Lib.hid (hc k hk)
      have hgo : (xs.map Value.string).getD o undef = .string (xs.getD o ByteArray.empty) := by
        rw [List.getD, List.getD, List.getElem?_map, List.getElem?_eq_getElem hol]; rfl
      have Hgo := Lib.hid hgo
      clear hc hgo
      generalize xs.getD k ByteArray.empty = xk at *
      generalize xs.getD o ByteArray.empty = xo at *
      go_wp2_with (at_builtin; refine wpList_append_lies _ rfl _ _ 31 rfl w3.heap.size 9 i0 _ 1 16 Try.underlying31 hi0 hz0 hz1 hz2 rfl (by omega) _ 0 [] rfl Ho.out ⟨b, off, none⟩ xs.length cap (xs.map Value.string) rfl (by simp) Hc.out (by simp [Value.oneCell']) (by omega) (by simp [maxLen]; omega) (by omega) (by simp) _ rfl ?_; intro g c4 w4 hown4 hgrow4 hat4 hlt4; have q4 := hgrow4.size; rw [List.nil_append, Nat.zero_add] at hown4; obtain ⟨hset4, hcell4, hfr4⟩ := owns_set hown4 o hol (.string ByteArray.empty); rw [Hgo.out] at hcell4)
      have hgb : w3.heap.size ≤ g := (hown4.lt g rfl).1
      have hB4 : Below w3.heap.size w3 w4 := ((Below.refl _ w3).alloc (by omega) _).grown hgrow4 (by simp) (fun i e => (Ho.out.lt i e).1)
      have Ho4 := Lib.hid hown4
      have HB4 := Lib.hid hB4
      have q4' := hB4.size
      clear hset4 hown4 hB4 hgrow4 hcell4 hfr4
      refine (changedD hxo ht3 _).mono ?_
      rintro e w5 ⟨rfl, hB5⟩
      have hB5' := HB4.out.trans (hB5.mono q4')
      obtain ⟨hset5, hcell5, hfr5⟩ := owns_set (owns_below Ho4.out hB5) o hol (.string (xorS xo (delta t 5)))
      rw [← List.map_set] at hset5
      have hB6 : Below w3.heap.size w3 (w5.setCell ⟨g, o, none⟩ (.string (xorS xo (delta t 5)))) := hB5'.setCell (p := ⟨g, o, none⟩) hgb _
      have Hset := Lib.hid hset5
      have HB6 := Lib.hid hB6
      clear hset5 hB6 hB5' hB5
      go_wp2_with fail
      generalize w5.setCell ⟨g, o, none⟩ (.string (xorS xo (delta t 5))) = w6 at Hset HB6 ⊢
      refine (mended Hset.out Hw.out (by omega)).mono ?_
      rintro e w7 ⟨rfl, hB7⟩
      have hB7' : Below w3.heap.size w3 w7 := HB6.out.trans (hB7.mono HB6.out.size)
      have hck7 := (hB7'.cell (p := ⟨b, off + k, none⟩) hbl).trans Hck.out
      have HB7 := Lib.hid hB7'
      have q7 := hB7'.size
      have HD := changedD (t := t) hxk ht3
      have HDh := Lib.hid HD
      clear hB7 hB7' HD hcell5 hfr5
      generalize xorS xk (delta t 5) = r at HDh ⊢
      go_wp2_with fail
      refine (HDh.out _).mono ?_
      rintro e w8 ⟨rfl, hB8⟩
      have HB8 : Hid (Below w.heap.size w w8) := HB3.out.trans ((HB7.out.trans (hB8.mono q7)).mono (by omega))
      clear hB8
      go_wp2
      go_ret
      exact ⟨rfl, HB8.out⟩

set_option maxRecDepth 100000 in
set_option maxHeartbeats 1000000 in
theorem walk (a0 : Option Addr) (len0 cap0 : Nat) (z0 : List Int) (a1 : Option Addr) (len1 cap1 : Nat) (z1 : List Int) (w : World) (w0 : IsBytes w a0 len0 cap0 z0) (w1 : IsBytes w a1 len1 cap1 z1) :
    Calls Try.prog 13 #[.slice a0 len0 cap0, .slice a1 len1 cap1] w fun e w' => e = .returned (.bool true) ∧ Below w.heap.size w w' := by
  by_cases hl0 : len0 ≤ 1048576
  · by_cases hl1 : len1 ≤ 1048576
    · exact main a0 len0 cap0 z0 a1 len1 cap1 w (Lib.hid w0) hl0 hl1
    · clear w0 w1
      have d0 : decide (1048576 < (len0 : Int)) = false := by simp; omega
      have d1 : decide (1048576 < (len1 : Int)) = true := by simp; omega
      go_enter Try.func13, Try.ntmps13
      go_wp2
      go_ret
      exact ⟨rfl, Below.refl _ _⟩
  · clear w0 w1
    have d0 : decide (1048576 < (len0 : Int)) = true := by simp; omega
    go_enter Try.func13, Try.ntmps13
    go_wp2
    go_ret
    exact ⟨rfl, Below.refl _ _⟩

set_option maxRecDepth 100000 in
theorem lifted (os : Os) (started : os.Started) (H : Type) (enc : TypeId × Value → H) :
    ReturnsInHanded {} Try.checked os 13 .any (Rows.fnMendWrongSpec.pre6 enc Try.prog Try.f13 Rows.fnMendWrongRow.domain false) (Rows.fnMendWrongSpec.post enc Try.prog Try.f13 false true false false) := by
  refine returnsInHanded_of_change (C := Try.checked) own started (by kernel_rfl) Try.func13
    (ChangeSpec.witness6 (enc := enc) (C := Try.checked) false ⟨#[], #[.slice none 0 0, .slice none 0 0], []⟩ 8 (by kernel_rfl) (by kernel_rfl) (by kernel_rfl) (by kernel_rfl)) ?_
  intro W base args ds gs before hval0 hW hcnd _
  have hval : ∀ (j : Nat) t v, Try.f13.params[j]? = some t → args[j]? = some v → Value.okWide Try.prog W .any base t v := hval0
  have hW' := hW
  obtain ⟨p, q, hA0, hV, rfl, hfz, hnd⟩ := hW
  have hA : DataW.TrodAll enc Try.prog W 0 (fun _ => true) true Try.f13.params.toList args.toList ds p := hA0
  rw [Try.params13] at hA hval
  obtain ⟨v0, vs0, d0, ds0, p0, q0, hargs, rfl, rfl, h0, r0⟩ := trodAll_cons hA
  obtain ⟨v1, vs1, d1, ds1, p1, q1, rfl, rfl, rfl, h1, r1⟩ := trodAll_cons r0
  obtain ⟨rfl, rfl, rfl⟩ := trodAll_nil r1
  obtain rfl : args = #[v0, v1] := by cases args; simp_all
  obtain ⟨rfl, rfl⟩ := trodVars_none hV
  have k0 := h0
  have lt0 : ∀ x ∈ p0, x.block < W.heap.size := by obtain ⟨m, hm⟩ := k0; exact DataW.trod_lt m _ _ _ hm
  obtain ⟨a0, len0, cap0, rfl⟩ := okWide_slice Try.underlying22 (hval 0 22 v0 rfl rfl)
  obtain ⟨z0, w0⟩ : ∃ zs, IsBytes W a0 len0 cap0 zs := by
    obtain ⟨fuel, hf⟩ := h0
    rcases open_ints Try.underlying22 Try.underlying5 (by kernel_rfl) hf with ⟨hcs, _⟩ | ⟨x, l, c, zs, hcs, _, hl, hm, hz, _, hcell, hwz⟩
    · simp [Value.cells] at hcs
      obtain ⟨rfl, rfl, rfl⟩ := hcs
      exact ⟨[], .inl ⟨rfl, rfl, rfl, rfl⟩⟩
    · simp [Value.cells] at hcs
      obtain ⟨rfl, rfl, rfl⟩ := hcs
      exact ⟨zs, .inr ⟨_, rfl, hl, hm, by simpa using hz, hcell, hwz⟩⟩
  have k1 := h1
  have lt1 : ∀ x ∈ p1, x.block < W.heap.size := by obtain ⟨m, hm⟩ := k1; exact DataW.trod_lt m _ _ _ hm
  obtain ⟨a1, len1, cap1, rfl⟩ := okWide_slice Try.underlying22 (hval 1 22 v1 rfl rfl)
  obtain ⟨z1, w1⟩ : ∃ zs, IsBytes W a1 len1 cap1 zs := by
    obtain ⟨fuel, hf⟩ := h1
    rcases open_ints Try.underlying22 Try.underlying5 (by kernel_rfl) hf with ⟨hcs, _⟩ | ⟨x, l, c, zs, hcs, _, hl, hm, hz, _, hcell, hwz⟩
    · simp [Value.cells] at hcs
      obtain ⟨rfl, rfl, rfl⟩ := hcs
      exact ⟨[], .inl ⟨rfl, rfl, rfl, rfl⟩⟩
    · simp [Value.cells] at hcs
      obtain ⟨rfl, rfl, rfl⟩ := hcs
      exact ⟨zs, .inr ⟨_, rfl, hl, hm, by simpa using hz, hcell, hwz⟩⟩
  clear hA0 hval0
  refine (walk a0 len0 cap0 z0 a1 len1 cap1 z1 W w0 w1).mono fun e W' ⟨he, bel⟩ => ?_
  subst he
  exact ⟨_, rfl, _, _, _, [], _, [], hW', trodAll_mk1 (shut_bool Try.underlying4 _), (trodAll_cons_mk (Below.trod laidOut (by kernel_rfl) (of_decide_eq_true (by kernel_rfl)) k0 bel lt0) (trodAll_cons_mk (Below.trod laidOut (by kernel_rfl) (of_decide_eq_true (by kernel_rfl)) k1 bel lt1) trodAll_mk0)), rfl, bel.frame _, fun h => by cases h⟩

theorem over : Rows.fnMendWrongRow.holds Try.pinned (OpenSpec.ofChange Rows.fnMendWrongSpec) :=
  OpenClaim.holds_of_wide 13 Try.f13 rfl rfl rfl rfl rfl rfl rfl ⟨rfl, rfl, rfl, rfl, rfl⟩ rfl rfl rfl rfl rfl (by kernel_rfl) Try.func13 (by kernel_rfl)
    (of_decide_eq_true (by kernel_rfl)) (by unfold Func.isWrapper; first | (rw [if_pos (by decide +kernel)]; kernel_rfl) | (rw [if_neg (by decide +kernel)]; exact ⟨rfl, rfl⟩))
    (fun os started H enc _ => lifted os started H enc)

end FnMendWrong

theorem FnMendWrong_holds : Rows.FnMendWrongSaid := FnMendWrong.over

end Go.Proofs.Ytphenphfficnaaa

/- 'laws.FnXorThree' returns true at every two codes: of three texts it does not matter which are taken together first. Conditions: none. -/
import Derived.Test.YtphenphfficnaaaK
import Derived.Test.YtphenphfficnaaaX2
import Derived.Test.YtphenphfficnaaaM3
import Derived.Test.YtphenphfficnaaaD4
namespace Go.Proofs.Ytphenphfficnaaa
open Go.ChangeShapes Go.WideShapes Go.ChangeAt Go.RowKit
open Go.ChangeMaps (open_string shut_string)
namespace FnXorThree
set_option linter.unusedVariables false

theorem xorTo {s t : ByteArray} (r : ByteArray) (h : xorS s t = r) (hs : s.size ≤ 1000) (ht : t.size ≤ 1000) (w : World) :
    Calls Try.prog 20 #[.string s, .string t] w fun e w' => e = .returned (.string r) ∧ Below w.heap.size w w' := by
  subst h
  exact implXor_any s t (by omega) (by omega) w

set_option maxRecDepth 100000 in
set_option maxHeartbeats 1000000 in
theorem main (a0 : Option Addr) (len0 cap0 : Nat) (z0 : List Int) (a1 : Option Addr) (len1 cap1 : Nat) (z1 : List Int) (w : World) (H0 : Hid (IsBytes w a0 len0 cap0 z0)) (H1 : Hid (IsBytes w a1 len1 cap1 z1)) (hl0 : len0 ≤ 1048576) (hl1 : len1 ≤ 1048576) :
    Calls Try.prog 6 #[.slice a0 len0 cap0, .slice a1 len1 cap1] w fun e w' => e = .returned (.bool true) ∧ Below w.heap.size w w' := by
  have d0 : decide (1048576 < (len0 : Int)) = false := by simp; omega
  have d1 : decide (1048576 < (len1 : Int)) = false := by simp; omega
  go_enter Try.func6, Try.ntmps6
  go_wp2_with fail
  refine (drawXor_any a0 len0 cap0 z0 _ H0.out).mono ?_
  rintro e w1 ⟨a, b, rfl, ha, hb, hB1⟩
  go_wp2_with fail
  refine (drawXor_any a1 len1 cap1 z1 _ (H1.out.below hB1)).mono ?_
  rintro e w2 ⟨c, c2, rfl, hc, _, hB2⟩
  have q1 := hB1.size
  have q2 := hB2.size
  have hB2' := hB1.trans (hB2.mono q1)
  clear hB1 hB2
  have sx := xorS_size a b
  have sy := xorS_size b c
  have sz := xorS_size c a
  obtain ⟨x, hx⟩ : ∃ x, xorS a b = x := ⟨_, rfl⟩
  obtain ⟨y, hy⟩ : ∃ y, xorS b c = y := ⟨_, rfl⟩
  obtain ⟨z, hz⟩ : ∃ z, xorS c a = z := ⟨_, rfl⟩
  obtain ⟨r, hr⟩ : ∃ r, xorS x c = r := ⟨_, rfl⟩
  obtain ⟨q, hq⟩ : ∃ q, xorS z b = q := ⟨_, rfl⟩
  have hr2 : xorS a y = r := by rw [← hr, ← hx, ← hy, xorS_assoc]
  have hq2 : xorS c x = q := by rw [← hq, ← hx, ← hz, xorS_assoc]
  rw [hx] at sx
  rw [hy] at sy
  rw [hz] at sz
  have lx : x.size ≤ 1000 := by omega
  have ly : y.size ≤ 1000 := by omega
  have lz : z.size ≤ 1000 := by omega
  have Hx := Lib.hid hx
  have Hy := Lib.hid hy
  have Hz := Lib.hid hz
  have Hr := Lib.hid hr
  have Hq := Lib.hid hq
  have Hr2 := Lib.hid hr2
  have Hq2 := Lib.hid hq2
  clear hx hy hz hr hq hr2 hq2 sx sy sz
  go_wp2_with fail
  refine (xorTo x Hx.out (by omega) (by omega) _).mono ?_
  rintro e w3 ⟨rfl, hB3⟩
  go_wp2_with fail
  refine (specXor_any a b (by omega) (by omega) _).mono ?_
  rintro e w4 ⟨he, hB4⟩
  rw [Hx.out] at he
  subst he
  go_wp2_with fail
  refine (xorTo r Hr.out (by omega) (by omega) _).mono ?_
  rintro e w5 ⟨rfl, hB5⟩
  go_wp2_with fail
  refine (xorTo y Hy.out (by omega) (by omega) _).mono ?_
  rintro e w6 ⟨rfl, hB6⟩
  go_wp2_with fail
  refine (xorTo r Hr2.out (by omega) (by omega) _).mono ?_
  rintro e w7 ⟨rfl, hB7⟩
  go_wp2_with fail
  refine (xorTo z Hz.out (by omega) (by omega) _).mono ?_
  rintro e w8 ⟨rfl, hB8⟩
  go_wp2_with fail
  refine (xorTo q Hq.out (by omega) (by omega) _).mono ?_
  rintro e w9 ⟨rfl, hB9⟩
  go_wp2_with fail
  refine (xorTo q Hq2.out (by omega) (by omega) _).mono ?_
  rintro e w10 ⟨rfl, hB10⟩
  go_wp2
  go_ret
  have q3 := hB3.size
  have q4 := hB4.size
  have q5 := hB5.size
  have q6 := hB6.size
  have q7 := hB7.size
  have q8 := hB8.size
  have q9 := hB9.size
  exact ⟨rfl, hB2'.trans ((hB3.mono (by omega)).trans ((hB4.mono (by omega)).trans ((hB5.mono (by omega)).trans ((hB6.mono (by omega)).trans ((hB7.mono (by omega)).trans ((hB8.mono (by omega)).trans ((hB9.mono (by omega)).trans (hB10.mono (by omega)))))))))⟩

set_option maxRecDepth 100000 in
set_option maxHeartbeats 1000000 in
theorem walk (a0 : Option Addr) (len0 cap0 : Nat) (z0 : List Int) (a1 : Option Addr) (len1 cap1 : Nat) (z1 : List Int) (w : World) (w0 : IsBytes w a0 len0 cap0 z0) (w1 : IsBytes w a1 len1 cap1 z1) :
    Calls Try.prog 6 #[.slice a0 len0 cap0, .slice a1 len1 cap1] w fun e w' => e = .returned (.bool true) ∧ Below w.heap.size w w' := by
  by_cases hl0 : len0 ≤ 1048576
  · by_cases hl1 : len1 ≤ 1048576
    · exact main a0 len0 cap0 z0 a1 len1 cap1 z1 w (Lib.hid w0) (Lib.hid w1) hl0 hl1
    · clear w0 w1
      have d0 : decide (1048576 < (len0 : Int)) = false := by simp; omega
      have d1 : decide (1048576 < (len1 : Int)) = true := by simp; omega
      go_enter Try.func6, Try.ntmps6
      go_wp2
      go_ret
      exact ⟨rfl, Below.refl _ _⟩
  · clear w0 w1
    have d0 : decide (1048576 < (len0 : Int)) = true := by simp; omega
    go_enter Try.func6, Try.ntmps6
    go_wp2
    go_ret
    exact ⟨rfl, Below.refl _ _⟩

set_option maxRecDepth 100000 in
theorem lifted (os : Os) (started : os.Started) (H : Type) (enc : TypeId × Value → H) :
    ReturnsInHanded {} Try.checked os 6 .any (Rows.fnXorThreeSpec.pre6 enc Try.prog Try.f6 Rows.fnXorThreeRow.domain false) (Rows.fnXorThreeSpec.post enc Try.prog Try.f6 false true false false) := by
  refine returnsInHanded_of_change (C := Try.checked) own started (by kernel_rfl) Try.func6
    (ChangeSpec.witness6 (enc := enc) (C := Try.checked) false ⟨#[], #[.slice none 0 0, .slice none 0 0], []⟩ 8 (by kernel_rfl) (by kernel_rfl) (by kernel_rfl) (by kernel_rfl)) ?_
  intro W base args ds gs before hval0 hW hcnd _
  have hval : ∀ (j : Nat) t v, Try.f6.params[j]? = some t → args[j]? = some v → Value.okWide Try.prog W .any base t v := hval0
  have hW' := hW
  obtain ⟨p, q, hA0, hV, rfl, hfz, hnd⟩ := hW
  have hA : DataW.TrodAll enc Try.prog W 0 (fun _ => true) true Try.f6.params.toList args.toList ds p := hA0
  rw [Try.params6] at hA hval
  obtain ⟨v0, vs0, d0, ds0, p0, q0, hargs, rfl, rfl, h0, r0⟩ := trodAll_cons hA
  obtain ⟨v1, vs1, d1, ds1, p1, q1, rfl, rfl, rfl, h1, r1⟩ := trodAll_cons r0
  obtain ⟨rfl, rfl, rfl⟩ := trodAll_nil r1
  obtain rfl : args = #[v0, v1] := by cases args; simp_all
  obtain ⟨rfl, rfl⟩ := trodVars_none hV
  have k0 := h0
  have lt0 : ∀ x ∈ p0, x.block < W.heap.size := by obtain ⟨m, hm⟩ := k0; exact DataW.trod_lt m _ _ _ hm
  obtain ⟨a0, len0, cap0, rfl⟩ := okWide_slice Try.underlying22 (hval 0 22 v0 rfl rfl)
  obtain ⟨z0, w0⟩ : ∃ zs, IsBytes W a0 len0 cap0 zs := by
    obtain ⟨fuel, hf⟩ := h0
    rcases open_ints Try.underlying22 Try.underlying5 (by kernel_rfl) hf with ⟨hcs, _⟩ | ⟨x, l, c, zs, hcs, _, hl, hm, hz, _, hcell, hwz⟩
    · simp [Value.cells] at hcs
      obtain ⟨rfl, rfl, rfl⟩ := hcs
      exact ⟨[], .inl ⟨rfl, rfl, rfl, rfl⟩⟩
    · simp [Value.cells] at hcs
      obtain ⟨rfl, rfl, rfl⟩ := hcs
      exact ⟨zs, .inr ⟨_, rfl, hl, hm, by simpa using hz, hcell, hwz⟩⟩
  have k1 := h1
  have lt1 : ∀ x ∈ p1, x.block < W.heap.size := by obtain ⟨m, hm⟩ := k1; exact DataW.trod_lt m _ _ _ hm
  obtain ⟨a1, len1, cap1, rfl⟩ := okWide_slice Try.underlying22 (hval 1 22 v1 rfl rfl)
  obtain ⟨z1, w1⟩ : ∃ zs, IsBytes W a1 len1 cap1 zs := by
    obtain ⟨fuel, hf⟩ := h1
    rcases open_ints Try.underlying22 Try.underlying5 (by kernel_rfl) hf with ⟨hcs, _⟩ | ⟨x, l, c, zs, hcs, _, hl, hm, hz, _, hcell, hwz⟩
    · simp [Value.cells] at hcs
      obtain ⟨rfl, rfl, rfl⟩ := hcs
      exact ⟨[], .inl ⟨rfl, rfl, rfl, rfl⟩⟩
    · simp [Value.cells] at hcs
      obtain ⟨rfl, rfl, rfl⟩ := hcs
      exact ⟨zs, .inr ⟨_, rfl, hl, hm, by simpa using hz, hcell, hwz⟩⟩
  clear hA0 hval0
  refine (walk a0 len0 cap0 z0 a1 len1 cap1 z1 W w0 w1).mono fun e W' ⟨he, bel⟩ => ?_
  subst he
  exact ⟨_, rfl, _, _, _, [], _, [], hW', trodAll_mk1 (shut_bool Try.underlying4 _), (trodAll_cons_mk (Below.trod laidOut (by kernel_rfl) (of_decide_eq_true (by kernel_rfl)) k0 bel lt0) (trodAll_cons_mk (Below.trod laidOut (by kernel_rfl) (of_decide_eq_true (by kernel_rfl)) k1 bel lt1) trodAll_mk0)), rfl, bel.frame _, fun h => by cases h⟩

theorem over : Rows.fnXorThreeRow.holds Try.pinned (OpenSpec.ofChange Rows.fnXorThreeSpec) :=
  OpenClaim.holds_of_wide 6 Try.f6 rfl rfl rfl rfl rfl rfl rfl ⟨rfl, rfl, rfl, rfl, rfl⟩ rfl rfl rfl rfl rfl (by kernel_rfl) Try.func6 (by kernel_rfl)
    (of_decide_eq_true (by kernel_rfl)) (by unfold Func.isWrapper; first | (rw [if_pos (by decide +kernel)]; kernel_rfl) | (rw [if_neg (by decide +kernel)]; exact ⟨rfl, rfl⟩))
    (fun os started H enc _ => lifted os started H enc)

end FnXorThree

theorem FnXorThree_holds : Rows.FnXorThreeSaid := FnXorThree.over

end Go.Proofs.Ytphenphfficnaaa

/- 'laws.FnSumOne' returns true at every two codes: texts of one length that differ in one byte, or two, have not the same sum. Conditions: none. -/
import Derived.Test.YtagfnhgioljfnaaK
import Derived.Test.YtagfnhgioljfnaaA2
import Derived.Test.YtagfnhgioljfnaaM2
import Derived.Test.YtagfnhgioljfnaaD3
namespace Go.Proofs.Ytagfnhgioljfnaa
open Go.ChangeShapes Go.WideShapes Go.ChangeAt Go.RowKit
open Go.ChangeMaps (open_string shut_string)
namespace FnSumOne
set_option linter.unusedVariables false

/-- Where SumOf stands as a test, its answer is told as a number that is, or is not, another. -/
def Other (n : Int) (w : World) (e : Ending) (w' : World) : Prop := ∃ m : Int, e = .returned (.int .i64 m) ∧ (m != n) = true ∧ (m == n) = false ∧ Below w.heap.size w w'
theorem other (s : ByteArray) (n : Int) (h : sumOf s ≠ n) (w : World) : Calls Try.prog 13 #[.string s] w (Other n w) :=
  (implSum_any s w).mono fun e w' ⟨he, hB⟩ => ⟨_, he, by simpa using h, by simpa using h, hB⟩

/-- The byte by which texts are changed. -/
def ByteOf (w : World) (a : Option Addr) (len : Nat) (z : Int) : Prop := len = 0 ∨ ∃ b off, a = some ⟨b, off, none⟩ ∧ b < w.heap.size ∧ w.cell? ⟨b, off, none⟩ = some (.int .u8 z)

set_option maxRecDepth 100000 in
set_option maxHeartbeats 4000000 in
theorem main (a0 : Option Addr) (len0 cap0 : Nat) (z0 : List Int) (a1 : Option Addr) (len1 cap1 : Nat) (w : World) (H : Hid (IsBytes w a0 len0 cap0 z0)) (z : Int) (hz : 0 ≤ z ∧ z ≤ 255) (HZ : Hid (ByteOf w a1 len1 z))
    (hl0 : len0 ≤ 1048576) (hl1 : len1 ≤ 1048576) :
    Calls Try.prog 3 #[.slice a0 len0 cap0, .slice a1 len1 cap1] w fun e w' => e = .returned (.bool true) ∧ Below w.heap.size w w' := by
  have d0 : decide (1048576 < (len0 : Int)) = false := by simp; omega
  have d1 : decide (1048576 < (len1 : Int)) = false := by simp; omega
  go_enter Try.func3, Try.ntmps3
  go_wp2_with fail
  refine (drawSum_any a0 len0 cap0 z0 _ H.out).mono ?_
  rintro e w1 ⟨s, rfl, hs, hB1⟩
  have hbd := sumOf_bd s
  go_wp2_with fail
  refine (implSum_any s _).mono ?_
  rintro e w2 ⟨rfl, hB2⟩
  have hB12 : Below w.heap.size w w2 := hB1.trans (hB2.mono hB1.size)
  clear hB1 hB2
  go_wp2_with fail
  refine (specSum_any s (by unfold maxLen; omega) _).mono ?_
  rintro e w3 ⟨rfl, rfl⟩
  have hne : (sumOf s != sumOf s) = false := by simp
  have heq : (sumOf s == sumOf s) = true := by simp
  by_cases h0 : s.size = 0
  · have e0 : ((s.size : Int) == 0) = true := beq_iff_eq.2 (by omega)
    go_wp2_with fail
    refine (specSum_any s (by unfold maxLen; omega) _).mono ?_
    rintro e w3 ⟨rfl, rfl⟩
    go_wp2
    go_ret
    exact ⟨rfl, hB12⟩
  · have e0 : ((s.size : Int) == 0) = false := beq_eq_false_iff_ne.2 (by omega)
    by_cases h9 : s.size ≤ 9
    · have e9 : decide (9 < (s.size : Int)) = false := by simp; omega
      obtain ⟨k, hki⟩ : ∃ k : Nat, (len1 : Int) % (s.size : Int) = (k : Int) := ⟨len1 % s.size, by push_cast; rfl⟩
      have hk : k < s.size := by have := Int.emod_lt_of_pos (len1 : Int) (show (0 : Int) < s.size by omega); omega
      obtain ⟨q, hqi⟩ : ∃ q : Nat, (len1 : Int) / (s.size : Int) = (q : Int) := ⟨len1 / s.size, by push_cast; rfl⟩
      have hq : q ≤ len1 := by have := Int.ediv_le_self (a := (len1 : Int)) (s.size : Int) (by omega); omega
      obtain ⟨j, hji⟩ : ∃ j : Nat, ((k : Int) + 1 + (q : Int)) % (s.size : Int) = (j : Int) := ⟨(k + 1 + q) % s.size, by push_cast; rfl⟩
      have hj : j < s.size := by have := Int.emod_lt_of_pos ((k : Int) + 1 + (q : Int)) (show (0 : Int) < s.size by omega); omega
      by_cases hl : len1 = 0
      · have dl : decide (0 < len1) = false := by simp; omega
        have hc : 1 ≤ (1 : Int) ∧ (1 : Int) ≤ 255 := by omega
        clear h0 hl
        go_wp2_with fail
        refine (lpaChanged_any s k _ _ hk).mono ?_
        rintro e w3 ⟨rfl, hB3⟩
        have n1 := sum_one s k _ hk h9 hc
        have n2 := fun h => sum_two s k j _ hk hj h h9 hc
        generalize ht : withAt s k _ = t at n1 n2 ⊢
        have hts : t.size = s.size := by rw [← ht]; exact withAt_size _ _ _
        have Ht := Lib.hid hts
        clear ht hts
        go_wp2_with fail
        refine (lpaChanged_any t j _ _ (by rw [Ht.out]; exact hj)).mono ?_
        rintro e w4 ⟨rfl, hB4⟩
        generalize withAt t j _ = t2 at n2 ⊢
        go_wp2_with fail
        refine (other t _ n1 _).mono ?_
        rintro e w5 ⟨m1, rfl, m1n, m1e, hB5⟩
        have q12 := hB12.size
        have q3 := hB3.size
        have q4 := hB4.size
        have q5 := hB5.size
        have hB5' : Below w.heap.size w w5 := hB12.trans ((hB3.mono q12).trans ((hB4.mono (by omega)).trans (hB5.mono (by omega))))
        by_cases hjk : j = k
        · have ejk : ((j : Int) == (k : Int)) = true := beq_iff_eq.2 (by omega)
          go_wp2
          go_ret
          exact ⟨rfl, hB5'⟩
        · have ejk : ((j : Int) == (k : Int)) = false := beq_eq_false_iff_ne.2 (by omega)
          go_wp2_with fail
          refine (other t2 _ (n2 hjk) _).mono ?_
          rintro e w6 ⟨m2, rfl, m2n, m2e, hB6⟩
          go_wp2
          go_ret
          exact ⟨rfl, hB5'.trans (hB6.mono (by omega))⟩
      · have dl : decide (0 < len1) = true := by simp; omega
        obtain ⟨b, off, rfl, hb, hcz⟩ := HZ.out.resolve_left hl
        have hcz2 : w2.cell? ⟨b, off, none⟩ = some (.int .u8 z) := (hB12.cell (p := ⟨b, off, none⟩) hb).trans hcz
        clear h0 hcz
        by_cases hzz : 0 < z
        · have dz : decide (0 < z) = true := by simpa using hzz
          have hc : 1 ≤ z ∧ z ≤ 255 := by omega
          go_wp2_with fail
          refine (lpaChanged_any s k _ _ hk).mono ?_
          rintro e w3 ⟨rfl, hB3⟩
          have n1 := sum_one s k _ hk h9 hc
          have n2 := fun h => sum_two s k j _ hk hj h h9 hc
          generalize ht : withAt s k _ = t at n1 n2 ⊢
          have hts : t.size = s.size := by rw [← ht]; exact withAt_size _ _ _
          have Ht := Lib.hid hts
          clear ht hts
          go_wp2_with fail
          refine (lpaChanged_any t j _ _ (by rw [Ht.out]; exact hj)).mono ?_
          rintro e w4 ⟨rfl, hB4⟩
          generalize withAt t j _ = t2 at n2 ⊢
          go_wp2_with fail
          refine (other t _ n1 _).mono ?_
          rintro e w5 ⟨m1, rfl, m1n, m1e, hB5⟩
          have q12 := hB12.size
          have q3 := hB3.size
          have q4 := hB4.size
          have q5 := hB5.size
          have hB5' : Below w.heap.size w w5 := hB12.trans ((hB3.mono q12).trans ((hB4.mono (by omega)).trans (hB5.mono (by omega))))
          by_cases hjk : j = k
          · have ejk : ((j : Int) == (k : Int)) = true := beq_iff_eq.2 (by omega)
            go_wp2
            go_ret
            exact ⟨rfl, hB5'⟩
          · have ejk : ((j : Int) == (k : Int)) = false := beq_eq_false_iff_ne.2 (by omega)
            go_wp2_with fail
            refine (other t2 _ (n2 hjk) _).mono ?_
            rintro e w6 ⟨m2, rfl, m2n, m2e, hB6⟩
            go_wp2
            go_ret
            exact ⟨rfl, hB5'.trans (hB6.mono (by omega))⟩
        · have dz : decide (0 < z) = false := by simpa using hzz
          have hc : 1 ≤ (1 : Int) ∧ (1 : Int) ≤ 255 := by omega
          go_wp2_with fail
          refine (lpaChanged_any s k _ _ hk).mono ?_
          rintro e w3 ⟨rfl, hB3⟩
          have n1 := sum_one s k _ hk h9 hc
          have n2 := fun h => sum_two s k j _ hk hj h h9 hc
          generalize ht : withAt s k _ = t at n1 n2 ⊢
          have hts : t.size = s.size := by rw [← ht]; exact withAt_size _ _ _
          have Ht := Lib.hid hts
          clear ht hts
          go_wp2_with fail
          refine (lpaChanged_any t j _ _ (by rw [Ht.out]; exact hj)).mono ?_
          rintro e w4 ⟨rfl, hB4⟩
          generalize withAt t j _ = t2 at n2 ⊢
          go_wp2_with fail
          refine (other t _ n1 _).mono ?_
          rintro e w5 ⟨m1, rfl, m1n, m1e, hB5⟩
          have q12 := hB12.size
          have q3 := hB3.size
          have q4 := hB4.size
          have q5 := hB5.size
          have hB5' : Below w.heap.size w w5 := hB12.trans ((hB3.mono q12).trans ((hB4.mono (by omega)).trans (hB5.mono (by omega))))
          by_cases hjk : j = k
          · have ejk : ((j : Int) == (k : Int)) = true := beq_iff_eq.2 (by omega)
            go_wp2
            go_ret
            exact ⟨rfl, hB5'⟩
          · have ejk : ((j : Int) == (k : Int)) = false := beq_eq_false_iff_ne.2 (by omega)
            go_wp2_with fail
            refine (other t2 _ (n2 hjk) _).mono ?_
            rintro e w6 ⟨m2, rfl, m2n, m2e, hB6⟩
            go_wp2
            go_ret
            exact ⟨rfl, hB5'.trans (hB6.mono (by omega))⟩
    · have e9 : decide (9 < (s.size : Int)) = true := by simp; omega
      go_wp2_with fail
      refine (specSum_any s (by unfold maxLen; omega) _).mono ?_
      rintro e w3 ⟨rfl, rfl⟩
      go_wp2
      go_ret
      exact ⟨rfl, hB12⟩

set_option maxRecDepth 100000 in
set_option maxHeartbeats 1000000 in
theorem walk (a0 : Option Addr) (len0 cap0 : Nat) (z0 : List Int) (a1 : Option Addr) (len1 cap1 : Nat) (z1 : List Int) (w : World) (w0 : IsBytes w a0 len0 cap0 z0) (w1 : IsBytes w a1 len1 cap1 z1) :
    Calls Try.prog 3 #[.slice a0 len0 cap0, .slice a1 len1 cap1] w fun e w' => e = .returned (.bool true) ∧ Below w.heap.size w w' := by
  obtain ⟨_, _, zs, hz, hc⟩ := w1.opened
  have HZ : Hid (ByteOf w a1 len1 (zs 0)) := by
    rcases hc with h | ⟨b, off, e, hb, hc⟩
    · exact .inl h
    · by_cases h : len1 = 0
      · exact .inl h
      · exact .inr ⟨b, off, e, hb, hc 0 (by omega)⟩
  by_cases hl0 : len0 ≤ 1048576
  · by_cases hl1 : len1 ≤ 1048576
    · exact main a0 len0 cap0 z0 a1 len1 cap1 w (Lib.hid w0) (zs 0) (hz 0) HZ hl0 hl1
    · clear w0 w1 hc HZ
      have d0 : decide (1048576 < (len0 : Int)) = false := by simp; omega
      have d1 : decide (1048576 < (len1 : Int)) = true := by simp; omega
      go_enter Try.func3, Try.ntmps3
      go_wp2
      go_ret
      exact ⟨rfl, Below.refl _ _⟩
  · clear w0 w1 hc HZ
    have d0 : decide (1048576 < (len0 : Int)) = true := by simp; omega
    go_enter Try.func3, Try.ntmps3
    go_wp2
    go_ret
    exact ⟨rfl, Below.refl _ _⟩

set_option maxRecDepth 100000 in
theorem lifted (os : Os) (started : os.Started) (H : Type) (enc : TypeId × Value → H) :
    ReturnsInHanded {} Try.checked os 3 .any (Rows.fnSumOneSpec.pre6 enc Try.prog Try.f3 Rows.fnSumOneRow.domain false) (Rows.fnSumOneSpec.post enc Try.prog Try.f3 false true false false) := by
  refine returnsInHanded_of_change (C := Try.checked) own started (by kernel_rfl) Try.func3
    (ChangeSpec.witness6 (enc := enc) (C := Try.checked) false ⟨#[], #[.slice none 0 0, .slice none 0 0], []⟩ 8 (by kernel_rfl) (by kernel_rfl) (by kernel_rfl) (by kernel_rfl)) ?_
  intro W base args ds gs before hval0 hW hcnd _
  have hval : ∀ (j : Nat) t v, Try.f3.params[j]? = some t → args[j]? = some v → Value.okWide Try.prog W .any base t v := hval0
  have hW' := hW
  obtain ⟨p, q, hA0, hV, rfl, hfz, hnd⟩ := hW
  have hA : DataW.TrodAll enc Try.prog W 0 (fun _ => true) true Try.f3.params.toList args.toList ds p := hA0
  rw [Try.params3] at hA hval
  obtain ⟨v0, vs0, d0, ds0, p0, q0, hargs, rfl, rfl, h0, r0⟩ := trodAll_cons hA
  obtain ⟨v1, vs1, d1, ds1, p1, q1, rfl, rfl, rfl, h1, r1⟩ := trodAll_cons r0
  obtain ⟨rfl, rfl, rfl⟩ := trodAll_nil r1
  obtain rfl : args = #[v0, v1] := by cases args; simp_all
  obtain ⟨rfl, rfl⟩ := trodVars_none hV
  have k0 := h0
  have lt0 : ∀ x ∈ p0, x.block < W.heap.size := by obtain ⟨m, hm⟩ := k0; exact DataW.trod_lt m _ _ _ hm
  obtain ⟨a0, len0, cap0, rfl⟩ := okWide_slice Try.underlying22 (hval 0 22 v0 rfl rfl)
  obtain ⟨z0, w0⟩ : ∃ zs, IsBytes W a0 len0 cap0 zs := by
    obtain ⟨fuel, hf⟩ := h0
    rcases open_ints Try.underlying22 Try.underlying5 (by kernel_rfl) hf with ⟨hcs, _⟩ | ⟨x, l, c, zs, hcs, _, hl, hm, hz, _, hcell, hwz⟩
    · simp [Value.cells] at hcs
      obtain ⟨rfl, rfl, rfl⟩ := hcs
      exact ⟨[], .inl ⟨rfl, rfl, rfl, rfl⟩⟩
    · simp [Value.cells] at hcs
      obtain ⟨rfl, rfl, rfl⟩ := hcs
      exact ⟨zs, .inr ⟨_, rfl, hl, hm, by simpa using hz, hcell, hwz⟩⟩
  have k1 := h1
  have lt1 : ∀ x ∈ p1, x.block < W.heap.size := by obtain ⟨m, hm⟩ := k1; exact DataW.trod_lt m _ _ _ hm
  obtain ⟨a1, len1, cap1, rfl⟩ := okWide_slice Try.underlying22 (hval 1 22 v1 rfl rfl)
  obtain ⟨z1, w1⟩ : ∃ zs, IsBytes W a1 len1 cap1 zs := by
    obtain ⟨fuel, hf⟩ := h1
    rcases open_ints Try.underlying22 Try.underlying5 (by kernel_rfl) hf with ⟨hcs, _⟩ | ⟨x, l, c, zs, hcs, _, hl, hm, hz, _, hcell, hwz⟩
    · simp [Value.cells] at hcs
      obtain ⟨rfl, rfl, rfl⟩ := hcs
      exact ⟨[], .inl ⟨rfl, rfl, rfl, rfl⟩⟩
    · simp [Value.cells] at hcs
      obtain ⟨rfl, rfl, rfl⟩ := hcs
      exact ⟨zs, .inr ⟨_, rfl, hl, hm, by simpa using hz, hcell, hwz⟩⟩
  clear hA0 hval0
  refine (walk a0 len0 cap0 z0 a1 len1 cap1 z1 W w0 w1).mono fun e W' ⟨he, bel⟩ => ?_
  subst he
  exact ⟨_, rfl, _, _, _, [], _, [], hW', trodAll_mk1 (shut_bool Try.underlying4 _), (trodAll_cons_mk (Below.trod laidOut (by kernel_rfl) (of_decide_eq_true (by kernel_rfl)) k0 bel lt0) (trodAll_cons_mk (Below.trod laidOut (by kernel_rfl) (of_decide_eq_true (by kernel_rfl)) k1 bel lt1) trodAll_mk0)), rfl, bel.frame _, fun h => by cases h⟩

theorem over : Rows.fnSumOneRow.holds Try.pinned (OpenSpec.ofChange Rows.fnSumOneSpec) :=
  OpenClaim.holds_of_wide 3 Try.f3 rfl rfl rfl rfl rfl rfl rfl ⟨rfl, rfl, rfl, rfl, rfl⟩ rfl rfl rfl rfl rfl (by kernel_rfl) Try.func3 (by kernel_rfl)
    (of_decide_eq_true (by kernel_rfl)) (by unfold Func.isWrapper; first | (rw [if_pos (by decide +kernel)]; kernel_rfl) | (rw [if_neg (by decide +kernel)]; exact ⟨rfl, rfl⟩))
    (fun os started H enc _ => lifted os started H enc)

end FnSumOne

theorem FnSumOne_holds : Rows.FnSumOneSaid := FnSumOne.over

end Go.Proofs.Ytagfnhgioljfnaa

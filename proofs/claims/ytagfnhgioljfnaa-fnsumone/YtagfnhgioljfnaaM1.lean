/- Plain facts on sums of texts. Conditions: none. -/
import Derived.Test.YtagfnhgioljfnaaA1
namespace Go.Proofs.Ytagfnhgioljfnaa

theorem sumTo_lt (s : ByteArray) (k : Nat) (h : k ≤ 9) : 0 ≤ sumTo s k ∧ sumTo s k ≤ k * 16713975 := by
  induction k with
  | zero => simp [sumTo]
  | succ k ih =>
    have := ih (by omega)
    have b := byteAt_bd s k
    have e : sumTo s (k + 1) = sumTo s k + byteAt s k * (65536 + (k : Int) + 1) := rfl
    have a : 0 ≤ (65536 + (k : Int) + 1) := by omega
    have t0 := Int.mul_nonneg b.1 a
    have t1 : byteAt s k * (65536 + (k : Int) + 1) ≤ 255 * (65536 + (k : Int) + 1) := Int.mul_le_mul_of_nonneg_right b.2 a
    rw [e]
    omega
theorem sumOf_bd (s : ByteArray) : 0 ≤ sumOf s ∧ sumOf s ≤ 1000000000 := by
  have := sumTo_lt s (min s.size 9) (by omega)
  unfold sumOf
  omega
theorem sumTo_congr {s t : ByteArray} (k : Nat) (h : ∀ i, i < k → byteAt s i = byteAt t i) : sumTo s k = sumTo t k := by
  induction k with
  | zero => rfl
  | succ k ih => show sumTo s k + _ = sumTo t k + _; rw [ih (fun i hi => h i (by omega)), h k (by omega)]
theorem sumTo_mono (s : ByteArray) {i j : Nat} (h : i ≤ j) : sumTo s i ≤ sumTo s j := by
  induction j with
  | zero => obtain rfl : i = 0 := by omega
            exact Int.le_refl _
  | succ j ih =>
    by_cases e : i = j + 1
    · subst e; exact Int.le_refl _
    · have := ih (by omega)
      have a : 0 ≤ (65536 + (j : Int) + 1) := by omega
      have := Int.mul_nonneg (byteAt_bd s j).1 a
      show _ ≤ sumTo s j + _
      omega
theorem byteAt_append {s t : ByteArray} {i : Nat} (h : i < s.size) : byteAt (s ++ t) i = byteAt s i := by
  unfold byteAt
  have h' : i < s.data.toList.length := by simpa using h
  have : (s ++ t).data.toList = s.data.toList ++ t.data.toList := by simp [ByteArray.data_append]
  rw [this, List.getElem?_append_left h']
theorem sumOf_append (s t : ByteArray) : sumOf s ≤ sumOf (s ++ t) := by
  unfold sumOf
  rw [sumTo_congr (s := s) (t := s ++ t) (min s.size 9) (fun i hi => (byteAt_append (by omega)).symm)]
  exact sumTo_mono _ (by simp [ByteArray.size_append]; omega)
theorem sumOf_empty : sumOf ByteArray.empty = 0 := rfl

end Go.Proofs.Ytagfnhgioljfnaa

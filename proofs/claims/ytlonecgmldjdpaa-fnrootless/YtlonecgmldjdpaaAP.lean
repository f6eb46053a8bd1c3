/- The sum of a text as plain data. Conditions: none. -/
import Derived.Test.YtlonecgmldjdpaaA0
namespace Go.Proofs.Ytlonecgmldjdpaa
open Go.RowKit Go.Shelf

/-- WHAT THE ITERATOR HANDS OUT: a place and its byte. -/
abbrev Oct := { x : Nat × Int // x.1 < 140737488355328 ∧ 0 ≤ x.2 ∧ x.2 ≤ 255 }
def octVals (x : Oct) : Array Value := #[.int .i64 (x.1.1 : Int), .int .u8 x.1.2]
def oct (s : ByteArray) (k : Nat) : Oct := if h : k < 140737488355328 then ⟨(k, byteAt s k), h, (byteAt_bd s k).1, (byteAt_bd s k).2⟩ else ⟨(0, 0), by omega, by omega, by omega⟩
theorem oct_1 (s : ByteArray) {k : Nat} (h : k < 140737488355328) : (oct s k).1 = (k, byteAt s k) := by unfold oct; rw [dif_pos h]
def octs (s : ByteArray) (k : Nat) : List Oct := (List.range k).map (oct s)
theorem octs_succ (s : ByteArray) (k : Nat) : octs s (k + 1) = octs s k ++ [oct s k] := by simp [octs, List.range_succ]
theorem octs_length (s : ByteArray) (k : Nat) : (octs s k).length = k := by simp [octs]

/-- WHAT HAS COME, summed. -/
def sumI (l : List Oct) : Int := (l.map fun x => x.1.2 * (65536 + (x.1.1 : Int) + 1)).sum
theorem sumI_snoc (l : List Oct) (x : Oct) : sumI (l ++ [x]) = sumI l + x.1.2 * (65536 + (x.1.1 : Int) + 1) := by simp [sumI]
theorem term_bd (x : Oct) : 0 ≤ x.1.2 * (65536 + (x.1.1 : Int) + 1) ∧ x.1.2 * (65536 + (x.1.1 : Int) + 1) ≤ 36028797018963968 := by
  obtain ⟨⟨k, c⟩, h1, h2, h3⟩ := x
  simp only at h1 h2 h3 ⊢
  have a : 0 ≤ (65536 + (k : Int) + 1) := by omega
  refine ⟨Int.mul_nonneg h2 a, ?_⟩
  calc c * (65536 + (k : Int) + 1) ≤ 255 * (65536 + (k : Int) + 1) := Int.mul_le_mul_of_nonneg_right h3 a
    _ ≤ 36028797018963968 := by omega
theorem sumI_bd (l : List Oct) : 0 ≤ sumI l ∧ sumI l ≤ l.length * 36028797018963968 := by
  induction l with
  | nil => simp [sumI]
  | cons x l ih =>
    have := term_bd x
    have e : sumI (x :: l) = x.1.2 * (65536 + (x.1.1 : Int) + 1) + sumI l := by simp [sumI]
    rw [e]
    simp only [List.length_cons]
    omega

/-- THE SUM OF A TEXT's FIRST k BYTES. -/
def sumTo (s : ByteArray) : Nat → Int
  | 0 => 0
  | k + 1 => sumTo s k + byteAt s k * (65536 + (k : Int) + 1)
theorem sumI_octs (s : ByteArray) (k : Nat) (h : k ≤ 140737488355328) : sumI (octs s k) = sumTo s k := by
  induction k with
  | zero => simp [octs, sumI, sumTo]
  | succ k ih => rw [octs_succ, sumI_snoc, ih (by omega), oct_1 s (by omega)]; rfl
theorem sumTo_bd (s : ByteArray) (k : Nat) (h : k ≤ 9) : 0 ≤ sumTo s k ∧ sumTo s k ≤ k * 36028797018963968 := by
  have := sumI_bd (octs s k)
  rw [octs_length, sumI_octs s k (by omega)] at this
  exact this
/-- **SumOf**, as the document has it: of the first nine bytes. -/
def sumOf (s : ByteArray) : Int := sumTo s (min s.size 9)

end Go.Proofs.Ytlonecgmldjdpaa

/- Plain facts on columns: how a text is split. Conditions: none. -/
import Derived.Test.YtphenphfficnaabM3
import Derived.Test.YtphenphfficnaabShelf
namespace Go.Proofs.Ytphenphfficnaab

/-- COLUMN i OF A TEXT: three bytes, noughts behind its end. -/
def colOf (s : ByteArray) (i : Nat) : ByteArray := strOfNums [byteAt s (3 * i), byteAt s (3 * i + 1), byteAt s (3 * i + 2)]
def colsTo (s : ByteArray) (k : Nat) : List ByteArray := (List.range k).map (colOf s)
/-- **ColsOf**, as the document has it. -/
def colsOf (s : ByteArray) : List ByteArray := if s.size ≤ 9 then colsTo s ((s.size + 2) / 3) else []
theorem colsTo_succ (s : ByteArray) (k : Nat) : colsTo s (k + 1) = colsTo s k ++ [colOf s k] := by simp [colsTo, List.range_succ]
theorem colsTo_length (s : ByteArray) (k : Nat) : (colsTo s k).length = k := by simp [colsTo]
theorem colOf_size (s : ByteArray) (i : Nat) : (colOf s i).size = 3 := by simp [colOf, strOfNums_size]
theorem colOf_byte (s : ByteArray) (i j : Nat) (hj : j < 3) : byteAt (colOf s i) j = byteAt s (3 * i + j) := by
  unfold colOf
  rw [byteAt_ofNums]
  · match j, hj with
    | 0, _ => rfl
    | 1, _ => rfl
    | 2, _ => rfl
  · intro n
    match n with
    | 0 => exact byteAt_bd _ _
    | 1 => exact byteAt_bd _ _
    | 2 => exact byteAt_bd _ _
    | n + 3 => simp [List.getD]

/-- Three noughts. -/
def nul3 : ByteArray := ⟨(Lib.repeatL [0] 3).toArray⟩
theorem nul3_size : nul3.size = 3 := rfl
theorem nul3_byte (i : Nat) : byteAt nul3 i = 0 := by
  match i with
  | 0 => rfl
  | 1 => rfl
  | 2 => rfl
  | i + 3 => exact byteAt_ge (by rw [nul3_size]; omega)

theorem byteAt_extract (s : ByteArray) (a b i : Nat) : byteAt (s.extract a b) i = if a + i < b then byteAt s (a + i) else 0 := by
  unfold byteAt
  rw [show (s.extract a b).data.toList = (s.data.toList.drop a).take (b - a) by simp [ByteArray.data_extract, List.extract_eq_take_drop]]
  rw [List.getElem?_take]
  by_cases h : i < b - a
  · rw [if_pos h, if_pos (by omega), List.getElem?_drop]
  · rw [if_neg h, if_neg (by omega)]
    rfl
theorem filled_eq (s : ByteArray) (k b : Nat) (hb : b = min (3 * k + 3) s.size) : xorS (s.extract (3 * k) b) nul3 = colOf s k := by
  have hsz : (s.extract (3 * k) b).size ≤ 3 := by simp [ByteArray.size_extract]; omega
  refine text_ext (by rw [xorS_size, colOf_size, nul3_size]; omega) fun i hi => ?_
  rw [xorS_size, nul3_size] at hi
  rw [xorS_byte, nul3_byte, xor8_nil (byteAt_bd _ i), colOf_byte s k i (by omega), byteAt_extract]
  by_cases h : 3 * k + i < b
  · rw [if_pos h]
  · rw [if_neg h, byteAt_ge (by omega)]

end Go.Proofs.Ytphenphfficnaab

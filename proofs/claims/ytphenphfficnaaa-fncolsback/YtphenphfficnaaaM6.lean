/- Plain facts: a text's columns are columns, and the text is read from them. Conditions: texts of one to nine bytes. -/
import Derived.Test.YtphenphfficnaaaM5
namespace Go.Proofs.Ytphenphfficnaaa

theorem colsOf_len (s : ByteArray) (h9 : s.size ≤ 9) : (colsOf s).length = (s.size + 2) / 3 := by unfold colsOf; rw [if_pos h9, colsTo_length]
theorem colsOf_get (s : ByteArray) (h9 : s.size ≤ 9) (j : Nat) (hj : j < (colsOf s).length) : (colsOf s).getD j ByteArray.empty = colOf s j := by
  rw [colsOf_len s h9] at hj
  unfold colsOf
  rw [if_pos h9]
  unfold colsTo
  rw [List.getD, List.getElem?_map, List.getElem?_range hj]
  rfl
theorem colsOf_ok (s : ByteArray) (h1 : 1 ≤ s.size) (h9 : s.size ≤ 9) : ColsOk (colsOf s) := by
  refine ⟨by rw [colsOf_len s h9]; omega, fun j hj => ?_⟩
  rw [colsOf_get s h9 j hj, colOf_size]
theorem cat_cols (s : ByteArray) (h1 : 1 ≤ s.size) (h9 : s.size ≤ 9) (i : Nat) : byteAt (cat (colsOf s)) i = byteAt s i := by
  have hok := colsOf_ok s h1 h9
  have hl := colsOf_len s h9
  by_cases h : i < 3 * (colsOf s).length
  · have hq : i / 3 < (colsOf s).length := by omega
    have := cat_byte hok (i / 3) (i % 3) hq (by omega)
    rw [colsOf_get s h9 _ hq, colOf_byte s _ _ (by omega), show 3 * (i / 3) + i % 3 = i by omega] at this
    exact this
  · rw [byteAt_ge (s := s) (by omega)]
    exact byteAt_ge (by rw [cat_size hok]; omega)
theorem text_back (s : ByteArray) (h1 : 1 ≤ s.size) (h9 : s.size ≤ 9) : TextOk (colsOf s) (s.size : Int) ∧ (cat (colsOf s)).extract 0 s.size = s := by
  have hok := colsOf_ok s h1 h9
  have hl := colsOf_len s h9
  refine ⟨⟨hok, by omega, fun i hi => ?_⟩, ?_⟩
  · rw [cat_cols s h1 h9]
    exact byteAt_ge (by simpa using hi)
  · refine text_ext (cut_size _ _ (by rw [cat_size hok]; omega)) fun i hi => ?_
    rw [cut_size _ _ (by rw [cat_size hok]; omega)] at hi
    rw [cut_byte, if_pos hi, cat_cols s h1 h9]

end Go.Proofs.Ytphenphfficnaaa

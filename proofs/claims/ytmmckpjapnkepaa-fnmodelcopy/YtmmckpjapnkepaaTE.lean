/- Texts that are equal or not. Conditions: none. -/
import Derived.WalkKit
import Derived.Test.YtmmckpjapnkepaaRows
namespace Go.Proofs.Ytmmckpjapnkepaa
open Go.RowKit

theorem text_yes {a b : ByteArray} (h : a = b) : (a.toList == b.toList) = true := by rw [h]; exact beq_self_eq_true _
theorem text_no {a b : ByteArray} (h : a ≠ b) : (a.toList == b.toList) = false := by
  rw [beq_eq_false_iff_ne]
  intro e
  rw [ByteArray.toList_eq, ByteArray.toList_eq] at e
  exact h (ByteArray.ext (Array.toList_inj.1 e))

end Go.Proofs.Ytmmckpjapnkepaa

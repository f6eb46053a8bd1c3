/- The exact laws' own helpers for texts: sizes and comparisons. Conditions: none but the row's own bound on sizes. -/
import Derived.Test.YtpdfbdplmljfiaaGT1
namespace Go.Proofs.Ytpdfbdplmljfiaa
open Go.RowKit Go.Sort

/-- LITTLE: so many at most, at every level. -/
def TxSmall (xs : List ByteArray) : Prop := xs.length ≤ 1048576 ∧ ∀ j, j < xs.length → (xs.getD j ByteArray.empty).size ≤ 1048576
def SzIf (P : Prop) (left : Nat) (w : World) (e : Ending) (w' : World) : Prop := (e = .returned (.int .i64 (-1)) ∨ ∃ r : Nat, e = .returned (.int .i64 (r : Int)) ∧ r ≤ left ∧ P) ∧ Below w.heap.size w w'

end Go.Proofs.Ytpdfbdplmljfiaa

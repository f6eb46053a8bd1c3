/- Lists with one element more. Conditions: none. -/
import Derived.Test.YtmmckpjapnkepaaGT
namespace Go.Proofs.Ytmmckpjapnkepaa
open Go.RowKit

/-- A write more at the end of a chain. -/
theorem getD_snoc_lt {α : Type} (l : List α) (x d : α) (j : Nat) (h : j < l.length) : (l ++ [x]).getD j d = l.getD j d := by
  rw [List.getD, List.getElem?_append_left h]; rfl
theorem getD_snoc_eq {α : Type} (l : List α) (x d : α) : (l ++ [x]).getD l.length d = x := by
  rw [List.getD, List.getElem?_append_right (Nat.le_refl _)]; simp
theorem get_snoc_eq {α : Type} (l : List α) (x : α) : (l ++ [x])[l.length]? = some x := by
  rw [List.getElem?_append_right (Nat.le_refl _)]; simp

end Go.Proofs.Ytmmckpjapnkepaa

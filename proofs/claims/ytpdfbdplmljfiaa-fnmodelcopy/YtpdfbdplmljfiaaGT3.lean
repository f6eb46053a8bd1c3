/- The exact laws' own helpers for texts: copies. Conditions: none but the row's own bound on sizes. -/
import Derived.Test.YtpdfbdplmljfiaaGT2
namespace Go.Proofs.Ytpdfbdplmljfiaa
open Go.RowKit Go.Sort

/-- WHAT HAS BEEN WRITTEN SO FAR: the first m cells of a list. -/
def DoneTo (zs : List Value) (m : Nat) (ys : List Value) : Prop := ys.length = zs.length ∧ ∀ i, i < m → ys[i]? = zs[i]?
theorem DoneTo.all {zs ys : List Value} {m : Nat} (h : DoneTo zs m ys) (hm : zs.length ≤ m) : ys = zs := by
  refine List.ext_getElem? fun i => ?_
  by_cases hi : i < m
  · exact h.2 i hi
  · rw [List.getElem?_eq_none (by have := h.1; omega), List.getElem?_eq_none (by omega)]
theorem DoneTo.next {zs ys : List Value} {m : Nat} {u : Value} (h : DoneTo zs m ys) (hu : zs[m]? = some u) : DoneTo zs (m + 1) (ys.set m u) := by
  have hm : m < zs.length := (List.getElem?_eq_some_iff.1 hu).1
  refine ⟨by rw [List.length_set]; exact h.1, fun i hi => ?_⟩
  by_cases e : i = m
  · subst e; rw [List.getElem?_set_self (by rw [h.1]; exact hm), hu]
  · rw [List.getElem?_set_ne (by omega)]; exact h.2 i (by omega)

theorem infoTx : (Try.prog.info? 9).map (fun i => (i.zero, i.size, i.bytes)) = some (some (.string ByteArray.empty), 1, 16) := by kernel_rfl
/-- Blocks that were there before. -/
theorem ownBlock_lt {w : World} {base K : Nat} {e : TypeId} {v : Value} {n : Nat} {xs : List Value} (h : w.ownsRow base e K v n xs) (i : Nat) (hi : v.ownBlock = some i) : base ≤ i ∧ i < w.heap.size := h.lt i hi

end Go.Proofs.Ytpdfbdplmljfiaa

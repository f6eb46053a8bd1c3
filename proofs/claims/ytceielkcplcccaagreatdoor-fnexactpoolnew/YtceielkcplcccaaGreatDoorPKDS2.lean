/- Lists of disks in new memory: of the exact laws, and of the program. Conditions: sizes of at most 2^20; the program's: the disks are ok. -/
import Derived.Test.YtceielkcplcccaaGreatDoorPKDS1
namespace Go.Proofs.YtceielkcplcccaaGreatDoor
open Go.RowKit Go.Sort

theorem set_same (ds : List DiskD) (k : Nat) (hlt : k < ds.length) : ds.set k (ds.getD k disk0) = ds := by
  refine List.ext_getElem? fun j => ?_
  rw [List.getElem?_set]
  by_cases e : k = j
  · subst e
    rw [if_pos rfl, if_pos hlt, List.getD, List.getElem?_eq_getElem hlt]
    rfl
  · rw [if_neg e]
/-- What a store of a disk finds in a row. -/
theorem own_cells5 {w : World} {base g n cap : Nat} {ys : List Value} (h : w.ownsRow base 37 5 (.slice (some ⟨g, 0, none⟩) n cap) n ys) (k : Nat) (hk : k < n) :
    ∃ y0 y1 y2 y3 y4, w.cell? ⟨g, k * 5, none⟩ = some y0 ∧ w.cell? ⟨g, k * 5 + 1, none⟩ = some y1 ∧ w.cell? ⟨g, k * 5 + 2, none⟩ = some y2 ∧ w.cell? ⟨g, k * 5 + 3, none⟩ = some y3 ∧ w.cell? ⟨g, k * 5 + 4, none⟩ = some y4 ∧
      w.frozen? ⟨g, k * 5, none⟩ = false ∧ w.frozen? ⟨g, k * 5 + 1, none⟩ = false ∧ w.frozen? ⟨g, k * 5 + 2, none⟩ = false ∧ w.frozen? ⟨g, k * 5 + 3, none⟩ = false ∧ w.frozen? ⟨g, k * 5 + 4, none⟩ = false := by
  have hl := h.1
  obtain ⟨x0, f0, _, _⟩ := own_cell h (k * 5) (by omega)
  obtain ⟨x1, f1, _, _⟩ := own_cell h (k * 5 + 1) (by omega)
  obtain ⟨x2, f2, _, _⟩ := own_cell h (k * 5 + 2) (by omega)
  obtain ⟨x3, f3, _, _⟩ := own_cell h (k * 5 + 3) (by omega)
  obtain ⟨x4, f4, _, _⟩ := own_cell h (k * 5 + 4) (by omega)
  rw [List.getElem?_eq_getElem (by omega)] at x0 x1 x2 x3 x4
  exact ⟨_, _, _, _, _, x0, x1, x2, x3, x4, f0, f1, f2, f3, f4⟩

end Go.Proofs.YtceielkcplcccaaGreatDoor

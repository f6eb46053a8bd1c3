/- The exact laws' own helpers for pointers: copies and comparisons. Conditions: none but the row's own bound on sizes. -/
import Derived.Test.YtlonecgmldjdpaaDoorS5
namespace Go.Proofs.YtlonecgmldjdpaaDoor
open Go.RowKit Go.Sort

/-- PLACES OF ONE's OWN. -/
def OwnPl (w : World) (base : Nat) (v : Value) (ps : List PlD) : Prop := w.ownsRow base 74 2 v ps.length (plCells ps)
theorem OwnPl.below {w w' : World} {base : Nat} {v : Value} {ps : List PlD} (h : OwnPl w base v ps) (hB : Below w.heap.size w w') : OwnPl w' base v ps := own_below h hB
theorem OwnPl.reads {w : World} {base : Nat} {v : Value} {ps : List PlD} (h : OwnPl w base v ps) : PlacesV w v ps := by
  have h' := h
  rcases h.2 with ⟨rfl, hk⟩ | ⟨g, cap, cur, rfl, hb, hg, hkc, hcm, hcs, hx⟩
  · have : ps = [] := List.eq_nil_of_length_eq_zero hk
    subst this
    exact ⟨none, 0, rfl, Nat.le_refl _, by simp [maxLen], .inl rfl⟩
  · refine ⟨some ⟨g, 0, none⟩, cap, rfl, hkc, hcm, .inr ⟨g, 0, rfl, fun j hj => ?_⟩⟩
    have e0 := (own_cell h' (j * 2) (by omega)).1
    have e1 := (own_cell h' (j * 2 + 1) (by omega)).1
    rw [plCells_get ps _ (by omega), plCell_0] at e0
    rw [plCells_get ps _ (by omega), plCell_1] at e1
    exact ⟨by rw [Nat.zero_add]; exact e0, by rw [Nat.zero_add]; exact e1⟩

theorem own_far {w : World} {base K : Nat} {e : TypeId} {v : Value} {n : Nat} {xs : List Value} (h : w.ownsRow base e K v n xs) (p o : Nat) (u : Value) (hp : p < base) : (w.setCell ⟨p, o, none⟩ u).ownsRow base e K v n xs :=
  h.kept (row := some p) ⟨rfl, rfl, rfl, by rw [World.size_setCell]; exact Nat.le_refl _, fun k _ hne => Below.heap_setCell _ _ _ _ (fun e => hne (by rw [e]))⟩ (.inr (fun e => by have := (h.lt p e).1; omega))
theorem own_mono {w : World} {base base' K : Nat} {e : TypeId} {v : Value} {n : Nat} {xs : List Value} (h : w.ownsRow base e K v n xs) (hb : base' ≤ base) : w.ownsRow base' e K v n xs := by
  refine ⟨h.1, ?_⟩
  rcases h.2 with h | ⟨g, cap, cur, hv, hg, hr⟩
  · exact .inl h
  · exact .inr ⟨g, cap, cur, hv, Nat.le_trans hb hg, hr⟩
theorem bcell {W w1 : World} (hb : Below W.heap.size W w1) : (∀ b o, b < W.heap.size → w1.cell? ⟨b, o, none⟩ = W.cell? ⟨b, o, none⟩) ∧ (∀ b o, b < W.heap.size → w1.frozen? ⟨b, o, none⟩ = W.frozen? ⟨b, o, none⟩) :=
  ⟨fun b o h => hb.cell (p := ⟨b, o, none⟩) h, fun b o h => hb.frozen (p := ⟨b, o, none⟩) h⟩

end Go.Proofs.YtlonecgmldjdpaaDoor

/- The exact laws' own helpers for places and pointers: sizes, copies, comparisons. Conditions: none but the row's own bound on sizes. -/
import Derived.Test.YtlonecgmldjdpaaDoorS4
import Derived.OwnWalk
import Derived.Maps.Range
namespace Go.Proofs.YtlonecgmldjdpaaDoor
open Go.RowKit Go.Sort

/-- HOW MUCH IS LEFT behind so many. -/
def Left (n left : Nat) (w : World) (e : Ending) (w' : World) : Prop := (e = .returned (.int .i64 (-1)) ∨ ∃ r : Nat, e = .returned (.int .i64 (r : Int)) ∧ n + r ≤ left) ∧ Below w.heap.size w w'

/-- THE CELLS OF PLACES. -/
def plCell (ps : List PlD) (i : Nat) : Value := if i % 2 = 0 then .int .i64 (ps.getD (i / 2) pl0).1 else .int .i64 (ps.getD (i / 2) pl0).2
def plCells (ps : List PlD) : List Value := (List.range (ps.length * 2)).map (plCell ps)

theorem plCells_length (ps : List PlD) : (plCells ps).length = ps.length * 2 := by simp [plCells]
theorem plCells_get (ps : List PlD) (i : Nat) (h : i < ps.length * 2) : (plCells ps)[i]? = some (plCell ps i) := by
  rw [plCells, List.getElem?_map, List.getElem?_range h]; rfl
theorem plCell_0 (ps : List PlD) (j : Nat) : plCell ps (j * 2) = .int .i64 (ps.getD j pl0).1 := by
  unfold plCell; rw [if_pos (by omega), show j * 2 / 2 = j by omega]
theorem plCell_1 (ps : List PlD) (j : Nat) : plCell ps (j * 2 + 1) = .int .i64 (ps.getD j pl0).2 := by
  unfold plCell; rw [if_neg (by omega), show (j * 2 + 1) / 2 = j by omega]

/-- A cell of a row of one's own, and a store into it. -/
theorem own_cell {w : World} {base K : Nat} {e : TypeId} {g n cap : Nat} {xs : List Value} (h : w.ownsRow base e K (.slice (some ⟨g, 0, none⟩) n cap) n xs) (i : Nat) (hi : i < n * K) :
    w.cell? ⟨g, i, none⟩ = xs[i]? ∧ w.frozen? ⟨g, i, none⟩ = false ∧ base ≤ g ∧ xs.length = n * K := by
  rcases h.2 with ⟨hv, _⟩ | ⟨g', cap', cur, hv, hb, hg, hkc, hcm, hcs, hx⟩
  · cases hv
  · cases hv
    have e : (cur.toList.take (n * K))[i]? = xs[i]? := by rw [hx]
    rw [List.getElem?_take, if_pos hi, Array.getElem?_toList] at e
    refine ⟨?_, ?_, hb, h.1⟩
    · simp only [World.cell?, hg]
      exact e
    · simp [World.frozen?, hg]
theorem own_set {w : World} {base K : Nat} {e : TypeId} {g n cap : Nat} {xs : List Value} (h : w.ownsRow base e K (.slice (some ⟨g, 0, none⟩) n cap) n xs) (i : Nat) (u : Value) :
    (w.setCell ⟨g, i, none⟩ u).ownsRow base e K (.slice (some ⟨g, 0, none⟩) n cap) n (xs.set i u) := by
  rcases h.2 with ⟨hv, _⟩ | ⟨g', cap', cur, hv, hb, hg, hkc, hcm, hcs, hx⟩
  · cases hv
  · cases hv
    refine ⟨by rw [List.length_set]; exact h.1, .inr ⟨g, cap, cur.setIfInBounds i u, rfl, hb, ?_, hkc, hcm, by simp; omega, ?_⟩⟩
    · obtain ⟨hlt, hh⟩ := Array.getElem?_eq_some_iff.1 hg
      show (w.heap.modify g _)[g]? = _
      rw [Array.getElem?_eq_getElem (by rw [Array.size_modify]; exact hlt), Array.getElem_modify_self, hh]
      rfl
    · rw [Array.toList_setIfInBounds, List.take_set, hx]
theorem own_below {w w' : World} {base : Nat} {e : TypeId} {size : Nat} {v : Value} {n : Nat} {xs : List Value} (h : w.ownsRow base e size v n xs) (hB : Below w.heap.size w w') : w'.ownsRow base e size v n xs :=
  h.kept (row := none) ⟨hB.os, hB.tape, hB.output, hB.size, fun k hk _ => hB.block k hk⟩ (by cases v.ownBlock <;> simp)

/-- WHAT HAS BEEN WRITTEN SO FAR: the first m cells of a list. -/
def Done (zs : List Value) (m : Nat) (ys : List Value) : Prop := ys.length = zs.length ∧ ∀ i, i < m → ys[i]? = zs[i]?
theorem Done.all {zs ys : List Value} {m : Nat} (h : Done zs m ys) (hm : zs.length ≤ m) : ys = zs := by
  refine List.ext_getElem? fun i => ?_
  by_cases hi : i < m
  · exact h.2 i hi
  · rw [List.getElem?_eq_none (by have := h.1; omega), List.getElem?_eq_none (by omega)]
theorem Done.next {zs ys : List Value} {m : Nat} {u : Value} (h : Done zs m ys) (hu : zs[m]? = some u) : Done zs (m + 1) (ys.set m u) := by
  have hm : m < zs.length := (List.getElem?_eq_some_iff.1 hu).1
  refine ⟨by rw [List.length_set]; exact h.1, fun i hi => ?_⟩
  by_cases e : i = m
  · subst e; rw [List.getElem?_set_self (by rw [h.1]; exact hm), hu]
  · rw [List.getElem?_set_ne (by omega)]; exact h.2 i (by omega)

theorem infoPl : (Tryd.prog.info? 74).map (fun i => (i.zero, i.size, i.bytes)) = some (some (.agg #[.int .i64 0, .int .i64 0]), 2, 16) := by kernel_rfl

end Go.Proofs.YtlonecgmldjdpaaDoor

/- Marks: what a function that writes only marks leaves as it was. Conditions: none. -/
import Derived.Test.YtmmckpjapnkepaaR0
import Derived.OwnWalk
import Derived.Maps.Range
import Derived.Lib.QuietBelow
namespace Go.Proofs.Ytmmckpjapnkepaa
open Go.RowKit Go.Sort

/-- Whether a cell holds a slice. -/
def isSl : Value → Bool | .slice _ _ _ => true | _ => false
/-- ONLY MARKS WERE WRITTEN, in blocks from lo to hi: no cell that holds a slice has turned. -/
structure Mk (lo hi : Nat) (w w' : World) : Prop where
  low : Below lo w w'
  high : ∀ k, hi ≤ k → k < w.heap.size → w'.heap[k]? = w.heap[k]?
  cell : ∀ b o v, w.cell? ⟨b, o, none⟩ = some v → ∃ v', w'.cell? ⟨b, o, none⟩ = some v' ∧ isSl v' = isSl v ∧ (isSl v = true → v' = v)
  fr : ∀ b o, b < w.heap.size → w'.frozen? ⟨b, o, none⟩ = w.frozen? ⟨b, o, none⟩
theorem Mk.refl (lo hi : Nat) (w : World) : Mk lo hi w w := ⟨Below.refl _ _, fun _ _ _ => rfl, fun _ _ v h => ⟨v, h, rfl, fun _ => rfl⟩, fun _ _ _ => rfl⟩
theorem Mk.trans {lo hi : Nat} {a b c : World} (h : Mk lo hi a b) (k : Mk lo hi b c) : Mk lo hi a c := by
  refine ⟨h.low.trans k.low, fun i h1 h2 => (k.high i h1 (by have := h.low.size; omega)).trans (h.high i h1 h2), fun i o v hv => ?_, fun i o hi' => (k.fr i o (by have := h.low.size; omega)).trans (h.fr i o hi')⟩
  obtain ⟨v1, c1, s1, e1⟩ := h.cell i o v hv
  obtain ⟨v2, c2, s2, e2⟩ := k.cell i o v1 c1
  exact ⟨v2, c2, s2.trans s1, fun hs => (e2 (s1.trans hs)).trans (e1 hs)⟩
theorem Mk.below {lo hi : Nat} {a b c : World} (h : Mk lo hi a b) (hB : Below b.heap.size b c) (hlo : lo ≤ a.heap.size) : Mk lo hi a c :=
  h.trans ⟨hB.mono (by have := h.low.size; omega), fun i _ h2 => hB.block i h2, fun i o v hv => ⟨v, cell_below hB hv, rfl, fun _ => rfl⟩, fun i o hi' => hB.frozen (p := ⟨i, o, none⟩) hi'⟩
theorem Mk.set {lo hi : Nat} {a w : World} (h : Mk lo hi a w) {b o : Nat} {v u : Value} (hv : w.cell? ⟨b, o, none⟩ = some v) (h1 : isSl v = false) (h2 : isSl u = false) (hb : lo ≤ b) (hb' : b < hi) : Mk lo hi a (w.setCell ⟨b, o, none⟩ u) := by
  refine h.trans ⟨(Below.refl _ _).setCell (p := ⟨b, o, none⟩) hb _, fun k hk _ => Below.heap_setCell _ _ _ _ (by show k ≠ b; omega), fun b' o' v' hv' => ?_, fun b' o' _ => World.frozen?_setCell _ _ _ _⟩
  by_cases e : (⟨b, o, none⟩ : Addr) = ⟨b', o', none⟩
  · rw [← e] at hv' ⊢
    rw [hv] at hv'
    injection hv' with hv'
    subst hv'
    exact ⟨u, World.cell?_setCell_same _ _ _ hv, h2.trans h1.symm, fun hs => by rw [h1] at hs; cases hs⟩
  · exact ⟨v', (World.cell?_setCell_other _ _ _ _ e).trans hv', rfl, fun _ => rfl⟩
theorem Mk.sl {lo hi : Nat} {w w' : World} (h : Mk lo hi w w') {b o : Nat} {a : Option Addr} {n c : Nat} (hv : w.cell? ⟨b, o, none⟩ = some (.slice a n c)) : w'.cell? ⟨b, o, none⟩ = some (.slice a n c) := by
  obtain ⟨v', c1, _, e⟩ := h.cell b o _ hv
  rw [e rfl] at c1
  exact c1

/-- A CELL THAT MAY BE MARKED. -/
def Fit (w : World) (b o : Nat) : Prop := ∃ v, w.cell? ⟨b, o, none⟩ = some v ∧ isSl v = false ∧ w.frozen? ⟨b, o, none⟩ = false
theorem Fit.mk {lo hi : Nat} {w w' : World} {b o : Nat} (h : Fit w b o) (m : Mk lo hi w w') : Fit w' b o := by
  obtain ⟨v, h1, h2, h3⟩ := h
  obtain ⟨v', c1, s1, _⟩ := m.cell b o v h1
  exact ⟨v', c1, s1.trans h2, (m.fr b o (World.block_lt_of_cell? w _ h1)).trans h3⟩
/-- A shape lasts while what is there stays. -/
theorem Mk.of_below {lo hi : Nat} {w w' : World} (hB : Below w.heap.size w w') (hlo : lo ≤ w.heap.size) : Mk lo hi w w' := (Mk.refl lo hi w).below hB hlo

end Go.Proofs.Ytmmckpjapnkepaa

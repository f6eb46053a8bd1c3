/- Texts in a row, how they lie in memory, rows of one's own, blocks known whole. Conditions: none. -/
import Derived.Test.YtmmckpjapnkepaaOC
import Derived.Test.YtmmckpjapnkepaaR0
import Derived.OwnWalk
import Derived.Maps.Range
import Derived.Lib.QuietBelow
import Derived.Deep.QuietTactic
import Derived.BigQuiet
import Derived.IntWalk
import Derived.Deep.AppendLies
import Derived.SliceStrings
import Derived.Deep.RegionHeld3
namespace Go.Proofs.Ytmmckpjapnkepaa
open Go.RowKit Go.Sort

/-- TEXTS, TRUTH VALUES, WRITES THAT LIE BEHIND AN ADDRESS. -/
def TxAt (w : World) (a : Option Addr) (xs : List ByteArray) : Prop :=
  xs = [] ∨ ∃ b off, a = some ⟨b, off, none⟩ ∧ ∀ j, j < xs.length → w.cell? ⟨b, off + j, none⟩ = some (.string (xs.getD j ByteArray.empty))
theorem TxAt.below {w w' : World} {a : Option Addr} {xs : List ByteArray} (h : TxAt w a xs) (hB : Below w.heap.size w w') : TxAt w' a xs := by
  rcases h with h | ⟨b, off, e, hc⟩
  · exact .inl h
  · exact .inr ⟨b, off, e, fun j hj => cell_below hB (hc j hj)⟩
def TxV (w : World) (v : Value) (xs : List ByteArray) : Prop := ∃ a cap, v = .slice a xs.length cap ∧ xs.length ≤ cap ∧ cap ≤ maxLen ∧ TxAt w a xs
theorem TxV.below {w w' : World} {v : Value} {xs : List ByteArray} (h : TxV w v xs) (hB : Below w.heap.size w w') : TxV w' v xs := by
  obtain ⟨a, cap, e, h1, h2, h3⟩ := h; exact ⟨a, cap, e, h1, h2, h3.below hB⟩
/-- THE CELLS of texts, truth values, writes. -/
def txC (xs : List ByteArray) : List Value := xs.map Value.string
theorem txC_get (xs : List ByteArray) (j : Nat) (h : j < xs.length) : (txC xs)[j]? = some (.string (xs.getD j ByteArray.empty)) := by
  rw [txC, List.getElem?_map, List.getD, List.getElem?_eq_getElem h]; rfl
theorem txC_length (xs : List ByteArray) : (txC xs).length = xs.length := by simp [txC]
/-- Rows of two types lie in two blocks. -/
theorem own_apart {w : World} {b1 b2 K1 K2 : Nat} {e1 e2 : TypeId} {v1 v2 : Value} {n1 n2 : Nat} {xs1 xs2 : List Value} (h1 : w.ownsRow b1 e1 K1 v1 n1 xs1) (h2 : w.ownsRow b2 e2 K2 v2 n2 xs2) (he : e1 ≠ e2) (p : Nat) (hp : v1.ownBlock = some p) : v2.ownBlock ≠ some p := by
  intro hq
  rcases h1.2 with ⟨rfl, _⟩ | ⟨g1, cap1, cur1, rfl, _, hg1, _⟩
  · cases hp
  · rcases h2.2 with ⟨rfl, _⟩ | ⟨g2, cap2, cur2, rfl, _, hg2, _⟩
    · cases hq
    · simp only [Value.ownBlock, Option.some.injEq] at hp hq
      rw [hp] at hg1
      rw [hq, hg1] at hg2
      injection hg2 with hg2
      injection hg2 with _ hg2
      exact he hg2

/-- TEXTS, TRUTH VALUES, WRITES OF ONE's OWN. -/
def OwnTx (w : World) (base : Nat) (v : Value) (xs : List ByteArray) : Prop := w.ownsRow base 9 1 v xs.length (txC xs)
theorem OwnTx.reads {w : World} {base : Nat} {v : Value} {xs : List ByteArray} (h : OwnTx w base v xs) : TxV w v xs := by
  have h' := h
  rcases h.2 with ⟨rfl, hk⟩ | ⟨g, cap, cur, rfl, hb, hg, hkc, hcm, hcs, hx⟩
  · have : xs = [] := List.eq_nil_of_length_eq_zero hk
    subst this
    exact ⟨none, 0, rfl, Nat.le_refl _, by simp [maxLen], .inl rfl⟩
  · refine ⟨some ⟨g, 0, none⟩, cap, rfl, hkc, hcm, .inr ⟨g, 0, rfl, fun j hj => ?_⟩⟩
    have e0 := (own_cell h' j (by omega)).1
    rw [txC_get xs j hj] at e0
    rw [Nat.zero_add]; exact e0
theorem box0 (w : World) (cs : Array Value) (t : TypeId) (j : Nat) : (w.alloc (.cells cs t)).cell? ⟨w.heap.size, j, none⟩ = cs[j]? := World.cell?_alloc_mark w cs t (0, 0) j
theorem box_old (w : World) (o : Obj) (b j : Nat) (h : b < w.heap.size) : (w.alloc o).cell? ⟨b, j, none⟩ = w.cell? ⟨b, j, none⟩ := (bcell ((Below.refl _ w).alloc (Nat.le_refl _) o)).1 b j h
theorem box1 (w : World) (o : Obj) (cs : Array Value) (t : TypeId) (j : Nat) : ((w.alloc (.cells cs t)).alloc o).cell? ⟨w.heap.size, j, none⟩ = cs[j]? := (box_old _ _ _ _ (by simp)).trans (box0 w cs t j)
theorem box2 (w : World) (o : Obj) (cs : Array Value) (t : TypeId) (j : Nat) : ((w.alloc o).alloc (.cells cs t)).cell? ⟨w.heap.size + 1, j, none⟩ = cs[j]? := by
  have := box0 (w.alloc o) cs t j
  rw [World.size_alloc] at this
  exact this
/-- A BLOCK that is known whole. -/
def Blk (w : World) (D : Nat) (cs : Array Value) (t : TypeId) : Prop := w.heap[D]? = some (.cells cs t (0, 0))
theorem Blk.cell {w : World} {D : Nat} {cs : Array Value} {t : TypeId} (h : Blk w D cs t) (j : Nat) : w.cell? ⟨D, j, none⟩ = cs[j]? := by unfold Blk at h; simp only [World.cell?, h]; rfl
theorem Blk.frozen {w : World} {D : Nat} {cs : Array Value} {t : TypeId} (h : Blk w D cs t) (j : Nat) : w.frozen? ⟨D, j, none⟩ = false := by unfold Blk at h; simp [World.frozen?, h]
theorem Blk.lt {w : World} {D : Nat} {cs : Array Value} {t : TypeId} (h : Blk w D cs t) : D < w.heap.size := (Array.getElem?_eq_some_iff.1 h).1
theorem Blk.below {w w' : World} {n D : Nat} {cs : Array Value} {t : TypeId} (h : Blk w D cs t) (hB : Below n w w') (hn : D < n) : Blk w' D cs t := (hB.block D hn).trans h
theorem Blk.new (w : World) (cs : Array Value) (t : TypeId) : Blk (w.alloc (.cells cs t)) w.heap.size cs t := heap_alloc_new w _
theorem Blk.set {w : World} {D : Nat} {cs : Array Value} {t : TypeId} (h : Blk w D cs t) (j : Nat) (u : Value) : Blk (w.setCell ⟨D, j, none⟩ u) D (cs.setIfInBounds j u) t := by
  obtain ⟨hlt, hh⟩ := Array.getElem?_eq_some_iff.1 h
  show (w.heap.modify D _)[D]? = _
  rw [Array.getElem?_eq_getElem (by rw [Array.size_modify]; exact hlt), Array.getElem_modify_self, hh]
  rfl
theorem Blk.other {w : World} {D : Nat} {cs : Array Value} {t : TypeId} (h : Blk w D cs t) (E j : Nat) (u : Value) (hne : E ≠ D) : Blk (w.setCell ⟨E, j, none⟩ u) D cs t :=
  (Below.heap_setCell _ _ _ _ (fun e => hne e.symm)).trans h
theorem Blk.type {w : World} {D : Nat} {cs cs' : Array Value} {t t' : TypeId} (h : Blk w D cs t) (h' : Blk w D cs' t') : t = t' := by
  unfold Blk at h h'
  rw [h] at h'
  injection h' with h'
  injection h' with _ h'
theorem below_trans {n : Nat} {w w1 w2 : World} (h : Below n w w1) (k : Below w1.heap.size w1 w2) (hn : n ≤ w1.heap.size) : Below n w w2 := h.trans (k.mono hn)

end Go.Proofs.Ytmmckpjapnkepaa

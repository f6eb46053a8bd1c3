/- Marks: what a function that writes only marks leaves as it was. Conditions: none. Rows of one's own and worlds that have grown: what several texts share. Conditions: none. Texts in a row, how they lie in memory, rows of one's own, blocks known whole. Conditions: none. -/
import Derived.Test.YtceielkcplcccaaGreatDoorPKK
import Derived.OwnWalk
import Derived.Maps.Range
import Derived.Lib.QuietBelow
import Derived.WalkKit
import Derived.Lib.Hide
import Derived.Deep.AppendLies
import Derived.Laws.BytesArg
import Derived.BigQuiet
import Derived.Deep.QuietTactic
import Derived.Test.YtceielkcplcccaaGreatDoorRows
import Derived.IntWalk
import Derived.SliceStrings
import Derived.Deep.RegionHeld3
namespace Go.Proofs.YtceielkcplcccaaGreatDoor
open Go.RowKit Go.Sort

/-- Whether a cell holds a slice. -/
def isSl : Value → Bool | .slice _ _ _ => true | _ => false
/-- ONLY MARKS WERE WRITTEN, in blocks from lo to hi: no cell that holds a slice has turned. -/
structure Mk (lo hi : Nat) (w w' : World) : Prop where
  low : Below lo w w'
  high : ∀ k, hi ≤ k → k < w.heap.size → w'.heap[k]? = w.heap[k]?
  cell : ∀ b o v, w.cell? ⟨b, o, none⟩ = some v → ∃ v', w'.cell? ⟨b, o, none⟩ = some v' ∧ isSl v' = isSl v ∧ (isSl v = true → v' = v)
  fr : ∀ b o, b < w.heap.size → w'.frozen? ⟨b, o, none⟩ = w.frozen? ⟨b, o, none⟩
theorem Mk.refl (lo hi : Nat) (w : World) : Mk lo hi w w := ⟨Below.refl _ _, fun _ _ _ => rfl, fun _ _ v h => ⟨v, h, rfl, fun _ => rfl⟩, fun _ _ _ => rfl⟩
theorem Mk.trans {lo hi : Nat} {a b c : World} (h : Mk lo hi a b) (k : Mk lo hi b c) : Mk lo hi a c := by
  refine ⟨h.low.trans k.low, fun i h1 h2 => (k.high i h1 (by have := h.low.size; omega)).trans (h.high i h1 h2), fun i o v hv => ?_, fun i o hi' => (k.fr i o (by have := h.low.size; omega)).trans (h.fr i o hi')⟩
  obtain ⟨v1, c1, s1, e1⟩ := h.cell i o v hv
  obtain ⟨v2, c2, s2, e2⟩ := k.cell i o v1 c1
  exact ⟨v2, c2, s2.trans s1, fun hs => (e2 (s1.trans hs)).trans (e1 hs)⟩
theorem Mk.below {lo hi : Nat} {a b c : World} (h : Mk lo hi a b) (hB : Below b.heap.size b c) (hlo : lo ≤ a.heap.size) : Mk lo hi a c :=
  h.trans ⟨hB.mono (by have := h.low.size; omega), fun i _ h2 => hB.block i h2, fun i o v hv => ⟨v, cell_below hB hv, rfl, fun _ => rfl⟩, fun i o hi' => hB.frozen (p := ⟨i, o, none⟩) hi'⟩
theorem Mk.set {lo hi : Nat} {a w : World} (h : Mk lo hi a w) {b o : Nat} {v u : Value} (hv : w.cell? ⟨b, o, none⟩ = some v) (h1 : isSl v = false) (h2 : isSl u = false) (hb : lo ≤ b) (hb' : b < hi) : Mk lo hi a (w.setCell ⟨b, o, none⟩ u) := by
  refine h.trans ⟨(Below.refl _ _).setCell (p := ⟨b, o, none⟩) hb _, fun k hk _ => Below.heap_setCell _ _ _ _ (by show k ≠ b; omega), fun b' o' v' hv' => ?_, fun b' o' _ => World.frozen?_setCell _ _ _ _⟩
  by_cases e : (⟨b, o, none⟩ : Addr) = ⟨b', o', none⟩
  · rw [← e] at hv' ⊢
    rw [hv] at hv'
    injection hv' with hv'
    subst hv'
    exact ⟨u, World.cell?_setCell_same _ _ _ hv, h2.trans h1.symm, fun hs => by rw [h1] at hs; cases hs⟩
  · exact ⟨v', (World.cell?_setCell_other _ _ _ _ e).trans hv', rfl, fun _ => rfl⟩
theorem Mk.sl {lo hi : Nat} {w w' : World} (h : Mk lo hi w w') {b o : Nat} {a : Option Addr} {n c : Nat} (hv : w.cell? ⟨b, o, none⟩ = some (.slice a n c)) : w'.cell? ⟨b, o, none⟩ = some (.slice a n c) := by
  obtain ⟨v', c1, _, e⟩ := h.cell b o _ hv
  rw [e rfl] at c1
  exact c1

/-- A CELL THAT MAY BE MARKED. -/
def Fit (w : World) (b o : Nat) : Prop := ∃ v, w.cell? ⟨b, o, none⟩ = some v ∧ isSl v = false ∧ w.frozen? ⟨b, o, none⟩ = false
theorem Fit.mk {lo hi : Nat} {w w' : World} {b o : Nat} (h : Fit w b o) (m : Mk lo hi w w') : Fit w' b o := by
  obtain ⟨v, h1, h2, h3⟩ := h
  obtain ⟨v', c1, s1, _⟩ := m.cell b o v h1
  exact ⟨v', c1, s1.trans h2, (m.fr b o (World.block_lt_of_cell? w _ h1)).trans h3⟩
/-- A shape lasts while what is there stays. -/
theorem Mk.of_below {lo hi : Nat} {w w' : World} (hB : Below w.heap.size w w') (hlo : lo ≤ w.heap.size) : Mk lo hi w w' := (Mk.refl lo hi w).below hB hlo

end Go.Proofs.YtceielkcplcccaaGreatDoor

namespace Go.Proofs.YtceielkcplcccaaGreatDoor
open Go.RowKit Go.Sort

/-- A cell of a row of one's own, and a store into it. -/
theorem own_cell {w : World} {base K : Nat} {e : TypeId} {g n cap : Nat} {xs : List Value} (h : w.ownsRow base e K (.slice (some ⟨g, 0, none⟩) n cap) n xs) (i : Nat) (hi : i < n * K) :
    w.cell? ⟨g, i, none⟩ = xs[i]? ∧ w.frozen? ⟨g, i, none⟩ = false ∧ base ≤ g ∧ xs.length = n * K := by
  rcases h.2 with ⟨hv, _⟩ | ⟨g', cap', cur, hv, hb, hg, hkc, hcm, hcs, hx⟩
  · cases hv
  · cases hv
    have e : (cur.toList.take (n * K))[i]? = xs[i]? := by rw [hx]
    rw [List.getElem?_take, if_pos hi, Array.getElem?_toList] at e
    refine ⟨?_, ?_, hb, h.1⟩
    · simp only [World.cell?, hg]
      exact e
    · simp [World.frozen?, hg]
theorem own_set {w : World} {base K : Nat} {e : TypeId} {g n cap : Nat} {xs : List Value} (h : w.ownsRow base e K (.slice (some ⟨g, 0, none⟩) n cap) n xs) (i : Nat) (u : Value) :
    (w.setCell ⟨g, i, none⟩ u).ownsRow base e K (.slice (some ⟨g, 0, none⟩) n cap) n (xs.set i u) := by
  rcases h.2 with ⟨hv, _⟩ | ⟨g', cap', cur, hv, hb, hg, hkc, hcm, hcs, hx⟩
  · cases hv
  · cases hv
    refine ⟨by rw [List.length_set]; exact h.1, .inr ⟨g, cap, cur.setIfInBounds i u, rfl, hb, ?_, hkc, hcm, by simp; omega, ?_⟩⟩
    · obtain ⟨hlt, hh⟩ := Array.getElem?_eq_some_iff.1 hg
      show (w.heap.modify g _)[g]? = _
      rw [Array.getElem?_eq_getElem (by rw [Array.size_modify]; exact hlt), Array.getElem_modify_self, hh]
      rfl
    · rw [Array.toList_setIfInBounds, List.take_set, hx]
theorem own_below {w w' : World} {base : Nat} {e : TypeId} {size : Nat} {v : Value} {n : Nat} {xs : List Value} (h : w.ownsRow base e size v n xs) (hB : Below w.heap.size w w') : w'.ownsRow base e size v n xs :=
  h.kept (row := none) ⟨hB.os, hB.tape, hB.output, hB.size, fun k hk _ => hB.block k hk⟩ (by cases v.ownBlock <;> simp)
theorem own_mono {w : World} {base base' K : Nat} {e : TypeId} {v : Value} {n : Nat} {xs : List Value} (h : w.ownsRow base e K v n xs) (hb : base' ≤ base) : w.ownsRow base' e K v n xs := by
  refine ⟨h.1, ?_⟩
  rcases h.2 with h | ⟨g, cap, cur, hv, hg, hr⟩
  · exact .inl h
  · exact .inr ⟨g, cap, cur, hv, Nat.le_trans hb hg, hr⟩
/-- A store into another block. -/
theorem own_other {w : World} {base K : Nat} {e : TypeId} {v : Value} {n : Nat} {xs : List Value} (h : w.ownsRow base e K v n xs) (p o : Nat) (u : Value) (hp : v.ownBlock ≠ some p) : (w.setCell ⟨p, o, none⟩ u).ownsRow base e K v n xs :=
  h.kept (row := some p) ⟨rfl, rfl, rfl, by rw [World.size_setCell]; exact Nat.le_refl _, fun k _ hne => Below.heap_setCell _ _ _ _ (fun e => hne (by rw [e]))⟩ (.inr hp)
theorem own_far {w : World} {base K : Nat} {e : TypeId} {v : Value} {n : Nat} {xs : List Value} (h : w.ownsRow base e K v n xs) (p o : Nat) (u : Value) (hp : p < base) : (w.setCell ⟨p, o, none⟩ u).ownsRow base e K v n xs :=
  own_other h p o u (fun e => by have := (h.lt p e).1; omega)
theorem bcell {W w1 : World} (hb : Below W.heap.size W w1) : (∀ b o, b < W.heap.size → w1.cell? ⟨b, o, none⟩ = W.cell? ⟨b, o, none⟩) ∧ (∀ b o, b < W.heap.size → w1.frozen? ⟨b, o, none⟩ = W.frozen? ⟨b, o, none⟩) :=
  ⟨fun b o h => hb.cell (p := ⟨b, o, none⟩) h, fun b o h => hb.frozen (p := ⟨b, o, none⟩) h⟩
theorem belowN {n : Nat} {w w' : World} (h : Below n w w') (d : Nat) : Below n w (w'.drewN d) := ⟨h.os, h.tape, h.output, h.size, h.block⟩
theorem rg_same {P : Program} {f : FuncId} {args : Array Value} {w : World} {d : Nat} {os : Array Obj} {v : Value}
    (h : Calls P f args (grow (redrawn w d) os) fun e w' => e = .returned v ∧ grow (redrawn w d) os = w') : Calls P f args (grow (redrawn w d) os) fun e w'' => e = .returned v ∧ ∃ p : Regrown, w'' = grow (redrawn w p.d) p.os :=
  Calls.regrown_of (h.mono fun _ _ ⟨he, hw⟩ => ⟨he, hw ▸ Below.refl _ _⟩)
theorem rg_below {w0 w : World} (h : Below w0.heap.size w0 w) (d : Nat) (os : Array Obj) : Below w0.heap.size w0 (grow (redrawn w d) os) := h.trans ((below_regrown w d os).mono h.size)

end Go.Proofs.YtceielkcplcccaaGreatDoor

namespace Go.Proofs.YtceielkcplcccaaGreatDoor
open Go.RowKit Go.Sort

/-- TEXTS, TRUTH VALUES, WRITES THAT LIE BEHIND AN ADDRESS. -/
def TxAt (w : World) (a : Option Addr) (xs : List ByteArray) : Prop :=
  xs = [] ∨ ∃ b off, a = some ⟨b, off, none⟩ ∧ ∀ j, j < xs.length → w.cell? ⟨b, off + j, none⟩ = some (.string (xs.getD j ByteArray.empty))
theorem TxAt.below {w w' : World} {a : Option Addr} {xs : List ByteArray} (h : TxAt w a xs) (hB : Below w.heap.size w w') : TxAt w' a xs := by
  rcases h with h | ⟨b, off, e, hc⟩
  · exact .inl h
  · exact .inr ⟨b, off, e, fun j hj => cell_below hB (hc j hj)⟩
def TxV (w : World) (v : Value) (xs : List ByteArray) : Prop := ∃ a cap, v = .slice a xs.length cap ∧ xs.length ≤ cap ∧ cap ≤ maxLen ∧ TxAt w a xs
theorem TxV.below {w w' : World} {v : Value} {xs : List ByteArray} (h : TxV w v xs) (hB : Below w.heap.size w w') : TxV w' v xs := by
  obtain ⟨a, cap, e, h1, h2, h3⟩ := h; exact ⟨a, cap, e, h1, h2, h3.below hB⟩
/-- THE CELLS of texts, truth values, writes. -/
def txC (xs : List ByteArray) : List Value := xs.map Value.string
theorem txC_get (xs : List ByteArray) (j : Nat) (h : j < xs.length) : (txC xs)[j]? = some (.string (xs.getD j ByteArray.empty)) := by
  rw [txC, List.getElem?_map, List.getD, List.getElem?_eq_getElem h]; rfl
theorem txC_length (xs : List ByteArray) : (txC xs).length = xs.length := by simp [txC]
/-- Rows of two types lie in two blocks. -/
theorem own_apart {w : World} {b1 b2 K1 K2 : Nat} {e1 e2 : TypeId} {v1 v2 : Value} {n1 n2 : Nat} {xs1 xs2 : List Value} (h1 : w.ownsRow b1 e1 K1 v1 n1 xs1) (h2 : w.ownsRow b2 e2 K2 v2 n2 xs2) (he : e1 ≠ e2) (p : Nat) (hp : v1.ownBlock = some p) : v2.ownBlock ≠ some p := by
  intro hq
  rcases h1.2 with ⟨rfl, _⟩ | ⟨g1, cap1, cur1, rfl, _, hg1, _⟩
  · cases hp
  · rcases h2.2 with ⟨rfl, _⟩ | ⟨g2, cap2, cur2, rfl, _, hg2, _⟩
    · cases hq
    · simp only [Value.ownBlock, Option.some.injEq] at hp hq
      rw [hp] at hg1
      rw [hq, hg1] at hg2
      injection hg2 with hg2
      injection hg2 with _ hg2
      exact he hg2

/-- TEXTS, TRUTH VALUES, WRITES OF ONE's OWN. -/
def OwnTx (w : World) (base : Nat) (v : Value) (xs : List ByteArray) : Prop := w.ownsRow base 9 1 v xs.length (txC xs)
theorem OwnTx.reads {w : World} {base : Nat} {v : Value} {xs : List ByteArray} (h : OwnTx w base v xs) : TxV w v xs := by
  have h' := h
  rcases h.2 with ⟨rfl, hk⟩ | ⟨g, cap, cur, rfl, hb, hg, hkc, hcm, hcs, hx⟩
  · have : xs = [] := List.eq_nil_of_length_eq_zero hk
    subst this
    exact ⟨none, 0, rfl, Nat.le_refl _, by simp [maxLen], .inl rfl⟩
  · refine ⟨some ⟨g, 0, none⟩, cap, rfl, hkc, hcm, .inr ⟨g, 0, rfl, fun j hj => ?_⟩⟩
    have e0 := (own_cell h' j (by omega)).1
    rw [txC_get xs j hj] at e0
    rw [Nat.zero_add]; exact e0
theorem box0 (w : World) (cs : Array Value) (t : TypeId) (j : Nat) : (w.alloc (.cells cs t)).cell? ⟨w.heap.size, j, none⟩ = cs[j]? := World.cell?_alloc_mark w cs t (0, 0) j
theorem box_old (w : World) (o : Obj) (b j : Nat) (h : b < w.heap.size) : (w.alloc o).cell? ⟨b, j, none⟩ = w.cell? ⟨b, j, none⟩ := (bcell ((Below.refl _ w).alloc (Nat.le_refl _) o)).1 b j h
theorem box1 (w : World) (o : Obj) (cs : Array Value) (t : TypeId) (j : Nat) : ((w.alloc (.cells cs t)).alloc o).cell? ⟨w.heap.size, j, none⟩ = cs[j]? := (box_old _ _ _ _ (by simp)).trans (box0 w cs t j)
theorem box2 (w : World) (o : Obj) (cs : Array Value) (t : TypeId) (j : Nat) : ((w.alloc o).alloc (.cells cs t)).cell? ⟨w.heap.size + 1, j, none⟩ = cs[j]? := by
  have := box0 (w.alloc o) cs t j
  rw [World.size_alloc] at this
  exact this
/-- A BLOCK that is known whole. -/
def Blk (w : World) (D : Nat) (cs : Array Value) (t : TypeId) : Prop := w.heap[D]? = some (.cells cs t (0, 0))
theorem Blk.cell {w : World} {D : Nat} {cs : Array Value} {t : TypeId} (h : Blk w D cs t) (j : Nat) : w.cell? ⟨D, j, none⟩ = cs[j]? := by unfold Blk at h; simp only [World.cell?, h]; rfl
theorem Blk.frozen {w : World} {D : Nat} {cs : Array Value} {t : TypeId} (h : Blk w D cs t) (j : Nat) : w.frozen? ⟨D, j, none⟩ = false := by unfold Blk at h; simp [World.frozen?, h]
theorem Blk.lt {w : World} {D : Nat} {cs : Array Value} {t : TypeId} (h : Blk w D cs t) : D < w.heap.size := (Array.getElem?_eq_some_iff.1 h).1
theorem Blk.below {w w' : World} {n D : Nat} {cs : Array Value} {t : TypeId} (h : Blk w D cs t) (hB : Below n w w') (hn : D < n) : Blk w' D cs t := (hB.block D hn).trans h
theorem Blk.new (w : World) (cs : Array Value) (t : TypeId) : Blk (w.alloc (.cells cs t)) w.heap.size cs t := heap_alloc_new w _
theorem Blk.set {w : World} {D : Nat} {cs : Array Value} {t : TypeId} (h : Blk w D cs t) (j : Nat) (u : Value) : Blk (w.setCell ⟨D, j, none⟩ u) D (cs.setIfInBounds j u) t := by
  obtain ⟨hlt, hh⟩ := Array.getElem?_eq_some_iff.1 h
  show (w.heap.modify D _)[D]? = _
  rw [Array.getElem?_eq_getElem (by rw [Array.size_modify]; exact hlt), Array.getElem_modify_self, hh]
  rfl
theorem Blk.other {w : World} {D : Nat} {cs : Array Value} {t : TypeId} (h : Blk w D cs t) (E j : Nat) (u : Value) (hne : E ≠ D) : Blk (w.setCell ⟨E, j, none⟩ u) D cs t :=
  (Below.heap_setCell _ _ _ _ (fun e => hne e.symm)).trans h
theorem Blk.type {w : World} {D : Nat} {cs cs' : Array Value} {t t' : TypeId} (h : Blk w D cs t) (h' : Blk w D cs' t') : t = t' := by
  unfold Blk at h h'
  rw [h] at h'
  injection h' with h'
  injection h' with _ h'
theorem below_trans {n : Nat} {w w1 w2 : World} (h : Below n w w1) (k : Below w1.heap.size w1 w2) (hn : n ≤ w1.heap.size) : Below n w w2 := h.trans (k.mono hn)

end Go.Proofs.YtceielkcplcccaaGreatDoor

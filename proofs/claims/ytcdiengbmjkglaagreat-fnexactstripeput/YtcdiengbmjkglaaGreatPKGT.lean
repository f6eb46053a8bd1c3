/- Texts in a row, how they lie in memory, rows of one's own, blocks known whole. Conditions: none. Texts that came in, and structs opened field by field. Conditions: none. The exact laws' own helpers for texts: sizes and comparisons. Conditions: none but the row's own bound on sizes. -/
import Derived.Test.YtcdiengbmjkglaaGreatPKM5
import Derived.Test.YtcdiengbmjkglaaGreatPKK
import Derived.OwnWalk
import Derived.Maps.Range
import Derived.Lib.QuietBelow
import Derived.Deep.QuietTactic
import Derived.BigQuiet
import Derived.IntWalk
import Derived.Deep.AppendLies
import Derived.SliceStrings
import Derived.Deep.RegionHeld3
namespace Go.Proofs.YtcdiengbmjkglaaGreat
open Go.RowKit Go.Sort

/-- TEXTS, TRUTH VALUES, WRITES THAT LIE BEHIND AN ADDRESS. -/
def TxAt (w : World) (a : Option Addr) (xs : List ByteArray) : Prop :=
  xs = [] ∨ ∃ b off, a = some ⟨b, off, none⟩ ∧ ∀ j, j < xs.length → w.cell? ⟨b, off + j, none⟩ = some (.string (xs.getD j ByteArray.empty))
theorem TxAt.below {w w' : World} {a : Option Addr} {xs : List ByteArray} (h : TxAt w a xs) (hB : Below w.heap.size w w') : TxAt w' a xs := by
  rcases h with h | ⟨b, off, e, hc⟩
  · exact .inl h
  · exact .inr ⟨b, off, e, fun j hj => cell_below hB (hc j hj)⟩
def TxV (w : World) (v : Value) (xs : List ByteArray) : Prop := ∃ a cap, v = .slice a xs.length cap ∧ xs.length ≤ cap ∧ cap ≤ maxLen ∧ TxAt w a xs
theorem TxV.below {w w' : World} {v : Value} {xs : List ByteArray} (h : TxV w v xs) (hB : Below w.heap.size w w') : TxV w' v xs := by
  obtain ⟨a, cap, e, h1, h2, h3⟩ := h; exact ⟨a, cap, e, h1, h2, h3.below hB⟩
/-- THE CELLS of texts, truth values, writes. -/
def txC (xs : List ByteArray) : List Value := xs.map Value.string
theorem txC_get (xs : List ByteArray) (j : Nat) (h : j < xs.length) : (txC xs)[j]? = some (.string (xs.getD j ByteArray.empty)) := by
  rw [txC, List.getElem?_map, List.getD, List.getElem?_eq_getElem h]; rfl
theorem txC_length (xs : List ByteArray) : (txC xs).length = xs.length := by simp [txC]
/-- Rows of two types lie in two blocks. -/
theorem own_apart {w : World} {b1 b2 K1 K2 : Nat} {e1 e2 : TypeId} {v1 v2 : Value} {n1 n2 : Nat} {xs1 xs2 : List Value} (h1 : w.ownsRow b1 e1 K1 v1 n1 xs1) (h2 : w.ownsRow b2 e2 K2 v2 n2 xs2) (he : e1 ≠ e2) (p : Nat) (hp : v1.ownBlock = some p) : v2.ownBlock ≠ some p := by
  intro hq
  rcases h1.2 with ⟨rfl, _⟩ | ⟨g1, cap1, cur1, rfl, _, hg1, _⟩
  · cases hp
  · rcases h2.2 with ⟨rfl, _⟩ | ⟨g2, cap2, cur2, rfl, _, hg2, _⟩
    · cases hq
    · simp only [Value.ownBlock, Option.some.injEq] at hp hq
      rw [hp] at hg1
      rw [hq, hg1] at hg2
      injection hg2 with hg2
      injection hg2 with _ hg2
      exact he hg2

/-- TEXTS, TRUTH VALUES, WRITES OF ONE's OWN. -/
def OwnTx (w : World) (base : Nat) (v : Value) (xs : List ByteArray) : Prop := w.ownsRow base 9 1 v xs.length (txC xs)
theorem OwnTx.reads {w : World} {base : Nat} {v : Value} {xs : List ByteArray} (h : OwnTx w base v xs) : TxV w v xs := by
  have h' := h
  rcases h.2 with ⟨rfl, hk⟩ | ⟨g, cap, cur, rfl, hb, hg, hkc, hcm, hcs, hx⟩
  · have : xs = [] := List.eq_nil_of_length_eq_zero hk
    subst this
    exact ⟨none, 0, rfl, Nat.le_refl _, by simp [maxLen], .inl rfl⟩
  · refine ⟨some ⟨g, 0, none⟩, cap, rfl, hkc, hcm, .inr ⟨g, 0, rfl, fun j hj => ?_⟩⟩
    have e0 := (own_cell h' j (by omega)).1
    rw [txC_get xs j hj] at e0
    rw [Nat.zero_add]; exact e0
theorem box0 (w : World) (cs : Array Value) (t : TypeId) (j : Nat) : (w.alloc (.cells cs t)).cell? ⟨w.heap.size, j, none⟩ = cs[j]? := World.cell?_alloc_mark w cs t (0, 0) j
theorem box_old (w : World) (o : Obj) (b j : Nat) (h : b < w.heap.size) : (w.alloc o).cell? ⟨b, j, none⟩ = w.cell? ⟨b, j, none⟩ := (bcell ((Below.refl _ w).alloc (Nat.le_refl _) o)).1 b j h
theorem box1 (w : World) (o : Obj) (cs : Array Value) (t : TypeId) (j : Nat) : ((w.alloc (.cells cs t)).alloc o).cell? ⟨w.heap.size, j, none⟩ = cs[j]? := (box_old _ _ _ _ (by simp)).trans (box0 w cs t j)
theorem box2 (w : World) (o : Obj) (cs : Array Value) (t : TypeId) (j : Nat) : ((w.alloc o).alloc (.cells cs t)).cell? ⟨w.heap.size + 1, j, none⟩ = cs[j]? := by
  have := box0 (w.alloc o) cs t j
  rw [World.size_alloc] at this
  exact this
/-- A BLOCK that is known whole. -/
def Blk (w : World) (D : Nat) (cs : Array Value) (t : TypeId) : Prop := w.heap[D]? = some (.cells cs t (0, 0))
theorem Blk.cell {w : World} {D : Nat} {cs : Array Value} {t : TypeId} (h : Blk w D cs t) (j : Nat) : w.cell? ⟨D, j, none⟩ = cs[j]? := by unfold Blk at h; simp only [World.cell?, h]; rfl
theorem Blk.frozen {w : World} {D : Nat} {cs : Array Value} {t : TypeId} (h : Blk w D cs t) (j : Nat) : w.frozen? ⟨D, j, none⟩ = false := by unfold Blk at h; simp [World.frozen?, h]
theorem Blk.lt {w : World} {D : Nat} {cs : Array Value} {t : TypeId} (h : Blk w D cs t) : D < w.heap.size := (Array.getElem?_eq_some_iff.1 h).1
theorem Blk.below {w w' : World} {n D : Nat} {cs : Array Value} {t : TypeId} (h : Blk w D cs t) (hB : Below n w w') (hn : D < n) : Blk w' D cs t := (hB.block D hn).trans h
theorem Blk.new (w : World) (cs : Array Value) (t : TypeId) : Blk (w.alloc (.cells cs t)) w.heap.size cs t := heap_alloc_new w _
theorem Blk.set {w : World} {D : Nat} {cs : Array Value} {t : TypeId} (h : Blk w D cs t) (j : Nat) (u : Value) : Blk (w.setCell ⟨D, j, none⟩ u) D (cs.setIfInBounds j u) t := by
  obtain ⟨hlt, hh⟩ := Array.getElem?_eq_some_iff.1 h
  show (w.heap.modify D _)[D]? = _
  rw [Array.getElem?_eq_getElem (by rw [Array.size_modify]; exact hlt), Array.getElem_modify_self, hh]
  rfl
theorem Blk.other {w : World} {D : Nat} {cs : Array Value} {t : TypeId} (h : Blk w D cs t) (E j : Nat) (u : Value) (hne : E ≠ D) : Blk (w.setCell ⟨E, j, none⟩ u) D cs t :=
  (Below.heap_setCell _ _ _ _ (fun e => hne e.symm)).trans h
theorem Blk.type {w : World} {D : Nat} {cs cs' : Array Value} {t t' : TypeId} (h : Blk w D cs t) (h' : Blk w D cs' t') : t = t' := by
  unfold Blk at h h'
  rw [h] at h'
  injection h' with h'
  injection h' with _ h'
theorem below_trans {n : Nat} {w w1 w2 : World} (h : Below n w w1) (k : Below w1.heap.size w1 w2) (hn : n ≤ w1.heap.size) : Below n w w2 := h.trans (k.mono hn)

end Go.Proofs.YtcdiengbmjkglaaGreat

namespace Go.Proofs.YtcdiengbmjkglaaGreat
open Go.Joins Go.ChangeShapes Go.WideShapes Go.RowKit Go.Deep

section
variable {H : Type} {enc : TypeId × Value → H} {P : Program} {w : World} {base : Nat} {spare : Nat → Bool} {held : Bool}
/-- A SLICE OF VALUES OF ONE CELL, OPENED. -/
theorem row_one {t e : TypeId} {fuel : Nat} {v : Value} {x : DataW H × List MemPlace} (ht : P.underlying t = some (.slice e)) (hC : P.cellsOf e = 1) (h : DataW.trod enc P w base spare held fuel t [v] = some x) :
    ∃ (a : Option Addr) (len cap : Nat), v = .slice a len cap ∧ len ≤ cap ∧ cap ≤ maxLen ∧ ∀ i, i < len → ∃ b off, a = some ⟨b, off, none⟩ ∧ ∃ (u : Value) (y : DataW H × List MemPlace) (n : Nat), w.cell? ⟨b, off + i, none⟩ = some u ∧ DataW.trod enc P w base spare held n e [u] = some y := by
  rcases open_slice ht h with ⟨h0, _⟩ | ⟨a, len, cap, m, n, D, Pl, hcs, _, hl, hm, hmm, _, hi⟩
  · injection h0 with h0
    exact ⟨none, 0, 0, h0, Nat.le_refl _, by simp [maxLen], fun i hi => by omega⟩
  · injection hcs with hcs
    have key : ∀ i, i < len → ∃ (u : Value) (y : DataW H × List MemPlace) (n : Nat), w.cell? (a.add i) = some u ∧ DataW.trod enc P w base spare held n e [u] = some y := by
      intro i hil
      have him : i < m := by rw [hmm]; split <;> omega
      obtain ⟨cs', hc, ht'⟩ := hi i him
      rw [hC] at hc
      obtain ⟨_, hcl, hat⟩ := World.cells?_some hc
      obtain ⟨u, rfl⟩ : ∃ u, cs' = [u] := List.length_eq_one_iff.1 hcl
      refine ⟨u, _, _, ?_, ht'⟩
      have := hat 0 (by omega)
      rw [Go.Deep.add_add, Nat.mul_one, Nat.add_zero] at this
      simpa using this
    refine ⟨some a, len, cap, hcs, hl, hm, fun i hil => ?_⟩
    obtain ⟨u, y, n', hc0, _⟩ := key 0 (by omega)
    obtain ⟨b, off, rfl⟩ := addr_plain hc0
    refine ⟨b, off, rfl, ?_⟩
    have := key i hil
    rw [add_plain] at this
    exact this
/-- A STRUCT OF FIELDS OF ONE CELL, OPENED. -/
theorem agg_cells {r : Reach} {b0 : Nat} {t : TypeId} {fs : Array Field} {v : Value} {d : DataW H} {p : List MemPlace} (hs : P.underlying t = some (.struct fs)) (hone : oneCellFields P fs = true) (hC : P.cellsOf t = fs.size)
    (hv : Value.okWide P w r b0 t v) (h : DataW.Trod enc P w base spare held t v d p) :
    ∃ cs : Array Value, v = .agg cs ∧ cs.size = fs.size ∧ ∀ (j : Nat) (f : Field), fs[j]? = some f → ∃ (u : Value) (y : DataW H × List MemPlace) (n : Nat), cs[j]? = some u ∧ DataW.trod enc P w base spare held n f.type [u] = some y := by
  obtain ⟨cs, rfl, hsz⟩ := okWide_struct hs hv
  rw [hC] at hsz
  obtain ⟨fuel, hf⟩ := h
  obtain ⟨ys, n', _, _, _, hyl, hf⟩ := DataW.trod_struct hs hf
  refine ⟨cs, rfl, hsz, fun j f hj => ?_⟩
  obtain ⟨ho, hk⟩ := hone_of hone j f hj
  have hjl : j < fs.size := (Array.getElem?_eq_some_iff.1 hj).1
  have h1 := hf j f hj
  have hvc : (Value.agg cs).cells = cs := rfl
  have h2 : (cs.toList.drop j).take 1 = [cs[j]'(by omega)] := by
    rw [List.drop_eq_getElem_cons (by simp; omega)]
    simp
  rw [ho, hk] at h1
  rw [show (Value.agg cs).cells.toList = cs.toList from rfl] at h1
  rw [h2] at h1
  have hys : ys[j]? = some (ys[j]'(by omega)) := List.getElem?_eq_getElem (by omega)
  exact ⟨_, _, n', Array.getElem?_eq_getElem (by omega), h1.trans hys⟩
end

section
variable {H : Type} {enc : TypeId × Value → H} {w : World} {base : Nat} {spare : Nat → Bool} {held : Bool} {fuel : Nat} {v : Value} {x : DataW H × List MemPlace}
theorem in_texts (h : DataW.trod enc Tryz.prog w base spare held fuel 46 [v] = some x) : ∃ xs, TxV w v xs ∧ ∀ j, j < xs.length → (xs.getD j ByteArray.empty).size ≤ maxLen := by
  obtain ⟨a, len, cap, rfl, hl, hm, hi⟩ := row_one Tryz.underlying46 (by kernel_rfl) h
  obtain ⟨ps, hpl, hps⟩ := choose_list ByteArray.empty len (fun i p => ∃ b off, a = some ⟨b, off, none⟩ ∧ w.cell? ⟨b, off + i, none⟩ = some (.string p) ∧ p.size ≤ maxLen) (fun i hil => by
    obtain ⟨b, off, rfl, u, y, n, c, t⟩ := hi i hil
    obtain ⟨z0, e0, _, hz⟩ := DataW.trod_string Tryz.underlying9 t
    injection e0 with e0
    subst e0
    exact ⟨z0, b, off, rfl, c, hz⟩)
  subst hpl
  refine ⟨ps, ⟨a, cap, rfl, hl, hm, ?_⟩, fun j hj => by obtain ⟨_, _, _, _, hz⟩ := hps j hj; exact hz⟩
  by_cases h0 : ps = []
  · exact .inl h0
  · have hp : 0 < ps.length := List.length_pos_iff.2 h0
    obtain ⟨b, off, rfl, _⟩ := hps 0 hp
    refine .inr ⟨b, off, rfl, fun j hj => ?_⟩
    obtain ⟨b', off', e, h1, h2⟩ := hps j hj
    injection e with e
    injection e with e1 e2
    subst e1
    subst e2
    exact h1
end

end Go.Proofs.YtcdiengbmjkglaaGreat

namespace Go.Proofs.YtcdiengbmjkglaaGreat
open Go.RowKit Go.Sort

/-- LITTLE: so many at most, at every level. -/
def TxSmall (xs : List ByteArray) : Prop := xs.length ≤ 1048576 ∧ ∀ j, j < xs.length → (xs.getD j ByteArray.empty).size ≤ 1048576
def SzIf (P : Prop) (left : Nat) (w : World) (e : Ending) (w' : World) : Prop := (e = .returned (.int .i64 (-1)) ∨ ∃ r : Nat, e = .returned (.int .i64 (r : Int)) ∧ r ≤ left ∧ P) ∧ Below w.heap.size w w'

set_option maxRecDepth 100000 in
set_option maxHeartbeats 1000000 in
theorem szTx_any (a : Option Addr) (cap : Nat) (xs : List ByteArray) (left : Nat) (w : World) (hl : xs.length ≤ maxLen) (hs : Hid (∀ j, j < xs.length → (xs.getD j ByteArray.empty).size ≤ maxLen)) (hleft : left ≤ 1048576) (hx : Hid (TxAt w a xs)) :
    Calls Tryz.prog 56 #[.slice a xs.length cap, .int .i64 (left : Int)] w (SzIf (TxSmall xs) left w) := by
  unfold maxLen at hl
  by_cases h0 : left < xs.length
  · have d0 : decide ((left : Int) - (xs.length : Int) < 0) = true := by simp; omega
    go_enter Tryz.func56, Tryz.ntmps56
    go_wp2
    go_ret
    exact ⟨.inl rfl, Below.refl _ _⟩
  · obtain ⟨r0, hr0⟩ : ∃ r0 : Nat, (left : Int) - (xs.length : Int) = (r0 : Int) := ⟨left - xs.length, by omega⟩
    have d0 : decide ((left : Int) - (xs.length : Int) < 0) = false := by simp; omega
    go_enter Tryz.func56, Tryz.ntmps56
    go_wp2_with fail
    go_loop [1, 5] (fun l i => ∃ k r : Nat, i = .int .i64 (k : Int) ∧ l = .int .i64 (r : Int) ∧ k ≤ xs.length ∧ xs.length + r ≤ left ∧ Hid (∀ j, j < k → (xs.getD j ByteArray.empty).size ≤ 1048576)) (fun _ i => xs.length - (intOf i).toNat)
    case atStart => exact ⟨0, r0, rfl, by go_num, by omega, by omega, fun j hj => by omega⟩
    case round =>
      obtain ⟨k, r, rfl, rfl, hk, hr, hall⟩ := hrel
      by_cases hlt : k < xs.length
      · obtain ⟨b, off, rfl, hc⟩ := hx.out.resolve_left (fun e => by subst e; simp at hlt)
        have hck := hc k hlt
        have hs1 := hs.out k hlt
        unfold maxLen at hs1
        clear hc
        generalize hgx : xs.getD k ByteArray.empty = x at hck hs1
        have Hgx := Lib.hid hgx
        clear hgx
        by_cases h1 : r < x.size
        · have d1 : decide ((r : Int) - (x.size : Int) < 0) = true := by simp; omega
          go_wp2
          go_ret
          exact ⟨.inl rfl, Below.refl _ _⟩
        · have d1 : decide ((r : Int) - (x.size : Int) < 0) = false := by simp; omega
          have hnext : Hid (∀ j, j < k + 1 → (xs.getD j ByteArray.empty).size ≤ 1048576) := fun j hj => by
            by_cases e : j = k
            · subst e; rw [Hgx.out]; omega
            · exact hall.out j (by omega)
          go_wp2
          exact ⟨⟨k + 1, r - x.size, by go_num, by go_num, by omega, by omega, hnext⟩, by simp [intOf]; omega⟩
      · have HL : Hid (TxSmall xs) := ⟨by omega, fun j hj => hall.out j (by omega)⟩
        have hrl : r ≤ left := by omega
        go_wp2
        go_ret
        exact ⟨.inr ⟨r, rfl, hrl, HL.out⟩, Below.refl _ _⟩

set_option maxRecDepth 100000 in
set_option maxHeartbeats 1000000 in
theorem eqTx_same (a b : Option Addr) (ca cb : Nat) (xs : List ByteArray) (w : World) (hl : xs.length ≤ maxLen) (ha : Hid (TxAt w a xs)) (hb : Hid (TxAt w b xs)) :
    Calls Tryz.prog 76 #[.slice a xs.length ca, .slice b xs.length cb] w fun e w' => e = .returned (.bool true) ∧ Below w.heap.size w w' := by
  unfold maxLen at hl
  have d0 : ((xs.length : Int) != (xs.length : Int)) = false := by simp
  go_enter Tryz.func76, Tryz.ntmps76
  go_wp2_with fail
  go_loopw [5] (fun i wr => ∃ k : Nat, i = .int .i64 (k : Int) ∧ k ≤ xs.length ∧ Below w.heap.size w wr) (fun i _ => xs.length - (intOf i).toNat)
  case atStart => exact ⟨0, rfl, by omega, Below.refl _ _⟩
  case round =>
    obtain ⟨k, rfl, hk, hB⟩ := hrel
    by_cases hlt : k < xs.length
    · obtain ⟨b1, o1, rfl, hc1⟩ := (ha.out.below hB).resolve_left (fun e => by subst e; simp at hlt)
      obtain ⟨b2, o2, rfl, hc2⟩ := (hb.out.below hB).resolve_left (fun e => by subst e; simp at hlt)
      have k1 := hc1 k hlt
      have k2 := hc2 k hlt
      clear hc1 hc2
      generalize xs.getD k ByteArray.empty = x at k1 k2
      have i1 : (k : Int) < (xs.length : Int) := by omega
      have i0 : (0 : Int) ≤ (k : Int) := by omega
      go_wp2
      go_quiet (fail)
      go_wp2
      exact ⟨⟨k + 1, by go_num, by omega, belowN hB nq⟩, by simp [intOf]; omega⟩
    · go_wp2
      go_ret
      exact ⟨rfl, hB⟩

end Go.Proofs.YtcdiengbmjkglaaGreat

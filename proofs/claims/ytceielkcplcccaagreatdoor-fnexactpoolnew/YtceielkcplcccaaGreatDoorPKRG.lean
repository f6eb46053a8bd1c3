/- A slice of structs that came in, opened to its cells. Conditions: none. Texts that came in, and structs opened field by field. Conditions: none. The exact laws' own helpers for texts: sizes and comparisons. Conditions: none but the row's own bound on sizes. The exact laws' own helpers for texts: copies. Conditions: none but the row's own bound on sizes. Slices of bytes and of texts of the call's own: what is appended, and bytes read as a text. Conditions: none. -/
import Derived.WalkKit
import Derived.Below
import Derived.Deep.Slices
import Derived.Deep.Fields
import Derived.ChangeSame
import Derived.Lib.SmallJoins
import Derived.Test.YtceielkcplcccaaGreatDoorRows
import Derived.Test.YtceielkcplcccaaGreatDoorPKMK
import Derived.Lib.Hide
import Derived.Deep.AppendLies
import Derived.Laws.BytesArg
import Derived.OwnWalk
import Derived.Maps.Range
namespace Go.Proofs.YtceielkcplcccaaGreatDoor
open Go.Joins Go.ChangeShapes Go.WideShapes Go.RowKit Go.Deep

theorem choose_list {α : Type} (d : α) (len : Nat) (P : Nat → α → Prop) (h : ∀ i, i < len → ∃ x, P i x) : ∃ xs : List α, xs.length = len ∧ ∀ i, i < len → P i (xs.getD i d) := by
  induction len with
  | zero => exact ⟨[], rfl, fun i hi => by omega⟩
  | succ n ih =>
    obtain ⟨xs, hl, hx⟩ := ih (fun i hi => h i (by omega))
    obtain ⟨x, hxn⟩ := h n (by omega)
    refine ⟨xs ++ [x], by simp [hl], fun i hi => ?_⟩
    by_cases e : i = n
    · subst e
      rw [List.getD, List.getElem?_append_right (by omega), hl]
      simpa using hxn
    · have := hx i (by omega)
      rw [List.getD, List.getElem?_append_left (by omega)]
      exact this

theorem addr_plain {w : World} {a : Addr} {v : Value} (h : w.cell? (a.add 0) = some v) : ∃ b off, a = ⟨b, off, none⟩ := by
  obtain ⟨b, off, spot⟩ := a
  cases spot with
  | none => exact ⟨b, off, rfl⟩
  | some s =>
    exfalso
    have e : (⟨b, off, some s⟩ : Addr).add 0 = ⟨b, off, some s⟩ := rfl
    rw [e] at h
    unfold World.cell? at h
    split at h
    · simp at h
    · cases h
theorem add_plain (b off k : Nat) : (⟨b, off, none⟩ : Addr).add k = ⟨b, off + k, none⟩ := by
  unfold Addr.add
  by_cases e : k = 0
  · subst e; rfl
  · rw [if_neg e]

section
variable {H : Type} {enc : TypeId × Value → H} {P : Program} {w : World} {base : Nat} {spare : Nat → Bool} {held : Bool}
/-- A SLICE OF STRUCTS, OPENED TO ITS CELLS. -/
theorem row_cells {t e : TypeId} {fs : Array Field} {fuel : Nat} {v : Value} {x : DataW H × List MemPlace} (ht : P.underlying t = some (.slice e)) (he : P.underlying e = some (.struct fs))
    (hone : oneCellFields P fs = true) (hC : P.cellsOf e = fs.size) (h0 : 0 < fs.size) (h : DataW.trod enc P w base spare held fuel t [v] = some x) :
    ∃ (a : Option Addr) (len cap : Nat), v = .slice a len cap ∧ len ≤ cap ∧ cap ≤ maxLen ∧ ∀ i, i < len → ∃ b off, a = some ⟨b, off, none⟩ ∧ ∀ (j : Nat) (f : Field), fs[j]? = some f → ∃ (u : Value) (y : DataW H × List MemPlace) (n : Nat), w.cell? ⟨b, off + (i * fs.size + j), none⟩ = some u ∧ DataW.trod enc P w base spare held n f.type [u] = some y := by
  rcases open_slice ht h with ⟨h0, _⟩ | ⟨a, len, cap, m, n, D, Pl, hcs, _, hl, hm, hmm, _, hi⟩
  · injection h0 with h0
    exact ⟨none, 0, 0, h0, Nat.le_refl _, by simp [maxLen], fun i hi => by omega⟩
  · injection hcs with hcs
    have key : ∀ i, i < len → ∀ (j : Nat) (f : Field), fs[j]? = some f → ∃ (u : Value) (y : DataW H × List MemPlace) (n : Nat), w.cell? (a.add (i * fs.size + j)) = some u ∧ DataW.trod enc P w base spare held n f.type [u] = some y := by
      intro i hil j f hj
      have him : i < m := by rw [hmm]; split <;> omega
      obtain ⟨cs', hc, ht'⟩ := hi i him
      rw [hC] at hc
      obtain ⟨ys, n', _, _, _, hyl, hf⟩ := DataW.trod_struct he ht'
      obtain ⟨_, hcl, hat⟩ := World.cells?_some hc
      obtain ⟨ho, hk⟩ := hone_of hone j f hj
      have hjl : j < fs.size := (Array.getElem?_eq_some_iff.1 hj).1
      have hv : cs'[j]? = some (cs'[j]'(by omega)) := List.getElem?_eq_getElem (by omega)
      have h1 := hf j f hj
      have h2 : (cs'.drop j).take 1 = [cs'[j]'(by omega)] := by
        rw [List.drop_eq_getElem_cons (by omega)]
        rfl
      rw [ho, hk, h2] at h1
      have hys : ys[j]? = some (ys[j]'(by omega)) := List.getElem?_eq_getElem (by omega)
      refine ⟨_, _, n', ?_, h1.trans hys⟩
      rw [← Go.Deep.add_add, hat j hjl, hv]
    refine ⟨some a, len, cap, hcs, hl, hm, fun i hil => ?_⟩
    obtain ⟨u, y, n', hc0, _⟩ := key 0 (by omega) 0 (fs[0]'h0) (Array.getElem?_eq_getElem h0)
    rw [Nat.zero_mul, Nat.zero_add] at hc0
    obtain ⟨b, off, rfl⟩ := addr_plain hc0
    refine ⟨b, off, rfl, fun j f hj => ?_⟩
    have := key i hil j f hj
    rw [add_plain] at this
    exact this
end

end Go.Proofs.YtceielkcplcccaaGreatDoor

namespace Go.Proofs.YtceielkcplcccaaGreatDoor
open Go.Joins Go.ChangeShapes Go.WideShapes Go.RowKit Go.Deep

section
variable {H : Type} {enc : TypeId × Value → H} {P : Program} {w : World} {base : Nat} {spare : Nat → Bool} {held : Bool}
/-- A SLICE OF VALUES OF ONE CELL, OPENED. -/
theorem row_one {t e : TypeId} {fuel : Nat} {v : Value} {x : DataW H × List MemPlace} (ht : P.underlying t = some (.slice e)) (hC : P.cellsOf e = 1) (h : DataW.trod enc P w base spare held fuel t [v] = some x) :
    ∃ (a : Option Addr) (len cap : Nat), v = .slice a len cap ∧ len ≤ cap ∧ cap ≤ maxLen ∧ ∀ i, i < len → ∃ b off, a = some ⟨b, off, none⟩ ∧ ∃ (u : Value) (y : DataW H × List MemPlace) (n : Nat), w.cell? ⟨b, off + i, none⟩ = some u ∧ DataW.trod enc P w base spare held n e [u] = some y := by
  rcases open_slice ht h with ⟨h0, _⟩ | ⟨a, len, cap, m, n, D, Pl, hcs, _, hl, hm, hmm, _, hi⟩
  · injection h0 with h0
    exact ⟨none, 0, 0, h0, Nat.le_refl _, by simp [maxLen], fun i hi => by omega⟩
  · injection hcs with hcs
    have key : ∀ i, i < len → ∃ (u : Value) (y : DataW H × List MemPlace) (n : Nat), w.cell? (a.add i) = some u ∧ DataW.trod enc P w base spare held n e [u] = some y := by
      intro i hil
      have him : i < m := by rw [hmm]; split <;> omega
      obtain ⟨cs', hc, ht'⟩ := hi i him
      rw [hC] at hc
      obtain ⟨_, hcl, hat⟩ := World.cells?_some hc
      obtain ⟨u, rfl⟩ : ∃ u, cs' = [u] := List.length_eq_one_iff.1 hcl
      refine ⟨u, _, _, ?_, ht'⟩
      have := hat 0 (by omega)
      rw [Go.Deep.add_add, Nat.mul_one, Nat.add_zero] at this
      simpa using this
    refine ⟨some a, len, cap, hcs, hl, hm, fun i hil => ?_⟩
    obtain ⟨u, y, n', hc0, _⟩ := key 0 (by omega)
    obtain ⟨b, off, rfl⟩ := addr_plain hc0
    refine ⟨b, off, rfl, ?_⟩
    have := key i hil
    rw [add_plain] at this
    exact this
/-- A STRUCT OF FIELDS OF ONE CELL, OPENED. -/
theorem agg_cells {r : Reach} {b0 : Nat} {t : TypeId} {fs : Array Field} {v : Value} {d : DataW H} {p : List MemPlace} (hs : P.underlying t = some (.struct fs)) (hone : oneCellFields P fs = true) (hC : P.cellsOf t = fs.size)
    (hv : Value.okWide P w r b0 t v) (h : DataW.Trod enc P w base spare held t v d p) :
    ∃ cs : Array Value, v = .agg cs ∧ cs.size = fs.size ∧ ∀ (j : Nat) (f : Field), fs[j]? = some f → ∃ (u : Value) (y : DataW H × List MemPlace) (n : Nat), cs[j]? = some u ∧ DataW.trod enc P w base spare held n f.type [u] = some y := by
  obtain ⟨cs, rfl, hsz⟩ := okWide_struct hs hv
  rw [hC] at hsz
  obtain ⟨fuel, hf⟩ := h
  obtain ⟨ys, n', _, _, _, hyl, hf⟩ := DataW.trod_struct hs hf
  refine ⟨cs, rfl, hsz, fun j f hj => ?_⟩
  obtain ⟨ho, hk⟩ := hone_of hone j f hj
  have hjl : j < fs.size := (Array.getElem?_eq_some_iff.1 hj).1
  have h1 := hf j f hj
  have hvc : (Value.agg cs).cells = cs := rfl
  have h2 : (cs.toList.drop j).take 1 = [cs[j]'(by omega)] := by
    rw [List.drop_eq_getElem_cons (by simp; omega)]
    simp
  rw [ho, hk] at h1
  rw [show (Value.agg cs).cells.toList = cs.toList from rfl] at h1
  rw [h2] at h1
  have hys : ys[j]? = some (ys[j]'(by omega)) := List.getElem?_eq_getElem (by omega)
  exact ⟨_, _, n', Array.getElem?_eq_getElem (by omega), h1.trans hys⟩
end

section
variable {H : Type} {enc : TypeId × Value → H} {w : World} {base : Nat} {spare : Nat → Bool} {held : Bool} {fuel : Nat} {v : Value} {x : DataW H × List MemPlace}
theorem in_texts (h : DataW.trod enc Tryz.prog w base spare held fuel 33 [v] = some x) : ∃ xs, TxV w v xs ∧ ∀ j, j < xs.length → (xs.getD j ByteArray.empty).size ≤ maxLen := by
  obtain ⟨a, len, cap, rfl, hl, hm, hi⟩ := row_one Tryz.underlying33 (by kernel_rfl) h
  obtain ⟨ps, hpl, hps⟩ := choose_list ByteArray.empty len (fun i p => ∃ b off, a = some ⟨b, off, none⟩ ∧ w.cell? ⟨b, off + i, none⟩ = some (.string p) ∧ p.size ≤ maxLen) (fun i hil => by
    obtain ⟨b, off, rfl, u, y, n, c, t⟩ := hi i hil
    obtain ⟨z0, e0, _, hz⟩ := DataW.trod_string Tryz.underlying9 t
    injection e0 with e0
    subst e0
    exact ⟨z0, b, off, rfl, c, hz⟩)
  subst hpl
  refine ⟨ps, ⟨a, cap, rfl, hl, hm, ?_⟩, fun j hj => by obtain ⟨_, _, _, _, hz⟩ := hps j hj; exact hz⟩
  by_cases h0 : ps = []
  · exact .inl h0
  · have hp : 0 < ps.length := List.length_pos_iff.2 h0
    obtain ⟨b, off, rfl, _⟩ := hps 0 hp
    refine .inr ⟨b, off, rfl, fun j hj => ?_⟩
    obtain ⟨b', off', e, h1, h2⟩ := hps j hj
    injection e with e
    injection e with e1 e2
    subst e1
    subst e2
    exact h1
end

end Go.Proofs.YtceielkcplcccaaGreatDoor

namespace Go.Proofs.YtceielkcplcccaaGreatDoor
open Go.RowKit Go.Sort

/-- LITTLE: so many at most, at every level. -/
def TxSmall (xs : List ByteArray) : Prop := xs.length ≤ 1048576 ∧ ∀ j, j < xs.length → (xs.getD j ByteArray.empty).size ≤ 1048576
def SzIf (P : Prop) (left : Nat) (w : World) (e : Ending) (w' : World) : Prop := (e = .returned (.int .i64 (-1)) ∨ ∃ r : Nat, e = .returned (.int .i64 (r : Int)) ∧ r ≤ left ∧ P) ∧ Below w.heap.size w w'

set_option maxRecDepth 100000 in
set_option maxHeartbeats 1000000 in
theorem eqTx_same (a b : Option Addr) (ca cb : Nat) (xs : List ByteArray) (w : World) (hl : xs.length ≤ maxLen) (ha : Hid (TxAt w a xs)) (hb : Hid (TxAt w b xs)) :
    Calls Tryz.prog 54 #[.slice a xs.length ca, .slice b xs.length cb] w fun e w' => e = .returned (.bool true) ∧ Below w.heap.size w w' := by
  unfold maxLen at hl
  have d0 : ((xs.length : Int) != (xs.length : Int)) = false := by simp
  go_enter Tryz.func54, Tryz.ntmps54
  go_wp2_with fail
  go_loopw [5] (fun i wr => ∃ k : Nat, i = .int .i64 (k : Int) ∧ k ≤ xs.length ∧ Below w.heap.size w wr) (fun i _ => xs.length - (intOf i).toNat)
  case atStart => exact ⟨0, rfl, by omega, Below.refl _ _⟩
  case round =>
    obtain ⟨k, rfl, hk, hB⟩ := hrel
    by_cases hlt : k < xs.length
    · obtain ⟨b1, o1, rfl, hc1⟩ := (ha.out.below hB).resolve_left (fun e => by subst e; simp at hlt)
      obtain ⟨b2, o2, rfl, hc2⟩ := (hb.out.below hB).resolve_left (fun e => by subst e; simp at hlt)
      have k1 := hc1 k hlt
      have k2 := hc2 k hlt
      clear hc1 hc2
      generalize xs.getD k ByteArray.empty = x at k1 k2
      have i1 : (k : Int) < (xs.length : Int) := by omega
      have i0 : (0 : Int) ≤ (k : Int) := by omega
      go_wp2
      go_quiet (fail)
      go_wp2
      exact ⟨⟨k + 1, by go_num, by omega, belowN hB nq⟩, by simp [intOf]; omega⟩
    · go_wp2
      go_ret
      exact ⟨rfl, hB⟩

end Go.Proofs.YtceielkcplcccaaGreatDoor

namespace Go.Proofs.YtceielkcplcccaaGreatDoor
open Go.RowKit Go.Sort

/-- WHAT HAS BEEN WRITTEN SO FAR: the first m cells of a list. -/
def DoneTo (zs : List Value) (m : Nat) (ys : List Value) : Prop := ys.length = zs.length ∧ ∀ i, i < m → ys[i]? = zs[i]?
theorem DoneTo.all {zs ys : List Value} {m : Nat} (h : DoneTo zs m ys) (hm : zs.length ≤ m) : ys = zs := by
  refine List.ext_getElem? fun i => ?_
  by_cases hi : i < m
  · exact h.2 i hi
  · rw [List.getElem?_eq_none (by have := h.1; omega), List.getElem?_eq_none (by omega)]
theorem DoneTo.next {zs ys : List Value} {m : Nat} {u : Value} (h : DoneTo zs m ys) (hu : zs[m]? = some u) : DoneTo zs (m + 1) (ys.set m u) := by
  have hm : m < zs.length := (List.getElem?_eq_some_iff.1 hu).1
  refine ⟨by rw [List.length_set]; exact h.1, fun i hi => ?_⟩
  by_cases e : i = m
  · subst e; rw [List.getElem?_set_self (by rw [h.1]; exact hm), hu]
  · rw [List.getElem?_set_ne (by omega)]; exact h.2 i (by omega)

theorem infoTx : (Tryz.prog.info? 9).map (fun i => (i.zero, i.size, i.bytes)) = some (some (.string ByteArray.empty), 1, 16) := by kernel_rfl
/-- Blocks that were there before. -/
theorem ownBlock_lt {w : World} {base K : Nat} {e : TypeId} {v : Value} {n : Nat} {xs : List Value} (h : w.ownsRow base e K v n xs) (i : Nat) (hi : v.ownBlock = some i) : base ≤ i ∧ i < w.heap.size := h.lt i hi

end Go.Proofs.YtceielkcplcccaaGreatDoor

namespace Go.Proofs.YtceielkcplcccaaGreatDoor
open Go.RowKit

theorem grownBy_drew1 {w w' : World} {r : Option Nat} (h : w.grownBy w' r) : w.grownBy w'.drew r := ⟨h.os, h.tape, h.output, h.size, h.block⟩

/-- 'string(out)' of a slice of one's own. -/
theorem conv_own {w : World} {base : Nat} {v : Value} {k : Nat} {zs : List Int} (h : w.ownsRow base 5 1 v k (zs.map (Value.int .u8))) :
    (convert 51 9 v).run Tryz.prog w = .ok (.string (strOfNums zs)) w := by
  have hl : zs.length = k := by have := h.1; simpa using this
  rcases h.2 with ⟨rfl, hk⟩ | ⟨g, cap, cur, rfl, hb, hg, hkc, hcm, hcs, hx⟩
  · have : zs = [] := List.eq_nil_of_length_eq_zero (by omega)
    subst this
    exact run_convert_bytes_nil w 51 5 Tryz.underlying51 Tryz.underlying5 0 0 9 Tryz.underlying9
  · refine run_convert_bytes_arg w 51 5 Tryz.underlying51 Tryz.underlying5 g 0 k cap zs hl (fun i hi => ?_) 9 Tryz.underlying9
    have e : (cur.toList.take (k * 1))[i]? = (zs.map (Value.int .u8))[i]? := by rw [hx]
    rw [List.getElem?_take, if_pos (by omega)] at e
    simp only [World.cell?, hg, Nat.zero_add]
    simp [List.getD, List.getElem?_eq_getElem (show i < zs.length by omega)] at e ⊢
    exact e

theorem news_new (W : World) (z : Value) (t : TypeId) (H : Nat) (hH : W.heap.size = H) : ∀ j u, [z][j]? = some u → (W.alloc (.cells #[z] t)).cell? ((⟨H, 0, none⟩ : Addr).add j) = some u := by
  subst hH
  exact World.news_of_block (cs := #[z]) (t := t) (fr := (0, 0)) (heap_alloc_new W _)

theorem info5 : (Tryz.prog.info? 5).map (fun i => (i.zero, i.size, i.bytes)) = some (some (.int .u8 0), 1, 1) := by kernel_rfl

end Go.Proofs.YtceielkcplcccaaGreatDoor

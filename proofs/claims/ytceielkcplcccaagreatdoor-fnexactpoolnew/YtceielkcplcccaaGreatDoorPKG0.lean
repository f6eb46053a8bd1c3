/- Writes and disks as plain data, and how they lie in memory. Conditions: none. Arguments that are writes or disks, opened to plain data. Conditions: none but the row's own bound on sizes. -/
import Derived.Test.YtceielkcplcccaaGreatDoorPKMK
import Derived.Test.YtceielkcplcccaaGreatDoorPKK
import Derived.OwnWalk
import Derived.Maps.Range
import Derived.Lib.QuietBelow
import Derived.Deep.QuietTactic
import Derived.BigQuiet
import Derived.IntWalk
import Derived.Deep.AppendLies
import Derived.SliceStrings
import Derived.Deep.RegionHeld3
import Derived.Test.YtceielkcplcccaaGreatDoorPKRG
namespace Go.Proofs.YtceielkcplcccaaGreatDoor
open Go.RowKit Go.Sort

structure PutD where
  ring : Bool
  pos : Int
  text : ByteArray
structure DiskD where
  state : Int
  slots : List ByteArray
  rings : List ByteArray
  spoilt : List Bool
  wait : List PutD
def put0 : PutD := ⟨false, 0, ByteArray.empty⟩
def disk0 : DiskD := ⟨0, [], [], [], []⟩

def BoAt (w : World) (a : Option Addr) (xs : List Bool) : Prop :=
  xs = [] ∨ ∃ b off, a = some ⟨b, off, none⟩ ∧ ∀ j, j < xs.length → w.cell? ⟨b, off + j, none⟩ = some (.bool (xs.getD j false))
def PuAt (w : World) (a : Option Addr) (ps : List PutD) : Prop :=
  ps = [] ∨ ∃ b off, a = some ⟨b, off, none⟩ ∧ ∀ j, j < ps.length → w.cell? ⟨b, off + j * 3, none⟩ = some (.bool (ps.getD j put0).ring) ∧ w.cell? ⟨b, off + j * 3 + 1, none⟩ = some (.int .i64 (ps.getD j put0).pos) ∧ w.cell? ⟨b, off + j * 3 + 2, none⟩ = some (.string (ps.getD j put0).text)
theorem BoAt.below {w w' : World} {a : Option Addr} {xs : List Bool} (h : BoAt w a xs) (hB : Below w.heap.size w w') : BoAt w' a xs := by
  rcases h with h | ⟨b, off, e, hc⟩
  · exact .inl h
  · exact .inr ⟨b, off, e, fun j hj => cell_below hB (hc j hj)⟩
theorem PuAt.below {w w' : World} {a : Option Addr} {xs : List PutD} (h : PuAt w a xs) (hB : Below w.heap.size w w') : PuAt w' a xs := by
  rcases h with h | ⟨b, off, e, hc⟩
  · exact .inl h
  · exact .inr ⟨b, off, e, fun j hj => ⟨cell_below hB (hc j hj).1, cell_below hB (hc j hj).2.1, cell_below hB (hc j hj).2.2⟩⟩

def BoV (w : World) (v : Value) (xs : List Bool) : Prop := ∃ a cap, v = .slice a xs.length cap ∧ xs.length ≤ cap ∧ cap ≤ maxLen ∧ BoAt w a xs
def PuV (w : World) (v : Value) (xs : List PutD) : Prop := ∃ a cap, v = .slice a xs.length cap ∧ xs.length ≤ cap ∧ cap ≤ maxLen ∧ PuAt w a xs
theorem BoV.below {w w' : World} {v : Value} {xs : List Bool} (h : BoV w v xs) (hB : Below w.heap.size w w') : BoV w' v xs := by
  obtain ⟨a, cap, e, h1, h2, h3⟩ := h; exact ⟨a, cap, e, h1, h2, h3.below hB⟩
theorem PuV.below {w w' : World} {v : Value} {xs : List PutD} (h : PuV w v xs) (hB : Below w.heap.size w w') : PuV w' v xs := by
  obtain ⟨a, cap, e, h1, h2, h3⟩ := h; exact ⟨a, cap, e, h1, h2, h3.below hB⟩

/-- A DISK THAT CAN BE READ. -/
def DiskV (w : World) (v : Value) (d : DiskD) : Prop :=
  ∃ v1 v2 v3 v4, v = .agg #[.int .i64 d.state, v1, v2, v3, v4] ∧ TxV w v1 d.slots ∧ TxV w v2 d.rings ∧ BoV w v3 d.spoilt ∧ PuV w v4 d.wait
theorem DiskV.below {w w' : World} {v : Value} {d : DiskD} (h : DiskV w v d) (hB : Below w.heap.size w w') : DiskV w' v d := by
  obtain ⟨v1, v2, v3, v4, e, h1, h2, h3, h4⟩ := h
  exact ⟨v1, v2, v3, v4, e, h1.below hB, h2.below hB, h3.below hB, h4.below hB⟩

def boC (xs : List Bool) : List Value := xs.map Value.bool
def puC (ps : List PutD) : List Value := ps.flatMap fun p => [.bool p.ring, .int .i64 p.pos, .string p.text]
theorem boC_get (xs : List Bool) (j : Nat) (h : j < xs.length) : (boC xs)[j]? = some (.bool (xs.getD j false)) := by
  rw [boC, List.getElem?_map, List.getD, List.getElem?_eq_getElem h]; rfl
theorem boC_length (xs : List Bool) : (boC xs).length = xs.length := by simp [boC]
theorem puC_cons (p : PutD) (ps : List PutD) : puC (p :: ps) = .bool p.ring :: .int .i64 p.pos :: .string p.text :: puC ps := rfl
theorem puC_length (ps : List PutD) : (puC ps).length = ps.length * 3 := by
  induction ps with
  | nil => rfl
  | cons p ps ih => rw [puC_cons]; simp only [List.length_cons, ih]; omega
theorem puC_append (ps qs : List PutD) : puC (ps ++ qs) = puC ps ++ puC qs := by simp [puC]
theorem puC_get (ps : List PutD) (j : Nat) (h : j < ps.length) : (puC ps)[j * 3]? = some (.bool (ps.getD j put0).ring) ∧ (puC ps)[j * 3 + 1]? = some (.int .i64 (ps.getD j put0).pos) ∧ (puC ps)[j * 3 + 2]? = some (.string (ps.getD j put0).text) := by
  induction ps generalizing j with
  | nil => simp at h
  | cons p ps ih =>
    cases j with
    | zero => exact ⟨rfl, rfl, rfl⟩
    | succ j =>
      have := ih j (by simpa using h)
      rw [puC_cons, show (j + 1) * 3 = j * 3 + 3 by omega]
      exact this

def OwnBo (w : World) (base : Nat) (v : Value) (xs : List Bool) : Prop := w.ownsRow base 4 1 v xs.length (boC xs)
def OwnPu (w : World) (base : Nat) (v : Value) (xs : List PutD) : Prop := w.ownsRow base 41 3 v xs.length (puC xs)
theorem OwnBo.reads {w : World} {base : Nat} {v : Value} {xs : List Bool} (h : OwnBo w base v xs) : BoV w v xs := by
  have h' := h
  rcases h.2 with ⟨rfl, hk⟩ | ⟨g, cap, cur, rfl, hb, hg, hkc, hcm, hcs, hx⟩
  · have : xs = [] := List.eq_nil_of_length_eq_zero hk
    subst this
    exact ⟨none, 0, rfl, Nat.le_refl _, by simp [maxLen], .inl rfl⟩
  · refine ⟨some ⟨g, 0, none⟩, cap, rfl, hkc, hcm, .inr ⟨g, 0, rfl, fun j hj => ?_⟩⟩
    have e0 := (own_cell h' j (by omega)).1
    rw [boC_get xs j hj] at e0
    rw [Nat.zero_add]; exact e0
theorem OwnPu.reads {w : World} {base : Nat} {v : Value} {xs : List PutD} (h : OwnPu w base v xs) : PuV w v xs := by
  have h' := h
  rcases h.2 with ⟨rfl, hk⟩ | ⟨g, cap, cur, rfl, hb, hg, hkc, hcm, hcs, hx⟩
  · have : xs = [] := List.eq_nil_of_length_eq_zero hk
    subst this
    exact ⟨none, 0, rfl, Nat.le_refl _, by simp [maxLen], .inl rfl⟩
  · refine ⟨some ⟨g, 0, none⟩, cap, rfl, hkc, hcm, .inr ⟨g, 0, rfl, fun j hj => ?_⟩⟩
    have e0 := (own_cell h' (j * 3) (by omega)).1
    have e1 := (own_cell h' (j * 3 + 1) (by omega)).1
    have e2 := (own_cell h' (j * 3 + 2) (by omega)).1
    obtain ⟨p0, p1, p2⟩ := puC_get xs j hj
    rw [p0] at e0
    rw [p1] at e1
    rw [p2] at e2
    rw [Nat.zero_add]; exact ⟨e0, e1, e2⟩

/-- A DISK OF ONE's OWN: four rows of one's own, slots and rings in two blocks. -/
def Own4 (w : World) (base : Nat) (v1 v2 v3 v4 : Value) (d : DiskD) : Prop :=
  OwnTx w base v1 d.slots ∧ OwnTx w base v2 d.rings ∧ OwnBo w base v3 d.spoilt ∧ OwnPu w base v4 d.wait ∧ ∀ i, v1.ownBlock = some i → v2.ownBlock ≠ some i
def OwnDisk (w : World) (base : Nat) (v : Value) (d : DiskD) : Prop :=
  ∃ v1 v2 v3 v4, v = .agg #[.int .i64 d.state, v1, v2, v3, v4] ∧ Own4 w base v1 v2 v3 v4 d
theorem Own4.below {w w' : World} {base : Nat} {v1 v2 v3 v4 : Value} {d : DiskD} (h : Own4 w base v1 v2 v3 v4 d) (hB : Below w.heap.size w w') : Own4 w' base v1 v2 v3 v4 d :=
  ⟨own_below h.1 hB, own_below h.2.1 hB, own_below h.2.2.1 hB, own_below h.2.2.2.1 hB, h.2.2.2.2⟩
theorem Own4.mono {w : World} {base base' : Nat} {v1 v2 v3 v4 : Value} {d : DiskD} (h : Own4 w base v1 v2 v3 v4 d) (hb : base' ≤ base) : Own4 w base' v1 v2 v3 v4 d :=
  ⟨own_mono h.1 hb, own_mono h.2.1 hb, own_mono h.2.2.1 hb, own_mono h.2.2.2.1 hb, h.2.2.2.2⟩
theorem Own4.far {w : World} {base : Nat} {v1 v2 v3 v4 : Value} {d : DiskD} (h : Own4 w base v1 v2 v3 v4 d) (p o : Nat) (u : Value) (hp : p < base) : Own4 (w.setCell ⟨p, o, none⟩ u) base v1 v2 v3 v4 d :=
  ⟨own_far h.1 p o u hp, own_far h.2.1 p o u hp, own_far h.2.2.1 p o u hp, own_far h.2.2.2.1 p o u hp, h.2.2.2.2⟩
theorem OwnDisk.below {w w' : World} {base : Nat} {v : Value} {d : DiskD} (h : OwnDisk w base v d) (hB : Below w.heap.size w w') : OwnDisk w' base v d := by
  obtain ⟨v1, v2, v3, v4, e, h1⟩ := h
  exact ⟨v1, v2, v3, v4, e, h1.below hB⟩
theorem OwnDisk.mono {w : World} {base base' : Nat} {v : Value} {d : DiskD} (h : OwnDisk w base v d) (hb : base' ≤ base) : OwnDisk w base' v d := by
  obtain ⟨v1, v2, v3, v4, e, h1⟩ := h
  exact ⟨v1, v2, v3, v4, e, h1.mono hb⟩
theorem OwnDisk.far {w : World} {base : Nat} {v : Value} {d : DiskD} (h : OwnDisk w base v d) (p o : Nat) (u : Value) (hp : p < base) : OwnDisk (w.setCell ⟨p, o, none⟩ u) base v d := by
  obtain ⟨v1, v2, v3, v4, e, h1⟩ := h
  exact ⟨v1, v2, v3, v4, e, h1.far p o u hp⟩
theorem OwnDisk.reads {w : World} {base : Nat} {v : Value} {d : DiskD} (h : OwnDisk w base v d) : DiskV w v d := by
  obtain ⟨v1, v2, v3, v4, e, h1, h2, h3, h4, _⟩ := h
  exact ⟨v1, v2, v3, v4, e, h1.reads, h2.reads, h3.reads, h4.reads⟩
/-- A NEW DISK. -/
def NewDisk (d : DiskD) (w : World) (e : Ending) (w' : World) : Prop := ∃ v, e = .returned v ∧ OwnDisk w' w.heap.size v d ∧ Below w.heap.size w w'

end Go.Proofs.YtceielkcplcccaaGreatDoor

namespace Go.Proofs.YtceielkcplcccaaGreatDoor
open Go.Joins Go.ChangeShapes Go.WideShapes Go.RowKit Go.Deep


section
variable {H : Type} {enc : TypeId × Value → H} {w : World} {base : Nat} {spare : Nat → Bool} {held : Bool} {fuel : Nat} {v : Value} {x : DataW H × List MemPlace}
theorem in_bools (h : DataW.trod enc Tryz.prog w base spare held fuel 34 [v] = some x) : ∃ xs, BoV w v xs := by
  obtain ⟨a, len, cap, rfl, hl, hm, hi⟩ := row_one Tryz.underlying34 (by kernel_rfl) h
  obtain ⟨ps, hpl, hps⟩ := choose_list false len (fun i p => ∃ b off, a = some ⟨b, off, none⟩ ∧ w.cell? ⟨b, off + i, none⟩ = some (.bool p)) (fun i hil => by
    obtain ⟨b, off, rfl, u, y, n, c, t⟩ := hi i hil
    obtain ⟨z0, e0, _⟩ := DataW.trod_bool Tryz.underlying4 t
    injection e0 with e0
    subst e0
    exact ⟨z0, b, off, rfl, c⟩)
  subst hpl
  refine ⟨ps, a, cap, rfl, hl, hm, ?_⟩
  by_cases h0 : ps = []
  · exact .inl h0
  · have hp : 0 < ps.length := List.length_pos_iff.2 h0
    obtain ⟨b, off, rfl, _⟩ := hps 0 hp
    refine .inr ⟨b, off, rfl, fun j hj => ?_⟩
    obtain ⟨b', off', e, h1⟩ := hps j hj
    injection e with e
    injection e with e1 e2
    subst e1
    subst e2
    exact h1
end

/-- SIZES of what came in. -/
def DiskBd (d : DiskD) : Prop := (∀ j, j < d.slots.length → (d.slots.getD j ByteArray.empty).size ≤ maxLen) ∧ (∀ j, j < d.rings.length → (d.rings.getD j ByteArray.empty).size ≤ maxLen) ∧ ∀ j, j < d.wait.length → (d.wait.getD j put0).text.size ≤ maxLen

theorem array3' {α : Type} {cs : Array α} (h : cs.size = 3) : ∃ a b c, cs = #[a, b, c] := ⟨cs[0], cs[1], cs[2], by apply Array.ext' ; rcases cs with ⟨l⟩; match l, h with | [a, b, c], _ => rfl⟩
theorem array5' {α : Type} {cs : Array α} (h : cs.size = 5) : ∃ a b c d e, cs = #[a, b, c, d, e] := ⟨cs[0], cs[1], cs[2], cs[3], cs[4], by apply Array.ext' ; rcases cs with ⟨l⟩; match l, h with | [a, b, c, d, e], _ => rfl⟩

end Go.Proofs.YtceielkcplcccaaGreatDoor

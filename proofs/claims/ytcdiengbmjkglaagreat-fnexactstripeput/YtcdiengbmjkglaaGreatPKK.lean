/- What the proofs of all laws share: the closed facts of the program, and how a slice of bytes that came in lies in memory. Conditions: none. Pointers, volumes and roots as plain data, when they are ok, and how they lie in memory. Conditions: none. A slice of structs that came in, opened to its cells. Conditions: none. Arguments that are pointers or roots, opened to plain data. Conditions: none but the row's own bound on sizes. -/
import Derived.Test.YtcdiengbmjkglaaGreatRows
import Derived.WalkKit
import Derived.ProofKit
import Derived.OpenShut
import Derived.ShutString
import Derived.ChangeOld
import Derived.Below
import Derived.Lib.Hide
import Derived.Deep.Slices
import Derived.Deep.Fields
import Derived.ChangeSame
import Derived.Lib.SmallJoins
namespace Go.Proofs.YtcdiengbmjkglaaGreat
open Go.ChangeShapes Go.WideShapes Go.ChangeAt Go.RowKit

theorem own : ownKnob Tryz.prog.godebug = none := by kernel_rfl
theorem laidOut : laidOutB Tryz.prog = true := by kernel_rfl

/-- A SLICE OF BYTES THAT CAME IN: it is nil; or it leads to a row of 'cap' cells, the bytes 'zs' (the first 'len' are its elements, the rest its spare room). -/
def IsBytes (w : World) (a : Option Addr) (len cap : Nat) (zs : List Int) : Prop :=
  (a = none ∧ len = 0 ∧ cap = 0 ∧ zs = []) ∨
  ∃ x, a = some x ∧ len ≤ cap ∧ cap ≤ maxLen ∧ zs.length = cap ∧ (∀ i, i < zs.length → w.cell? (x.add i) = some (.int .u8 (zs.getD i 0))) ∧ ∀ n ∈ zs, (Lit.int .u8 n).wf = true

end Go.Proofs.YtcdiengbmjkglaaGreat

namespace Go.Proofs.YtcdiengbmjkglaaGreat
open Go.RowKit

/-- A TRUTH VALUE of a statement. -/
noncomputable def tt (P : Prop) : Bool := @decide P (Classical.propDecidable P)
theorem tt_true {P : Prop} (h : P) : tt P = true := by unfold tt; exact @decide_eq_true P (Classical.propDecidable P) h
theorem tt_false {P : Prop} (h : ¬P) : tt P = false := by unfold tt; exact @decide_eq_false P (Classical.propDecidable P) h
theorem tt_iff (P : Prop) : tt P = true ↔ P := by
  unfold tt; exact @decide_eq_true_iff P (Classical.propDecidable P)
theorem tt_congr {P Q : Prop} (h : P ↔ Q) : tt P = tt Q := by rw [propext h]
theorem ret_bool' {a b : Bool} (h : a = b) : Ending.returned (.bool a) = .returned (.bool b) := by rw [h]

abbrev PlD := Int × Int
structure PtrD where
  size : Int
  sum : Int
  places : List PlD
structure VolD where
  name : ByteArray
  blocks : List PtrD
structure RootD where
  txg : Int
  vols : List VolD

def pl0 : PlD := (0, 0)
def ptr0 : PtrD := ⟨0, 0, []⟩
def vol0 : VolD := ⟨ByteArray.empty, []⟩

/-- PLACES of a pool of n disks, on disks of their own. -/
def PlacesOk (n : Int) (ps : List PlD) : Prop :=
  ∀ j, j < ps.length → (0 ≤ (ps.getD j pl0).1 ∧ (ps.getD j pl0).1 ≤ n - 1 ∧ 0 ≤ (ps.getD j pl0).2 ∧ (ps.getD j pl0).2 ≤ 11) ∧ ∀ i, i < j → (ps.getD i pl0).1 ≠ (ps.getD j pl0).1
def Pool (n : Int) : Prop := 3 ≤ n ∧ n ≤ 4
def Nothing (p : PtrD) : Prop := p.size = 0 ∧ p.sum = 0 ∧ p.places = []
def Told (n : Int) (p : PtrD) : Prop :=
  1 ≤ p.size ∧ p.size ≤ 3 * min 3 (n - 1) ∧ 0 ≤ p.sum ∧ p.sum ≤ 1000000000 ∧ (p.places.length : Int) = (p.size + 2) / 3 + 1 ∧ PlacesOk n p.places
/-- A POINTER IS OK in a pool of n disks. -/
def PtrFine (n : Int) (p : PtrD) : Prop := Nothing p ∨ Told n p
def PtrOkP (n : Int) (p : PtrD) : Prop := Pool n ∧ PtrFine n p

/-- PLACES THAT LIE BEHIND AN ADDRESS. -/
def PlacesAt (w : World) (a : Option Addr) (ps : List PlD) : Prop :=
  ps = [] ∨ ∃ b off, a = some ⟨b, off, none⟩ ∧ ∀ j, j < ps.length → w.cell? ⟨b, off + j * 2, none⟩ = some (.int .i64 (ps.getD j pl0).1) ∧ w.cell? ⟨b, off + j * 2 + 1, none⟩ = some (.int .i64 (ps.getD j pl0).2)
/-- A SLICE OF PLACES. -/
def PlacesV (w : World) (v : Value) (ps : List PlD) : Prop := ∃ a cap, v = .slice a ps.length cap ∧ ps.length ≤ cap ∧ cap ≤ maxLen ∧ PlacesAt w a ps
/-- POINTERS THAT LIE BEHIND AN ADDRESS. -/
def PtrsAt (w : World) (a : Option Addr) (ps : List PtrD) : Prop :=
  ps = [] ∨ ∃ b off, a = some ⟨b, off, none⟩ ∧ ∀ j, j < ps.length → w.cell? ⟨b, off + j * 3, none⟩ = some (.int .i64 (ps.getD j ptr0).size) ∧ w.cell? ⟨b, off + j * 3 + 1, none⟩ = some (.int .i64 (ps.getD j ptr0).sum) ∧
    ∃ v, w.cell? ⟨b, off + j * 3 + 2, none⟩ = some v ∧ PlacesV w v (ps.getD j ptr0).places
def PtrsV (w : World) (v : Value) (ps : List PtrD) : Prop := ∃ a cap, v = .slice a ps.length cap ∧ ps.length ≤ cap ∧ cap ≤ maxLen ∧ PtrsAt w a ps
/-- VOLUMES THAT LIE BEHIND AN ADDRESS. -/
def VolsAt (w : World) (a : Option Addr) (vs : List VolD) : Prop :=
  vs = [] ∨ ∃ b off, a = some ⟨b, off, none⟩ ∧ ∀ j, j < vs.length → w.cell? ⟨b, off + j * 2, none⟩ = some (.string (vs.getD j vol0).name) ∧
    ∃ v, w.cell? ⟨b, off + j * 2 + 1, none⟩ = some v ∧ PtrsV w v (vs.getD j vol0).blocks
def VolsV (w : World) (v : Value) (vs : List VolD) : Prop := ∃ a cap, v = .slice a vs.length cap ∧ vs.length ≤ cap ∧ cap ≤ maxLen ∧ VolsAt w a vs

theorem cell_below {w w' : World} {b o : Nat} {v : Value} (hB : Below w.heap.size w w') (h : w.cell? ⟨b, o, none⟩ = some v) : w'.cell? ⟨b, o, none⟩ = some v :=
  (hB.cell (p := ⟨b, o, none⟩) (World.block_lt_of_cell? w _ h)).trans h
theorem PlacesAt.below {w w' : World} {a : Option Addr} {ps : List PlD} (h : PlacesAt w a ps) (hB : Below w.heap.size w w') : PlacesAt w' a ps := by
  rcases h with h | ⟨b, off, e, hc⟩
  · exact .inl h
  · exact .inr ⟨b, off, e, fun j hj => ⟨cell_below hB (hc j hj).1, cell_below hB (hc j hj).2⟩⟩
theorem PlacesV.below {w w' : World} {v : Value} {ps : List PlD} (h : PlacesV w v ps) (hB : Below w.heap.size w w') : PlacesV w' v ps := by
  obtain ⟨a, cap, e, h1, h2, h3⟩ := h
  exact ⟨a, cap, e, h1, h2, h3.below hB⟩
theorem PtrsAt.below {w w' : World} {a : Option Addr} {ps : List PtrD} (h : PtrsAt w a ps) (hB : Below w.heap.size w w') : PtrsAt w' a ps := by
  rcases h with h | ⟨b, off, e, hc⟩
  · exact .inl h
  · refine .inr ⟨b, off, e, fun j hj => ?_⟩
    obtain ⟨h1, h2, v, h3, h4⟩ := hc j hj
    exact ⟨cell_below hB h1, cell_below hB h2, v, cell_below hB h3, h4.below hB⟩
theorem PtrsV.below {w w' : World} {v : Value} {ps : List PtrD} (h : PtrsV w v ps) (hB : Below w.heap.size w w') : PtrsV w' v ps := by
  obtain ⟨a, cap, e, h1, h2, h3⟩ := h
  exact ⟨a, cap, e, h1, h2, h3.below hB⟩
theorem VolsAt.below {w w' : World} {a : Option Addr} {vs : List VolD} (h : VolsAt w a vs) (hB : Below w.heap.size w w') : VolsAt w' a vs := by
  rcases h with h | ⟨b, off, e, hc⟩
  · exact .inl h
  · refine .inr ⟨b, off, e, fun j hj => ?_⟩
    obtain ⟨h1, v, h3, h4⟩ := hc j hj
    exact ⟨cell_below hB h1, v, cell_below hB h3, h4.below hB⟩
theorem VolsV.below {w w' : World} {v : Value} {vs : List VolD} (h : VolsV w v vs) (hB : Below w.heap.size w w') : VolsV w' v vs := by
  obtain ⟨a, cap, e, h1, h2, h3⟩ := h
  exact ⟨a, cap, e, h1, h2, h3.below hB⟩

end Go.Proofs.YtcdiengbmjkglaaGreat

namespace Go.Proofs.YtcdiengbmjkglaaGreat
open Go.Joins Go.ChangeShapes Go.WideShapes Go.RowKit Go.Deep

theorem choose_list {α : Type} (d : α) (len : Nat) (P : Nat → α → Prop) (h : ∀ i, i < len → ∃ x, P i x) : ∃ xs : List α, xs.length = len ∧ ∀ i, i < len → P i (xs.getD i d) := by
  induction len with
  | zero => exact ⟨[], rfl, fun i hi => by omega⟩
  | succ n ih =>
    obtain ⟨xs, hl, hx⟩ := ih (fun i hi => h i (by omega))
    obtain ⟨x, hxn⟩ := h n (by omega)
    refine ⟨xs ++ [x], by simp [hl], fun i hi => ?_⟩
    by_cases e : i = n
    · subst e
      rw [List.getD, List.getElem?_append_right (by omega), hl]
      simpa using hxn
    · have := hx i (by omega)
      rw [List.getD, List.getElem?_append_left (by omega)]
      exact this

theorem addr_plain {w : World} {a : Addr} {v : Value} (h : w.cell? (a.add 0) = some v) : ∃ b off, a = ⟨b, off, none⟩ := by
  obtain ⟨b, off, spot⟩ := a
  cases spot with
  | none => exact ⟨b, off, rfl⟩
  | some s =>
    exfalso
    have e : (⟨b, off, some s⟩ : Addr).add 0 = ⟨b, off, some s⟩ := rfl
    rw [e] at h
    unfold World.cell? at h
    split at h
    · simp at h
    · cases h
theorem add_plain (b off k : Nat) : (⟨b, off, none⟩ : Addr).add k = ⟨b, off + k, none⟩ := by
  unfold Addr.add
  by_cases e : k = 0
  · subst e; rfl
  · rw [if_neg e]

section
variable {H : Type} {enc : TypeId × Value → H} {P : Program} {w : World} {base : Nat} {spare : Nat → Bool} {held : Bool}
/-- A SLICE OF STRUCTS, OPENED TO ITS CELLS. -/
theorem row_cells {t e : TypeId} {fs : Array Field} {fuel : Nat} {v : Value} {x : DataW H × List MemPlace} (ht : P.underlying t = some (.slice e)) (he : P.underlying e = some (.struct fs))
    (hone : oneCellFields P fs = true) (hC : P.cellsOf e = fs.size) (h0 : 0 < fs.size) (h : DataW.trod enc P w base spare held fuel t [v] = some x) :
    ∃ (a : Option Addr) (len cap : Nat), v = .slice a len cap ∧ len ≤ cap ∧ cap ≤ maxLen ∧ ∀ i, i < len → ∃ b off, a = some ⟨b, off, none⟩ ∧ ∀ (j : Nat) (f : Field), fs[j]? = some f → ∃ (u : Value) (y : DataW H × List MemPlace) (n : Nat), w.cell? ⟨b, off + (i * fs.size + j), none⟩ = some u ∧ DataW.trod enc P w base spare held n f.type [u] = some y := by
  rcases open_slice ht h with ⟨h0, _⟩ | ⟨a, len, cap, m, n, D, Pl, hcs, _, hl, hm, hmm, _, hi⟩
  · injection h0 with h0
    exact ⟨none, 0, 0, h0, Nat.le_refl _, by simp [maxLen], fun i hi => by omega⟩
  · injection hcs with hcs
    have key : ∀ i, i < len → ∀ (j : Nat) (f : Field), fs[j]? = some f → ∃ (u : Value) (y : DataW H × List MemPlace) (n : Nat), w.cell? (a.add (i * fs.size + j)) = some u ∧ DataW.trod enc P w base spare held n f.type [u] = some y := by
      intro i hil j f hj
      have him : i < m := by rw [hmm]; split <;> omega
      obtain ⟨cs', hc, ht'⟩ := hi i him
      rw [hC] at hc
      obtain ⟨ys, n', _, _, _, hyl, hf⟩ := DataW.trod_struct he ht'
      obtain ⟨_, hcl, hat⟩ := World.cells?_some hc
      obtain ⟨ho, hk⟩ := hone_of hone j f hj
      have hjl : j < fs.size := (Array.getElem?_eq_some_iff.1 hj).1
      have hv : cs'[j]? = some (cs'[j]'(by omega)) := List.getElem?_eq_getElem (by omega)
      have h1 := hf j f hj
      have h2 : (cs'.drop j).take 1 = [cs'[j]'(by omega)] := by
        rw [List.drop_eq_getElem_cons (by omega)]
        rfl
      rw [ho, hk, h2] at h1
      have hys : ys[j]? = some (ys[j]'(by omega)) := List.getElem?_eq_getElem (by omega)
      refine ⟨_, _, n', ?_, h1.trans hys⟩
      rw [← Go.Deep.add_add, hat j hjl, hv]
    refine ⟨some a, len, cap, hcs, hl, hm, fun i hil => ?_⟩
    obtain ⟨u, y, n', hc0, _⟩ := key 0 (by omega) 0 (fs[0]'h0) (Array.getElem?_eq_getElem h0)
    rw [Nat.zero_mul, Nat.zero_add] at hc0
    obtain ⟨b, off, rfl⟩ := addr_plain hc0
    refine ⟨b, off, rfl, fun j f hj => ?_⟩
    have := key i hil j f hj
    rw [add_plain] at this
    exact this
end

end Go.Proofs.YtcdiengbmjkglaaGreat

namespace Go.Proofs.YtcdiengbmjkglaaGreat
open Go.Joins Go.ChangeShapes Go.WideShapes Go.RowKit Go.Deep

/-- PLACES THAT CAME IN. -/
theorem in_places {H : Type} {enc : TypeId × Value → H} {w : World} {base : Nat} {spare : Nat → Bool} {held : Bool} {fuel : Nat} {v : Value} {x : DataW H × List MemPlace}
    (h : DataW.trod enc Tryz.prog w base spare held fuel 23 [v] = some x) : ∃ ps, PlacesV w v ps := by
  obtain ⟨a, len, cap, rfl, hl, hm, hi⟩ := row_cells Tryz.underlying23 Tryz.underlying107 (by kernel_rfl) (by kernel_rfl) (by decide) h
  obtain ⟨ps, hpl, hps⟩ := choose_list pl0 len (fun i p => ∃ b off, a = some ⟨b, off, none⟩ ∧ w.cell? ⟨b, off + i * 2, none⟩ = some (.int .i64 p.1) ∧ w.cell? ⟨b, off + i * 2 + 1, none⟩ = some (.int .i64 p.2)) (fun i hil => by
    obtain ⟨b, off, rfl, hf⟩ := hi i hil
    obtain ⟨u0, y0, n0, c0, t0⟩ := hf 0 _ rfl
    obtain ⟨u1, y1, n1, c1, t1⟩ := hf 1 _ rfl
    obtain ⟨z0, e0, _⟩ := DataW.trod_int Tryz.underlying3 t0
    obtain ⟨z1, e1, _⟩ := DataW.trod_int Tryz.underlying3 t1
    injection e0 with e0
    injection e1 with e1
    subst e0
    subst e1
    exact ⟨(z0, z1), b, off, rfl, by simpa using c0, by simpa [Nat.add_assoc] using c1⟩)
  subst hpl
  refine ⟨ps, a, cap, rfl, hl, hm, ?_⟩
  by_cases h0 : ps = []
  · exact .inl h0
  · have hp : 0 < ps.length := List.length_pos_iff.2 h0
    obtain ⟨b, off, rfl, _⟩ := hps 0 hp
    refine .inr ⟨b, off, rfl, fun j hj => ?_⟩
    obtain ⟨b', off', e, h1, h2⟩ := hps j hj
    injection e with e
    injection e with e1 e2
    subst e1
    subst e2
    exact ⟨h1, h2⟩

set_option maxRecDepth 100000 in
/-- A POINTER THAT CAME IN. -/
theorem in_ptr {H : Type} {enc : TypeId × Value → H} {w : World} {base : Nat} {spare : Nat → Bool} {held : Bool} {r : Reach} {b0 : Nat} {v : Value} {d : DataW H} {p : List MemPlace}
    (hv : Value.okWide Tryz.prog w r b0 25 v) (h : DataW.Trod enc Tryz.prog w base spare held 25 v d p) : ∃ (p : PtrD) (u : Value), v = .agg #[.int .i64 p.size, .int .i64 p.sum, u] ∧ PlacesV w u p.places := by
  obtain ⟨v0, v1, v2, y0, y1, y2, n, rfl, _, _, t0, t1, t2⟩ := open_agg3 Tryz.underlying25 (by kernel_rfl) (by kernel_rfl) hv h
  obtain ⟨z0, e0, _⟩ := DataW.trod_int Tryz.underlying3 t0
  obtain ⟨z1, e1, _⟩ := DataW.trod_int Tryz.underlying3 t1
  obtain ⟨ps, hp⟩ := in_places t2
  injection e0 with e0
  injection e1 with e1
  subst e0
  subst e1
  exact ⟨⟨z0, z1, ps⟩, v2, rfl, hp⟩
end Go.Proofs.YtcdiengbmjkglaaGreat

/- What the proofs of all laws share: the closed facts of the program, and how a slice of bytes that came in lies in memory. Conditions: none. Pointers, volumes and roots as plain data, when they are ok, and how they lie in memory. Conditions: none. -/
import Derived.Test.YtceielkcplcccaaGreatDoorRows
import Derived.WalkKit
import Derived.ProofKit
import Derived.OpenShut
import Derived.ShutString
import Derived.ChangeOld
import Derived.Below
import Derived.Lib.Hide
namespace Go.Proofs.YtceielkcplcccaaGreatDoor
open Go.ChangeShapes Go.WideShapes Go.ChangeAt Go.RowKit

theorem own : ownKnob Tryz.prog.godebug = none := by kernel_rfl
theorem laidOut : laidOutB Tryz.prog = true := by kernel_rfl

/-- A SLICE OF BYTES THAT CAME IN: it is nil; or it leads to a row of 'cap' cells, the bytes 'zs' (the first 'len' are its elements, the rest its spare room). -/
def IsBytes (w : World) (a : Option Addr) (len cap : Nat) (zs : List Int) : Prop :=
  (a = none ∧ len = 0 ∧ cap = 0 ∧ zs = []) ∨
  ∃ x, a = some x ∧ len ≤ cap ∧ cap ≤ maxLen ∧ zs.length = cap ∧ (∀ i, i < zs.length → w.cell? (x.add i) = some (.int .u8 (zs.getD i 0))) ∧ ∀ n ∈ zs, (Lit.int .u8 n).wf = true

end Go.Proofs.YtceielkcplcccaaGreatDoor

namespace Go.Proofs.YtceielkcplcccaaGreatDoor
open Go.RowKit

/-- A TRUTH VALUE of a statement. -/
noncomputable def tt (P : Prop) : Bool := @decide P (Classical.propDecidable P)
theorem tt_true {P : Prop} (h : P) : tt P = true := by unfold tt; exact @decide_eq_true P (Classical.propDecidable P) h
theorem tt_false {P : Prop} (h : ¬P) : tt P = false := by unfold tt; exact @decide_eq_false P (Classical.propDecidable P) h
theorem tt_iff (P : Prop) : tt P = true ↔ P := by
  unfold tt; exact @decide_eq_true_iff P (Classical.propDecidable P)
theorem tt_congr {P Q : Prop} (h : P ↔ Q) : tt P = tt Q := by rw [propext h]
theorem ret_bool' {a b : Bool} (h : a = b) : Ending.returned (.bool a) = .returned (.bool b) := by rw [h]

abbrev PlD := Int × Int
structure PtrD where
  size : Int
  sum : Int
  places : List PlD
structure VolD where
  name : ByteArray
  blocks : List PtrD
structure RootD where
  txg : Int
  vols : List VolD

def pl0 : PlD := (0, 0)
def ptr0 : PtrD := ⟨0, 0, []⟩
def vol0 : VolD := ⟨ByteArray.empty, []⟩

/-- PLACES of a pool of n disks, on disks of their own. -/
def PlacesOk (n : Int) (ps : List PlD) : Prop :=
  ∀ j, j < ps.length → (0 ≤ (ps.getD j pl0).1 ∧ (ps.getD j pl0).1 ≤ n - 1 ∧ 0 ≤ (ps.getD j pl0).2 ∧ (ps.getD j pl0).2 ≤ 11) ∧ ∀ i, i < j → (ps.getD i pl0).1 ≠ (ps.getD j pl0).1
def Pool (n : Int) : Prop := 3 ≤ n ∧ n ≤ 4
def Nothing (p : PtrD) : Prop := p.size = 0 ∧ p.sum = 0 ∧ p.places = []
def Told (n : Int) (p : PtrD) : Prop :=
  1 ≤ p.size ∧ p.size ≤ 3 * min 3 (n - 1) ∧ 0 ≤ p.sum ∧ p.sum ≤ 1000000000 ∧ (p.places.length : Int) = (p.size + 2) / 3 + 1 ∧ PlacesOk n p.places
/-- A POINTER IS OK in a pool of n disks. -/
def PtrFine (n : Int) (p : PtrD) : Prop := Nothing p ∨ Told n p
def PtrOkP (n : Int) (p : PtrD) : Prop := Pool n ∧ PtrFine n p

/-- PLACES THAT LIE BEHIND AN ADDRESS. -/
def PlacesAt (w : World) (a : Option Addr) (ps : List PlD) : Prop :=
  ps = [] ∨ ∃ b off, a = some ⟨b, off, none⟩ ∧ ∀ j, j < ps.length → w.cell? ⟨b, off + j * 2, none⟩ = some (.int .i64 (ps.getD j pl0).1) ∧ w.cell? ⟨b, off + j * 2 + 1, none⟩ = some (.int .i64 (ps.getD j pl0).2)
/-- A SLICE OF PLACES. -/
def PlacesV (w : World) (v : Value) (ps : List PlD) : Prop := ∃ a cap, v = .slice a ps.length cap ∧ ps.length ≤ cap ∧ cap ≤ maxLen ∧ PlacesAt w a ps
/-- POINTERS THAT LIE BEHIND AN ADDRESS. -/
def PtrsAt (w : World) (a : Option Addr) (ps : List PtrD) : Prop :=
  ps = [] ∨ ∃ b off, a = some ⟨b, off, none⟩ ∧ ∀ j, j < ps.length → w.cell? ⟨b, off + j * 3, none⟩ = some (.int .i64 (ps.getD j ptr0).size) ∧ w.cell? ⟨b, off + j * 3 + 1, none⟩ = some (.int .i64 (ps.getD j ptr0).sum) ∧
    ∃ v, w.cell? ⟨b, off + j * 3 + 2, none⟩ = some v ∧ PlacesV w v (ps.getD j ptr0).places
def PtrsV (w : World) (v : Value) (ps : List PtrD) : Prop := ∃ a cap, v = .slice a ps.length cap ∧ ps.length ≤ cap ∧ cap ≤ maxLen ∧ PtrsAt w a ps
/-- VOLUMES THAT LIE BEHIND AN ADDRESS. -/
def VolsAt (w : World) (a : Option Addr) (vs : List VolD) : Prop :=
  vs = [] ∨ ∃ b off, a = some ⟨b, off, none⟩ ∧ ∀ j, j < vs.length → w.cell? ⟨b, off + j * 2, none⟩ = some (.string (vs.getD j vol0).name) ∧
    ∃ v, w.cell? ⟨b, off + j * 2 + 1, none⟩ = some v ∧ PtrsV w v (vs.getD j vol0).blocks
def VolsV (w : World) (v : Value) (vs : List VolD) : Prop := ∃ a cap, v = .slice a vs.length cap ∧ vs.length ≤ cap ∧ cap ≤ maxLen ∧ VolsAt w a vs

theorem cell_below {w w' : World} {b o : Nat} {v : Value} (hB : Below w.heap.size w w') (h : w.cell? ⟨b, o, none⟩ = some v) : w'.cell? ⟨b, o, none⟩ = some v :=
  (hB.cell (p := ⟨b, o, none⟩) (World.block_lt_of_cell? w _ h)).trans h
theorem PlacesAt.below {w w' : World} {a : Option Addr} {ps : List PlD} (h : PlacesAt w a ps) (hB : Below w.heap.size w w') : PlacesAt w' a ps := by
  rcases h with h | ⟨b, off, e, hc⟩
  · exact .inl h
  · exact .inr ⟨b, off, e, fun j hj => ⟨cell_below hB (hc j hj).1, cell_below hB (hc j hj).2⟩⟩
theorem PlacesV.below {w w' : World} {v : Value} {ps : List PlD} (h : PlacesV w v ps) (hB : Below w.heap.size w w') : PlacesV w' v ps := by
  obtain ⟨a, cap, e, h1, h2, h3⟩ := h
  exact ⟨a, cap, e, h1, h2, h3.below hB⟩
theorem PtrsAt.below {w w' : World} {a : Option Addr} {ps : List PtrD} (h : PtrsAt w a ps) (hB : Below w.heap.size w w') : PtrsAt w' a ps := by
  rcases h with h | ⟨b, off, e, hc⟩
  · exact .inl h
  · refine .inr ⟨b, off, e, fun j hj => ?_⟩
    obtain ⟨h1, h2, v, h3, h4⟩ := hc j hj
    exact ⟨cell_below hB h1, cell_below hB h2, v, cell_below hB h3, h4.below hB⟩
theorem PtrsV.below {w w' : World} {v : Value} {ps : List PtrD} (h : PtrsV w v ps) (hB : Below w.heap.size w w') : PtrsV w' v ps := by
  obtain ⟨a, cap, e, h1, h2, h3⟩ := h
  exact ⟨a, cap, e, h1, h2, h3.below hB⟩
theorem VolsAt.below {w w' : World} {a : Option Addr} {vs : List VolD} (h : VolsAt w a vs) (hB : Below w.heap.size w w') : VolsAt w' a vs := by
  rcases h with h | ⟨b, off, e, hc⟩
  · exact .inl h
  · refine .inr ⟨b, off, e, fun j hj => ?_⟩
    obtain ⟨h1, v, h3, h4⟩ := hc j hj
    exact ⟨cell_below hB h1, v, cell_below hB h3, h4.below hB⟩
theorem VolsV.below {w w' : World} {v : Value} {vs : List VolD} (h : VolsV w v vs) (hB : Below w.heap.size w w') : VolsV w' v vs := by
  obtain ⟨a, cap, e, h1, h2, h3⟩ := h
  exact ⟨a, cap, e, h1, h2, h3.below hB⟩

end Go.Proofs.YtceielkcplcccaaGreatDoor

/- The exact laws' own helpers for texts: sizes and comparisons. Conditions: none but the row's own bound on sizes. The exact laws' own helpers for texts: copies. Conditions: none but the row's own bound on sizes. Arguments that are writes or disks, opened to plain data. Conditions: none but the row's own bound on sizes. The exact laws' own helpers for disks: sizes and comparisons. Conditions: none but the row's own bound on sizes. The exact laws' own copies of writes and disks: they own all their memory. Conditions: sizes of at most 2^20. -/
import Derived.Test.YtifgoanicbaohaaPDGT1
import Derived.Test.YtifgoanicbaohaaPDG0
import Derived.Test.YtifgoanicbaohaaPDRG
namespace Go.Proofs.Ytifgoanicbaohaa
open Go.RowKit Go.Sort

/-- LITTLE: so many at most, at every level. -/
def TxSmall (xs : List ByteArray) : Prop := xs.length ≤ 1048576 ∧ ∀ j, j < xs.length → (xs.getD j ByteArray.empty).size ≤ 1048576
def SzIf (P : Prop) (left : Nat) (w : World) (e : Ending) (w' : World) : Prop := (e = .returned (.int .i64 (-1)) ∨ ∃ r : Nat, e = .returned (.int .i64 (r : Int)) ∧ r ≤ left ∧ P) ∧ Below w.heap.size w w'

end Go.Proofs.Ytifgoanicbaohaa

namespace Go.Proofs.Ytifgoanicbaohaa
open Go.RowKit Go.Sort

/-- WHAT HAS BEEN WRITTEN SO FAR: the first m cells of a list. -/
def DoneTo (zs : List Value) (m : Nat) (ys : List Value) : Prop := ys.length = zs.length ∧ ∀ i, i < m → ys[i]? = zs[i]?
theorem DoneTo.all {zs ys : List Value} {m : Nat} (h : DoneTo zs m ys) (hm : zs.length ≤ m) : ys = zs := by
  refine List.ext_getElem? fun i => ?_
  by_cases hi : i < m
  · exact h.2 i hi
  · rw [List.getElem?_eq_none (by have := h.1; omega), List.getElem?_eq_none (by omega)]
theorem DoneTo.next {zs ys : List Value} {m : Nat} {u : Value} (h : DoneTo zs m ys) (hu : zs[m]? = some u) : DoneTo zs (m + 1) (ys.set m u) := by
  have hm : m < zs.length := (List.getElem?_eq_some_iff.1 hu).1
  refine ⟨by rw [List.length_set]; exact h.1, fun i hi => ?_⟩
  by_cases e : i = m
  · subst e; rw [List.getElem?_set_self (by rw [h.1]; exact hm), hu]
  · rw [List.getElem?_set_ne (by omega)]; exact h.2 i (by omega)

theorem infoTx : (Try.prog.info? 9).map (fun i => (i.zero, i.size, i.bytes)) = some (some (.string ByteArray.empty), 1, 16) := by kernel_rfl
/-- Blocks that were there before. -/
theorem ownBlock_lt {w : World} {base K : Nat} {e : TypeId} {v : Value} {n : Nat} {xs : List Value} (h : w.ownsRow base e K v n xs) (i : Nat) (hi : v.ownBlock = some i) : base ≤ i ∧ i < w.heap.size := h.lt i hi

end Go.Proofs.Ytifgoanicbaohaa

namespace Go.Proofs.Ytifgoanicbaohaa
open Go.Joins Go.ChangeShapes Go.WideShapes Go.RowKit Go.Deep


section
variable {H : Type} {enc : TypeId × Value → H} {w : World} {base : Nat} {spare : Nat → Bool} {held : Bool} {fuel : Nat} {v : Value} {x : DataW H × List MemPlace}
theorem in_bools (h : DataW.trod enc Try.prog w base spare held fuel 24 [v] = some x) : ∃ xs, BoV w v xs := by
  obtain ⟨a, len, cap, rfl, hl, hm, hi⟩ := row_one Try.underlying24 (by kernel_rfl) h
  obtain ⟨ps, hpl, hps⟩ := choose_list false len (fun i p => ∃ b off, a = some ⟨b, off, none⟩ ∧ w.cell? ⟨b, off + i, none⟩ = some (.bool p)) (fun i hil => by
    obtain ⟨b, off, rfl, u, y, n, c, t⟩ := hi i hil
    obtain ⟨z0, e0, _⟩ := DataW.trod_bool Try.underlying4 t
    injection e0 with e0
    subst e0
    exact ⟨z0, b, off, rfl, c⟩)
  subst hpl
  refine ⟨ps, a, cap, rfl, hl, hm, ?_⟩
  by_cases h0 : ps = []
  · exact .inl h0
  · have hp : 0 < ps.length := List.length_pos_iff.2 h0
    obtain ⟨b, off, rfl, _⟩ := hps 0 hp
    refine .inr ⟨b, off, rfl, fun j hj => ?_⟩
    obtain ⟨b', off', e, h1⟩ := hps j hj
    injection e with e
    injection e with e1 e2
    subst e1
    subst e2
    exact h1
end

/-- SIZES of what came in. -/
def DiskBd (d : DiskD) : Prop := (∀ j, j < d.slots.length → (d.slots.getD j ByteArray.empty).size ≤ maxLen) ∧ (∀ j, j < d.rings.length → (d.rings.getD j ByteArray.empty).size ≤ maxLen) ∧ ∀ j, j < d.wait.length → (d.wait.getD j put0).text.size ≤ maxLen

theorem array3' {α : Type} {cs : Array α} (h : cs.size = 3) : ∃ a b c, cs = #[a, b, c] := ⟨cs[0], cs[1], cs[2], by apply Array.ext' ; rcases cs with ⟨l⟩; match l, h with | [a, b, c], _ => rfl⟩
theorem array5' {α : Type} {cs : Array α} (h : cs.size = 5) : ∃ a b c d e, cs = #[a, b, c, d, e] := ⟨cs[0], cs[1], cs[2], cs[3], cs[4], by apply Array.ext' ; rcases cs with ⟨l⟩; match l, h with | [a, b, c, d, e], _ => rfl⟩

end Go.Proofs.Ytifgoanicbaohaa

namespace Go.Proofs.Ytifgoanicbaohaa
open Go.RowKit Go.Sort

def PuSmall (xs : List PutD) : Prop := xs.length ≤ 1048576 ∧ ∀ j, j < xs.length → (xs.getD j put0).text.size ≤ 1048576
def DiskSmall (d : DiskD) : Prop := TxSmall d.slots ∧ TxSmall d.rings ∧ d.spoilt.length ≤ 1048576 ∧ PuSmall d.wait
end Go.Proofs.Ytifgoanicbaohaa

namespace Go.Proofs.Ytifgoanicbaohaa
open Go.RowKit Go.Sort

theorem infoBo : (Try.prog.info? 4).map (fun i => (i.zero, i.size, i.bytes)) = some (some (.bool false), 1, 1) := by kernel_rfl
theorem infoPu : (Try.prog.info? 33).map (fun i => (i.zero, i.size, i.bytes)) = some (some (.agg #[.bool false, .int .i64 0, .string ByteArray.empty]), 3, 32) := by kernel_rfl

end Go.Proofs.Ytifgoanicbaohaa

/- A byte of a text, nought behind its end. Conditions: none. The sum of a text as plain data. Conditions: none. Contracts of chapter 1: a byte of a text, the iterator over bytes, and SumOf of the program. Conditions: none but the sizes that the rows themselves give. Plain facts on texts and their bytes. Conditions: as each one says. -/
import Derived.RangeFuncNested
import Derived.RangeFuncBound
import Derived.RangeFuncCalls
import Derived.RangeFuncLeaves
import Derived.RangeFuncWrites
import Derived.RangeFuncBox
import Derived.Shelf.Abstract
import Derived.Shelf.RegionOpen
import Derived.WalkKit
import Derived.OwnWalkIn
import Derived.TacticsInMore
import Derived.LoopNIn
import Derived.LoopIn
import Derived.Lib.Hide
import Derived.Test.YtifgoanicbaohaaRows
import Derived.Laws.BytesArg
import Derived.Laws.BitsAllLaws
namespace Go.Proofs.Ytifgoanicbaohaa
open Go.RowKit Go.Shelf

/-- THE BYTE AT A PLACE OF A TEXT, nought behind its end. -/
def byteAt (s : ByteArray) (i : Nat) : Int := ((s.data.toList[i]?.getD 0).toNat : Int)

theorem byteAt_bd (s : ByteArray) (i : Nat) : 0 ≤ byteAt s i ∧ byteAt s i ≤ 255 := by
  unfold byteAt
  have := (s.data.toList[i]?.getD 0).toNat_lt
  omega

theorem byteAt_lt {s : ByteArray} {i : Nat} (h : i < s.size) : byteAt s i = (s[i].toNat : Int) := by
  unfold byteAt
  have h' : i < s.data.toList.length := by simpa using h
  rw [List.getElem?_eq_getElem h']
  rfl

theorem byteAt_ge {s : ByteArray} {i : Nat} (h : s.size ≤ i) : byteAt s i = 0 := by
  unfold byteAt
  have h' : s.data.toList.length ≤ i := by simpa using h
  rw [List.getElem?_eq_none h']
  rfl

theorem ret_int {k : IntKind} {a b : Int} (h : a = b) : Ending.returned (.int k a) = .returned (.int k b) := by rw [h]


end Go.Proofs.Ytifgoanicbaohaa

namespace Go.Proofs.Ytifgoanicbaohaa
open Go.RowKit Go.Shelf

/-- WHAT THE ITERATOR HANDS OUT: a place and its byte. -/
abbrev Oct := { x : Nat × Int // x.1 < 140737488355328 ∧ 0 ≤ x.2 ∧ x.2 ≤ 255 }
def octVals (x : Oct) : Array Value := #[.int .i64 (x.1.1 : Int), .int .u8 x.1.2]
def oct (s : ByteArray) (k : Nat) : Oct := if h : k < 140737488355328 then ⟨(k, byteAt s k), h, (byteAt_bd s k).1, (byteAt_bd s k).2⟩ else ⟨(0, 0), by omega, by omega, by omega⟩
theorem oct_1 (s : ByteArray) {k : Nat} (h : k < 140737488355328) : (oct s k).1 = (k, byteAt s k) := by unfold oct; rw [dif_pos h]
def octs (s : ByteArray) (k : Nat) : List Oct := (List.range k).map (oct s)
theorem octs_succ (s : ByteArray) (k : Nat) : octs s (k + 1) = octs s k ++ [oct s k] := by simp [octs, List.range_succ]
theorem octs_length (s : ByteArray) (k : Nat) : (octs s k).length = k := by simp [octs]

/-- WHAT HAS COME, summed. -/
def sumI (l : List Oct) : Int := (l.map fun x => x.1.2 * (65536 + (x.1.1 : Int) + 1)).sum
theorem sumI_snoc (l : List Oct) (x : Oct) : sumI (l ++ [x]) = sumI l + x.1.2 * (65536 + (x.1.1 : Int) + 1) := by simp [sumI]
theorem term_bd (x : Oct) : 0 ≤ x.1.2 * (65536 + (x.1.1 : Int) + 1) ∧ x.1.2 * (65536 + (x.1.1 : Int) + 1) ≤ 36028797018963968 := by
  obtain ⟨⟨k, c⟩, h1, h2, h3⟩ := x
  simp only at h1 h2 h3 ⊢
  have a : 0 ≤ (65536 + (k : Int) + 1) := by omega
  refine ⟨Int.mul_nonneg h2 a, ?_⟩
  calc c * (65536 + (k : Int) + 1) ≤ 255 * (65536 + (k : Int) + 1) := Int.mul_le_mul_of_nonneg_right h3 a
    _ ≤ 36028797018963968 := by omega
theorem sumI_bd (l : List Oct) : 0 ≤ sumI l ∧ sumI l ≤ l.length * 36028797018963968 := by
  induction l with
  | nil => simp [sumI]
  | cons x l ih =>
    have := term_bd x
    have e : sumI (x :: l) = x.1.2 * (65536 + (x.1.1 : Int) + 1) + sumI l := by simp [sumI]
    rw [e]
    simp only [List.length_cons]
    omega

/-- THE SUM OF A TEXT's FIRST k BYTES. -/
def sumTo (s : ByteArray) : Nat → Int
  | 0 => 0
  | k + 1 => sumTo s k + byteAt s k * (65536 + (k : Int) + 1)
theorem sumI_octs (s : ByteArray) (k : Nat) (h : k ≤ 140737488355328) : sumI (octs s k) = sumTo s k := by
  induction k with
  | zero => simp [octs, sumI, sumTo]
  | succ k ih => rw [octs_succ, sumI_snoc, ih (by omega), oct_1 s (by omega)]; rfl
theorem sumTo_bd (s : ByteArray) (k : Nat) (h : k ≤ 9) : 0 ≤ sumTo s k ∧ sumTo s k ≤ k * 36028797018963968 := by
  have := sumI_bd (octs s k)
  rw [octs_length, sumI_octs s k (by omega)] at this
  exact this
/-- **SumOf**, as the document has it: of the first nine bytes. -/
def sumOf (s : ByteArray) : Int := sumTo s (min s.size 9)

end Go.Proofs.Ytifgoanicbaohaa

namespace Go.Proofs.Ytifgoanicbaohaa
open Go.RowKit Go.Shelf
attribute [local go_sem] Oper.semAt_some

/-- WHAT A ROUND MUST KEEP: the box of the text. -/
def KeepsBox (B : Nat) (W W' : World) : Prop := W'.cell? ⟨B, 0, none⟩ = W.cell? ⟨B, 0, none⟩
theorem KeepsBox.tr {B : Nat} {X Y Z : World} (h : KeepsBox B X Y) (k : KeepsBox B Y Z) : KeepsBox B X Z := k.trans h
theorem KeepsBox.bl {B : Nat} {w : World} (hB : B < w.heap.size) (W : World) (l : Nat) (o o' : Obj) (hl : w.heap.size ≤ l) (_ : W.heap[l]? = some o) (_ : o.isCells = false) (_ : o.isWalk = false) : KeepsBox B W (W.putObj l o') :=
  World.cell?_of_block (World.putObj_heap_other (by simp; omega))

end Go.Proofs.Ytifgoanicbaohaa

namespace Go.Proofs.Ytifgoanicbaohaa
open Go.RowKit

/-- THE BYTES OF A TEXT, as numbers. -/
def nums (s : ByteArray) : List Int := s.data.toList.map fun b => (b.toNat : Int)
theorem nums_length (s : ByteArray) : (nums s).length = s.size := by simp [nums]
theorem nums_get (s : ByteArray) (i : Nat) : (nums s).getD i 0 = byteAt s i := by
  unfold nums byteAt
  rw [List.getD, List.getElem?_map]
  cases s.data.toList[i]? <;> rfl
/-- A text made of numbers that are bytes. -/
theorem byteAt_ofNums (xs : List Int) (h : ∀ i, 0 ≤ xs.getD i 0 ∧ xs.getD i 0 ≤ 255) (i : Nat) : byteAt (strOfNums xs) i = xs.getD i 0 := by
  unfold byteAt
  rw [strOfNums_data, List.getElem?_map]
  have hi := h i
  rw [List.getD] at hi ⊢
  cases e : xs[i]? with
  | none => rfl
  | some x =>
    rw [e] at hi
    simp only [Option.map_some, Option.getD_some] at hi ⊢
    rw [UInt8.toNat_ofNat']
    omega
/-- Texts are the same, if their sizes and bytes are. -/
theorem text_ext {s t : ByteArray} (h : s.size = t.size) (hb : ∀ i, i < s.size → byteAt s i = byteAt t i) : s = t := by
  have : s.data.toList = t.data.toList := by
    apply List.ext_getElem (by simpa using h)
    intro i h1 h2
    have h1' : i < s.size := by simpa using h1
    have := hb i h1'
    unfold byteAt at this
    rw [List.getElem?_eq_getElem h1, List.getElem?_eq_getElem h2] at this
    simp only [Option.getD_some] at this
    exact UInt8.toNat_inj.1 (by omega)
  obtain ⟨⟨a⟩⟩ := s
  obtain ⟨⟨b⟩⟩ := t
  simp at this
  rw [this]

/-- THE TEXT WITH THE NUMBER x AT PLACE k. -/
def withAt (s : ByteArray) (k : Nat) (x : Int) : ByteArray := strOfNums ((nums s).set k x)
theorem withAt_size (s : ByteArray) (k : Nat) (x : Int) : (withAt s k x).size = s.size := by unfold withAt; rw [strOfNums_size, List.length_set, nums_length]
theorem withAt_get (s : ByteArray) (k : Nat) (x : Int) (hk : k < s.size) (i : Nat) : ((nums s).set k x).getD i 0 = if i = k then x else byteAt s i := by
  by_cases e : i = k
  · subst e
    rw [if_pos rfl, List.getD, List.getElem?_set_self (by rw [nums_length]; exact hk)]
    rfl
  · rw [if_neg e, List.getD, List.getElem?_set_ne (by omega), ← nums_get]
    rfl
theorem withAt_byte (s : ByteArray) (k : Nat) (x : Int) (hk : k < s.size) (hx : 0 ≤ x ∧ x ≤ 255) (i : Nat) : byteAt (withAt s k x) i = if i = k then x else byteAt s i := by
  unfold withAt
  rw [byteAt_ofNums]
  · exact withAt_get s k x hk i
  · intro j
    rw [withAt_get s k x hk j]
    split
    · exact hx
    · exact byteAt_bd s j

theorem xor8_bd (a b : Int) (ha : 0 ≤ a ∧ a ≤ 255) (hb : 0 ≤ b ∧ b ≤ 255) : 0 ≤ bits .xor .u8 a b ∧ bits .xor .u8 a b ≤ 255 := by
  rw [u8_xor a b ha.1 (by omega) hb.1 (by omega)]
  have : a.toNat ^^^ b.toNat < 2 ^ 8 := Nat.xor_lt_two_pow (by omega) (by omega)
  omega

end Go.Proofs.Ytifgoanicbaohaa

/- A byte of a text, nought behind its end. Conditions: none. The sum of a text as plain data. Conditions: none. Contracts of chapter 1: a byte of a text, the iterator over bytes, and SumOf of the program. Conditions: none but the sizes that the rows themselves give. -/
import Derived.RangeFuncNested
import Derived.RangeFuncBound
import Derived.RangeFuncCalls
import Derived.RangeFuncLeaves
import Derived.RangeFuncWrites
import Derived.RangeFuncBox
import Derived.Shelf.Abstract
import Derived.Shelf.RegionOpen
import Derived.WalkKit
import Derived.OwnWalkIn
import Derived.TacticsInMore
import Derived.LoopNIn
import Derived.LoopIn
import Derived.Lib.Hide
import Derived.Test.YtcdiengbmjkglaaGreatRows
namespace Go.Proofs.YtcdiengbmjkglaaGreat
open Go.RowKit Go.Shelf

/-- THE BYTE AT A PLACE OF A TEXT, nought behind its end. -/
def byteAt (s : ByteArray) (i : Nat) : Int := ((s.data.toList[i]?.getD 0).toNat : Int)

theorem byteAt_bd (s : ByteArray) (i : Nat) : 0 ≤ byteAt s i ∧ byteAt s i ≤ 255 := by
  unfold byteAt
  have := (s.data.toList[i]?.getD 0).toNat_lt
  omega

theorem byteAt_lt {s : ByteArray} {i : Nat} (h : i < s.size) : byteAt s i = (s[i].toNat : Int) := by
  unfold byteAt
  have h' : i < s.data.toList.length := by simpa using h
  rw [List.getElem?_eq_getElem h']
  rfl

theorem byteAt_ge {s : ByteArray} {i : Nat} (h : s.size ≤ i) : byteAt s i = 0 := by
  unfold byteAt
  have h' : s.data.toList.length ≤ i := by simpa using h
  rw [List.getElem?_eq_none h']
  rfl

theorem ret_int {k : IntKind} {a b : Int} (h : a = b) : Ending.returned (.int k a) = .returned (.int k b) := by rw [h]


end Go.Proofs.YtcdiengbmjkglaaGreat

namespace Go.Proofs.YtcdiengbmjkglaaGreat
open Go.RowKit Go.Shelf

/-- WHAT THE ITERATOR HANDS OUT: a place and its byte. -/
abbrev Oct := { x : Nat × Int // x.1 < 140737488355328 ∧ 0 ≤ x.2 ∧ x.2 ≤ 255 }
def octVals (x : Oct) : Array Value := #[.int .i64 (x.1.1 : Int), .int .u8 x.1.2]
def oct (s : ByteArray) (k : Nat) : Oct := if h : k < 140737488355328 then ⟨(k, byteAt s k), h, (byteAt_bd s k).1, (byteAt_bd s k).2⟩ else ⟨(0, 0), by omega, by omega, by omega⟩
theorem oct_1 (s : ByteArray) {k : Nat} (h : k < 140737488355328) : (oct s k).1 = (k, byteAt s k) := by unfold oct; rw [dif_pos h]
def octs (s : ByteArray) (k : Nat) : List Oct := (List.range k).map (oct s)
theorem octs_succ (s : ByteArray) (k : Nat) : octs s (k + 1) = octs s k ++ [oct s k] := by simp [octs, List.range_succ]
theorem octs_length (s : ByteArray) (k : Nat) : (octs s k).length = k := by simp [octs]

/-- WHAT HAS COME, summed. -/
def sumI (l : List Oct) : Int := (l.map fun x => x.1.2 * (65536 + (x.1.1 : Int) + 1)).sum
theorem sumI_snoc (l : List Oct) (x : Oct) : sumI (l ++ [x]) = sumI l + x.1.2 * (65536 + (x.1.1 : Int) + 1) := by simp [sumI]
theorem term_bd (x : Oct) : 0 ≤ x.1.2 * (65536 + (x.1.1 : Int) + 1) ∧ x.1.2 * (65536 + (x.1.1 : Int) + 1) ≤ 36028797018963968 := by
  obtain ⟨⟨k, c⟩, h1, h2, h3⟩ := x
  simp only at h1 h2 h3 ⊢
  have a : 0 ≤ (65536 + (k : Int) + 1) := by omega
  refine ⟨Int.mul_nonneg h2 a, ?_⟩
  calc c * (65536 + (k : Int) + 1) ≤ 255 * (65536 + (k : Int) + 1) := Int.mul_le_mul_of_nonneg_right h3 a
    _ ≤ 36028797018963968 := by omega
theorem sumI_bd (l : List Oct) : 0 ≤ sumI l ∧ sumI l ≤ l.length * 36028797018963968 := by
  induction l with
  | nil => simp [sumI]
  | cons x l ih =>
    have := term_bd x
    have e : sumI (x :: l) = x.1.2 * (65536 + (x.1.1 : Int) + 1) + sumI l := by simp [sumI]
    rw [e]
    simp only [List.length_cons]
    omega

/-- THE SUM OF A TEXT's FIRST k BYTES. -/
def sumTo (s : ByteArray) : Nat → Int
  | 0 => 0
  | k + 1 => sumTo s k + byteAt s k * (65536 + (k : Int) + 1)
theorem sumI_octs (s : ByteArray) (k : Nat) (h : k ≤ 140737488355328) : sumI (octs s k) = sumTo s k := by
  induction k with
  | zero => simp [octs, sumI, sumTo]
  | succ k ih => rw [octs_succ, sumI_snoc, ih (by omega), oct_1 s (by omega)]; rfl
theorem sumTo_bd (s : ByteArray) (k : Nat) (h : k ≤ 9) : 0 ≤ sumTo s k ∧ sumTo s k ≤ k * 36028797018963968 := by
  have := sumI_bd (octs s k)
  rw [octs_length, sumI_octs s k (by omega)] at this
  exact this
/-- **SumOf**, as the document has it: of the first nine bytes. -/
def sumOf (s : ByteArray) : Int := sumTo s (min s.size 9)

end Go.Proofs.YtcdiengbmjkglaaGreat

namespace Go.Proofs.YtcdiengbmjkglaaGreat
open Go.RowKit Go.Shelf
attribute [local go_sem] Oper.semAt_some

set_option maxHeartbeats 400000 in
theorem octetAt_any (s : ByteArray) (k : Nat) (w : World) :
    Calls Tryz.prog 133 #[.string s, .int .i64 (k : Int)] w fun e w' => e = .returned (.int .u8 (byteAt s k)) ∧ w = w' := by
  by_cases hk : k < s.size
  · have H := Lib.hid (byteAt_lt hk)
    go_enter Tryz.func133, Tryz.ntmps133
    go_wp2
    go_ret
    exact ⟨ret_int H.out.symm, rfl⟩
  · have H := Lib.hid (byteAt_ge (Nat.le_of_not_lt hk))
    go_enter Tryz.func133, Tryz.ntmps133
    go_wp2
    go_ret
    exact ⟨ret_int H.out.symm, rfl⟩

/-- WHAT A ROUND MUST KEEP: the box of the text. -/
def KeepsBox (B : Nat) (W W' : World) : Prop := W'.cell? ⟨B, 0, none⟩ = W.cell? ⟨B, 0, none⟩
theorem KeepsBox.tr {B : Nat} {X Y Z : World} (h : KeepsBox B X Y) (k : KeepsBox B Y Z) : KeepsBox B X Z := k.trans h
theorem KeepsBox.bl {B : Nat} {w : World} (hB : B < w.heap.size) (W : World) (l : Nat) (o o' : Obj) (hl : w.heap.size ≤ l) (_ : W.heap[l]? = some o) (_ : o.isCells = false) (_ : o.isWalk = false) : KeepsBox B W (W.putObj l o') :=
  World.cell?_of_block (World.putObj_heap_other (by simp; omega))

set_option maxRecDepth 100000 in
set_option maxHeartbeats 2000000 in
/-- **The iterator over the first m bytes of a text, noughts behind its end.** -/
theorem octets1_in (n : Nat) (hn : 2 ≤ n) (l Bs Bt m : Nat) (s : ByteArray) (hm : m < 140737488355328) (J Jx : List Oct → World → Prop)
    (hY : ∀ pre x W, J pre W → pre.length < m → YieldAt Fence.wide (n - 1) Tryz.prog l (octVals x) W fun e W' =>
      (e = .returned (.bool true) ∧ J (pre ++ [x]) W' ∧ KeepsBox Bt W W') ∨ (e = .returned (.bool false) ∧ Jx (pre ++ [x]) W'))
    (W : World) (hBs : W.cell? ⟨Bs, 0, none⟩ = some (.int .i64 m)) (hBt : W.cell? ⟨Bt, 0, none⟩ = some (.string s)) (h0 : J [] W) :
    CallsIn Fence.wide n Tryz.prog 132 #[.func (.yield l) #[] #[], .pointer (some ⟨Bs, 0, none⟩), .pointer (some ⟨Bt, 0, none⟩)] W fun e W' => (∃ v, e = .returned v) ∧
      ((∃ ys, ys = octs s m ∧ J ys W') ∨ (∃ pre, (∃ k, k ≤ m ∧ pre = octs s k) ∧ Jx pre W')) := by
  have h1 : 1 ≤ n := by omega
  refine callsIn_of_wp Tryz.func132 rfl trivial ?_ rfl
  simp only [Tryz.ntmps132, List.size_toArray, List.length_cons, List.length_nil, Nat.reduceAdd, Nat.reduceSub, Array.replicate_succ, Array.replicate_zero, List.push_toArray, List.append_toArray, List.nil_append, List.cons_append]
  gi_wp2
  gi_loopw [6] (fun i wr => ∃ k : Nat, k ≤ m ∧ i = .int .i64 k ∧ J (octs s k) wr ∧ KeepsBox Bt W wr)
    (fun i _ => m - (intOf i).toNat)
  case atStart => exact ⟨0, Nat.zero_le _, rfl, h0, rfl⟩
  case round =>
    obtain ⟨k, hk, rfl, hJs, hnx⟩ := hrel
    have hcx : wr.cell? ⟨Bt, 0, none⟩ = some (.string s) := hnx.trans hBt
    by_cases hlt : k < m
    · obtain ⟨fn, tmps, assign, body, hy, hR⟩ := hY _ (oct s k) wr hJs (by rw [octs_length]; exact hlt)
      simp only [octVals, oct_1 s (show k < 140737488355328 by omega)] at hy
      gi_wp2_with (refine ⟨trivial, ?_⟩; gi_at_call 133; refine (callsIn_wide.2 (octetAt_any s k _)).mono ?_; rintro e w' ⟨rfl, rfl⟩)
      refine hR.mono ?_
      rintro e W3 (⟨rfl, hJ3, hk3⟩ | ⟨rfl, hJx3⟩)
      · gi_wp2
        go_roundw
        case rel => exact ⟨k + 1, by omega, by simp, by rw [octs_succ]; exact hJ3, hnx.tr hk3⟩
        case measure => simp [intOf]; omega
      · gi_wp2
        refine bodyPost_ret (results_none rfl _ _ _) rfl ?_
        exact ⟨⟨_, rfl⟩, .inr ⟨_, ⟨k + 1, by omega, (octs_succ _ _).symm⟩, hJx3⟩⟩
    · obtain rfl : k = m := by omega
      gi_wp2
      go_end0
      exact ⟨⟨_, rfl⟩, .inl ⟨_, rfl, hJs⟩⟩

/-- **The iterator's contract, as a range over it wants it.** -/
theorem octets_stops (n : Nat) (hn : 2 ≤ n) (Bs Bt m : Nat) (s : ByteArray) (hm : m < 140737488355328) (w : World) (hB : Bs < w.heap.size ∧ Bt < w.heap.size)
    (hs : w.cell? ⟨Bs, 0, none⟩ = some (.int .i64 m)) (ht : w.cell? ⟨Bt, 0, none⟩ = some (.string s)) :
    SeqStopsK Fence.wide n Tryz.prog 132 #[.pointer (some ⟨Bs, 0, none⟩), .pointer (some ⟨Bt, 0, none⟩)] octVals (KeepsBox Bt) (fun ys => ys = octs s m) (fun pre => ∃ k, k ≤ m ∧ pre = octs s k) m w := fun l J Jx W hW _ _ hY h0 =>
  octets1_in n hn l Bs Bt m s hm J Jx hY W ((hW.cell (p := ⟨Bs, 0, none⟩) hB.1).trans hs) ((hW.cell (p := ⟨Bt, 0, none⟩) hB.2).trans ht) h0

set_option maxHeartbeats 1000000 in
/-- **octetsOf boxes the text, then the size; the function captures both.** -/
theorem octetsOf_any (s : ByteArray) (m : Int) (w : World) :
    Calls Tryz.prog 125 #[.string s, .int .i64 m] w fun e w' => e = .returned (.func (.func 132) #[] #[.pointer (some ⟨w.heap.size + 1, 0, none⟩), .pointer (some ⟨w.heap.size, 0, none⟩)]) ∧ (w.alloc (.cells #[.string s] 9)).alloc (.cells #[.int .i64 m] 3) = w' := by
  go_enter Tryz.func125, Tryz.ntmps125
  go_wp2
  go_ret
  exact ⟨rfl, rfl⟩

end Go.Proofs.YtcdiengbmjkglaaGreat

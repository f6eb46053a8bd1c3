/- Contracts of chapter 1: a byte of a text, the iterator over bytes, and SumOf of the program. Conditions: none but the sizes that the rows themselves give. -/
import Derived.Test.YtceielkcplcccaaGreatDoorPKH0
import Derived.RangeFuncNested
import Derived.RangeFuncBound
import Derived.RangeFuncCalls
import Derived.RangeFuncLeaves
import Derived.RangeFuncWrites
import Derived.RangeFuncBox
import Derived.Shelf.Abstract
import Derived.Shelf.RegionOpen
import Derived.WalkKit
import Derived.OwnWalkIn
import Derived.TacticsInMore
import Derived.LoopNIn
import Derived.LoopIn
import Derived.Lib.Hide
import Derived.Test.YtceielkcplcccaaGreatDoorRows
namespace Go.Proofs.YtceielkcplcccaaGreatDoor
open Go.RowKit Go.Shelf
attribute [local go_sem] Oper.semAt_some

set_option maxHeartbeats 400000 in
theorem octetAt_any (s : ByteArray) (k : Nat) (w : World) :
    Calls Tryz.prog 76 #[.string s, .int .i64 (k : Int)] w fun e w' => e = .returned (.int .u8 (byteAt s k)) ∧ w = w' := by
  by_cases hk : k < s.size
  · have H := Lib.hid (byteAt_lt hk)
    go_enter Tryz.func76, Tryz.ntmps76
    go_wp2
    go_ret
    exact ⟨ret_int H.out.symm, rfl⟩
  · have H := Lib.hid (byteAt_ge (Nat.le_of_not_lt hk))
    go_enter Tryz.func76, Tryz.ntmps76
    go_wp2
    go_ret
    exact ⟨ret_int H.out.symm, rfl⟩

/-- WHAT A ROUND MUST KEEP: the box of the text. -/
def KeepsBox (B : Nat) (W W' : World) : Prop := W'.cell? ⟨B, 0, none⟩ = W.cell? ⟨B, 0, none⟩
theorem KeepsBox.tr {B : Nat} {X Y Z : World} (h : KeepsBox B X Y) (k : KeepsBox B Y Z) : KeepsBox B X Z := k.trans h
theorem KeepsBox.bl {B : Nat} {w : World} (hB : B < w.heap.size) (W : World) (l : Nat) (o o' : Obj) (hl : w.heap.size ≤ l) (_ : W.heap[l]? = some o) (_ : o.isCells = false) (_ : o.isWalk = false) : KeepsBox B W (W.putObj l o') :=
  World.cell?_of_block (World.putObj_heap_other (by simp; omega))

set_option maxRecDepth 100000 in
set_option maxHeartbeats 2000000 in
/-- **The iterator over the first m bytes of a text, noughts behind its end.** -/
theorem octets1_in (n : Nat) (hn : 2 ≤ n) (l Bs Bt m : Nat) (s : ByteArray) (hm : m < 140737488355328) (J Jx : List Oct → World → Prop)
    (hY : ∀ pre x W, J pre W → pre.length < m → YieldAt Fence.wide (n - 1) Tryz.prog l (octVals x) W fun e W' =>
      (e = .returned (.bool true) ∧ J (pre ++ [x]) W' ∧ KeepsBox Bt W W') ∨ (e = .returned (.bool false) ∧ Jx (pre ++ [x]) W'))
    (W : World) (hBs : W.cell? ⟨Bs, 0, none⟩ = some (.int .i64 m)) (hBt : W.cell? ⟨Bt, 0, none⟩ = some (.string s)) (h0 : J [] W) :
    CallsIn Fence.wide n Tryz.prog 75 #[.func (.yield l) #[] #[], .pointer (some ⟨Bs, 0, none⟩), .pointer (some ⟨Bt, 0, none⟩)] W fun e W' => (∃ v, e = .returned v) ∧
      ((∃ ys, ys = octs s m ∧ J ys W') ∨ (∃ pre, (∃ k, k ≤ m ∧ pre = octs s k) ∧ Jx pre W')) := by
  have h1 : 1 ≤ n := by omega
  refine callsIn_of_wp Tryz.func75 rfl trivial ?_ rfl
  simp only [Tryz.ntmps75, List.size_toArray, List.length_cons, List.length_nil, Nat.reduceAdd, Nat.reduceSub, Array.replicate_succ, Array.replicate_zero, List.push_toArray, List.append_toArray, List.nil_append, List.cons_append]
  gi_wp2
  gi_loopw [6] (fun i wr => ∃ k : Nat, k ≤ m ∧ i = .int .i64 k ∧ J (octs s k) wr ∧ KeepsBox Bt W wr)
    (fun i _ => m - (intOf i).toNat)
  case atStart => exact ⟨0, Nat.zero_le _, rfl, h0, rfl⟩
  case round =>
    obtain ⟨k, hk, rfl, hJs, hnx⟩ := hrel
    have hcx : wr.cell? ⟨Bt, 0, none⟩ = some (.string s) := hnx.trans hBt
    by_cases hlt : k < m
    · obtain ⟨fn, tmps, assign, body, hy, hR⟩ := hY _ (oct s k) wr hJs (by rw [octs_length]; exact hlt)
      simp only [octVals, oct_1 s (show k < 140737488355328 by omega)] at hy
      gi_wp2_with (refine ⟨trivial, ?_⟩; gi_at_call 76; refine (callsIn_wide.2 (octetAt_any s k _)).mono ?_; rintro e w' ⟨rfl, rfl⟩)
      refine hR.mono ?_
      rintro e W3 (⟨rfl, hJ3, hk3⟩ | ⟨rfl, hJx3⟩)
      · gi_wp2
        go_roundw
        case rel => exact ⟨k + 1, by omega, by simp, by rw [octs_succ]; exact hJ3, hnx.tr hk3⟩
        case measure => simp [intOf]; omega
      · gi_wp2
        refine bodyPost_ret (results_none rfl _ _ _) rfl ?_
        exact ⟨⟨_, rfl⟩, .inr ⟨_, ⟨k + 1, by omega, (octs_succ _ _).symm⟩, hJx3⟩⟩
    · obtain rfl : k = m := by omega
      gi_wp2
      go_end0
      exact ⟨⟨_, rfl⟩, .inl ⟨_, rfl, hJs⟩⟩

/-- **The iterator's contract, as a range over it wants it.** -/
theorem octets_stops (n : Nat) (hn : 2 ≤ n) (Bs Bt m : Nat) (s : ByteArray) (hm : m < 140737488355328) (w : World) (hB : Bs < w.heap.size ∧ Bt < w.heap.size)
    (hs : w.cell? ⟨Bs, 0, none⟩ = some (.int .i64 m)) (ht : w.cell? ⟨Bt, 0, none⟩ = some (.string s)) :
    SeqStopsK Fence.wide n Tryz.prog 75 #[.pointer (some ⟨Bs, 0, none⟩), .pointer (some ⟨Bt, 0, none⟩)] octVals (KeepsBox Bt) (fun ys => ys = octs s m) (fun pre => ∃ k, k ≤ m ∧ pre = octs s k) m w := fun l J Jx W hW _ _ hY h0 =>
  octets1_in n hn l Bs Bt m s hm J Jx hY W ((hW.cell (p := ⟨Bs, 0, none⟩) hB.1).trans hs) ((hW.cell (p := ⟨Bt, 0, none⟩) hB.2).trans ht) h0

set_option maxHeartbeats 1000000 in
/-- **octetsOf boxes the text, then the size; the function captures both.** -/
theorem octetsOf_any (s : ByteArray) (m : Int) (w : World) :
    Calls Tryz.prog 53 #[.string s, .int .i64 m] w fun e w' => e = .returned (.func (.func 75) #[] #[.pointer (some ⟨w.heap.size + 1, 0, none⟩), .pointer (some ⟨w.heap.size, 0, none⟩)]) ∧ (w.alloc (.cells #[.string s] 9)).alloc (.cells #[.int .i64 m] 3) = w' := by
  go_enter Tryz.func53, Tryz.ntmps53
  go_wp2
  go_ret
  exact ⟨rfl, rfl⟩

end Go.Proofs.YtceielkcplcccaaGreatDoor

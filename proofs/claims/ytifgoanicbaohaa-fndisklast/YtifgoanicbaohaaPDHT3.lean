/- Lists with one element more. Conditions: none. The contracts of library functions at this program, each by one application of the theorem that the library has of it. Conditions: each theorem names its own. Copies of texts by the program. Conditions: none. -/
import Derived.Test.YtifgoanicbaohaaPDGT
import Derived.Shelf.LaysM
import Derived.Shelf.Strconv.Clone
import Derived.Test.YtifgoanicbaohaaProg
import Derived.Test.YtifgoanicbaohaaPDGT2
import Derived.Deep.AppendLies
namespace Go.Proofs.Ytifgoanicbaohaa
open Go.RowKit

/-- A write more at the end of a chain. -/
theorem getD_snoc_lt {α : Type} (l : List α) (x d : α) (j : Nat) (h : j < l.length) : (l ++ [x]).getD j d = l.getD j d := by
  rw [List.getD, List.getElem?_append_left h]; rfl
theorem getD_snoc_eq {α : Type} (l : List α) (x d : α) : (l ++ [x]).getD l.length d = x := by
  rw [List.getD, List.getElem?_append_right (Nat.le_refl _)]; simp
theorem get_snoc_eq {α : Type} (l : List α) (x : α) : (l ++ [x])[l.length]? = some x := by
  rw [List.getElem?_append_right (Nat.le_refl _)]; simp

end Go.Proofs.Ytifgoanicbaohaa

namespace Go.Proofs
open Go.Shelf
def Try.laysM316_ren : Go.Shelf.Ren := ⟨fun | 316 => 60 | n => n, fun | 9 => 9 | 3 => 3 | 4 => 4 | 37 => 22 | 0 => 0 | 127 => 88 | 5 => 5 | n => n, fun | n => n⟩
theorem Try.laysM316 : Go.Proofs.LaysM.n316 Try.prog Try.laysM316_ren := {
  mixed := by kernel_rfl
  f316 := Try.func60.trans (congrArg some (by kernel_rfl))
  t0 := Try.underlying0
  a0 := Try.isAgg0
  z0 := Try.sizeOf0
  v0 := Try.zeroValue0
  t3 := Try.underlying3
  a3 := Try.isAgg3
  z3 := Try.sizeOf3
  v3 := Try.zeroValue3
  t4 := Try.underlying4
  a4 := Try.isAgg4
  z4 := Try.sizeOf4
  v4 := Try.zeroValue4
  t9 := Try.underlying9
  a9 := Try.isAgg9
  z9 := Try.sizeOf9
  v9 := Try.zeroValue9
  t37 := Try.underlying22
  a37 := Try.isAgg22
  z37 := Try.sizeOf22
  v37 := Try.zeroValue22
  t127 := Try.underlying88
  a127 := Try.isAgg88
  z127 := Try.sizeOf88
  v127 := Try.zeroValue88
  t5 := Try.underlying5
  a5 := Try.isAgg5
  z5 := Try.sizeOf5
  v5 := Try.zeroValue5
  i0 := by kernel_rfl
  i3 := by kernel_rfl
  i4 := by kernel_rfl
  i5 := by kernel_rfl
  i9 := by kernel_rfl
  i37 := by kernel_rfl
  i127 := by kernel_rfl }
open Go.RowKit in
theorem Try.stringslite_Clone (s : ByteArray) (w : World) (hlim : s.size ≤ 281474976710656) :
    Calls Try.prog 60 #[.string s] w fun e w' => e = .returned (.string s) ∧ Below w.heap.size w w' := Any.stringslite_Clone Try.laysM316 s w hlim
end Go.Proofs

namespace Go.Proofs.Ytifgoanicbaohaa
open Go.RowKit Go.Sort Go.Shelf

set_option maxHeartbeats 400000 in
theorem cloneTx_any (s : ByteArray) (hs : s.size ≤ 281474976710656) (w : World) :
    Calls Try.prog 59 #[.string s] w fun e w' => e = .returned (.string s) ∧ Below w.heap.size w w' := by
  go_enter Try.func59, Try.ntmps59
  go_wp2_with fail
  refine (Try.stringslite_Clone s _ hs).mono ?_
  rintro e w1 ⟨rfl, hB⟩
  go_wp2
  go_ret
  exact ⟨rfl, hB⟩

set_option maxRecDepth 100000 in
set_option maxHeartbeats 1000000 in
theorem textsCopy_any (a : Option Addr) (cap : Nat) (xs : List ByteArray) (w : World) (hl : xs.length ≤ 1000) (hs : Hid (∀ j, j < xs.length → (xs.getD j ByteArray.empty).size ≤ 1000)) (hx : Hid (TxAt w a xs)) :
    Calls Try.prog 50 #[.slice a xs.length cap] w fun e w' => ∃ v, e = .returned v ∧ OwnTx w' w.heap.size v xs ∧ Below w.heap.size w w' := by
  obtain ⟨i0, hi0, hz0, hz1, hz2⟩ := info_parts infoTx
  go_enter Try.func50, Try.ntmps50
  go_wp2_with (at_make; refine wpList_make_full _ rfl _ _ 23 rfl w.heap.size 9 i0 _ 1 Try.underlying23 hi0 hz0 hz1 .i64 .i64 _ _ xs.length rfl rfl rfl rfl (by rw [hz2]; omega) (by unfold maxLen; omega) (Nat.le_refl _) ?_; intro w1 hown hgrow)
  have hlen : (madeCells (Value.string ByteArray.empty).cells (xs.length * 1)).toList.length = xs.length := hown.1.trans (Nat.mul_one _)
  generalize (madeCells (Value.string ByteArray.empty).cells (xs.length * 1)).toList = ys0 at hown hlen
  have HB1 : Hid (Below w.heap.size w w1) := ⟨hgrow.os, hgrow.tape, hgrow.output, hgrow.size, fun k hk => hgrow.block k hk (by simp)⟩
  have Hown := Lib.hid hown
  clear hown hgrow
  go_loopw [11] (fun i wr => ∃ k : Nat, i = .int .i64 (k : Int) ∧ k ≤ xs.length ∧ Hid (Below w.heap.size w wr ∧ ∃ ys, DoneTo (txC xs) k ys ∧ wr.ownsRow w.heap.size 9 1 (.slice (some ⟨w.heap.size, 0, none⟩) xs.length xs.length) xs.length ys)) (fun i _ => xs.length - (intOf i).toNat)
  case atStart => exact ⟨0, rfl, by omega, HB1.out, ys0, ⟨by rw [txC_length]; exact hlen, fun j hj => by omega⟩, Hown.out⟩
  case round =>
    obtain ⟨k, rfl, hk, hI⟩ := hrel
    by_cases hlt : k < xs.length
    · obtain ⟨hB, ys, hf, ho⟩ := hI.out
      obtain ⟨b, off, rfl, hc⟩ := (hx.out.below hB).resolve_left (fun e => by subst e; simp at hlt)
      have hck := hc k hlt
      have hsk := hs.out k hlt
      have HG := Lib.hid (txC_get xs k hlt)
      have HF := Lib.hid hf
      have HO := Lib.hid ho
      have HB := Lib.hid hB
      clear hc hf ho hB hI
      generalize xs.getD k ByteArray.empty = x at hck hsk HG
      go_wp2_with fail
      refine (cloneTx_any x (by omega) _).mono ?_
      rintro e w2 ⟨rfl, hB2⟩
      have ho2 := own_below HO.out hB2
      obtain ⟨x0, f0, _, hxl⟩ := own_cell ho2 k (by omega)
      rw [List.getElem?_eq_getElem (by omega)] at x0
      generalize ys[k]'(by omega) = y0 at x0
      have HN : Hid (Below w.heap.size w (w2.setCell ⟨w.heap.size, k, none⟩ (.string x)) ∧ ∃ ys, DoneTo (txC xs) (k + 1) ys ∧ (w2.setCell ⟨w.heap.size, k, none⟩ (.string x)).ownsRow w.heap.size 9 1 (.slice (some ⟨w.heap.size, 0, none⟩) xs.length xs.length) xs.length ys) :=
        ⟨(below_trans HB.out hB2 HB.out.size).setCell (p := ⟨w.heap.size, k, none⟩) (Nat.le_refl _) _, _, HF.out.next HG.out, own_set ho2 _ _⟩
      clear ho2 hB2 hxl
      go_wp2
      exact ⟨⟨k + 1, by go_num, by omega, HN⟩, by simp [intOf]; omega⟩
    · obtain rfl : k = xs.length := by omega
      go_wp2
      go_ret
      obtain ⟨hB, ys, hf, ho⟩ := hI.out
      rw [hf.all (by rw [txC_length]; omega)] at ho
      exact ⟨_, rfl, ho, hB⟩

end Go.Proofs.Ytifgoanicbaohaa

/- Copies of texts by the program. Conditions: none. -/
import Derived.Test.YtmmckpjapnkepaaHT3
import Derived.Test.YtmmckpjapnkepaaShelf
import Derived.Test.YtmmckpjapnkepaaGT3
import Derived.Deep.AppendLies
namespace Go.Proofs.Ytmmckpjapnkepaa
open Go.RowKit Go.Sort Go.Shelf

set_option maxHeartbeats 400000 in
theorem cloneTx_any (s : ByteArray) (hs : s.size ≤ 281474976710656) (w : World) :
    Calls Try.prog 68 #[.string s] w fun e w' => e = .returned (.string s) ∧ Below w.heap.size w w' := by
  go_enter Try.func68, Try.ntmps68
  go_wp2_with fail
  refine (Try.stringslite_Clone s _ hs).mono ?_
  rintro e w1 ⟨rfl, hB⟩
  go_wp2
  go_ret
  exact ⟨rfl, hB⟩

set_option maxRecDepth 100000 in
set_option maxHeartbeats 1000000 in
theorem textsCopy_any (a : Option Addr) (cap : Nat) (xs : List ByteArray) (w : World) (hl : xs.length ≤ 1000) (hs : Hid (∀ j, j < xs.length → (xs.getD j ByteArray.empty).size ≤ 1000)) (hx : Hid (TxAt w a xs)) :
    Calls Try.prog 73 #[.slice a xs.length cap] w fun e w' => ∃ v, e = .returned v ∧ OwnTx w' w.heap.size v xs ∧ Below w.heap.size w w' := by
  obtain ⟨i0, hi0, hz0, hz1, hz2⟩ := info_parts infoTx
  go_enter Try.func73, Try.ntmps73
  go_wp2_with (at_make; refine wpList_make_full _ rfl _ _ 33 rfl w.heap.size 9 i0 _ 1 Try.underlying33 hi0 hz0 hz1 .i64 .i64 _ _ xs.length rfl rfl rfl rfl (by rw [hz2]; omega) (by unfold maxLen; omega) (Nat.le_refl _) ?_; intro w1 hown hgrow)
  have hlen : (madeCells (Value.string ByteArray.empty).cells (xs.length * 1)).toList.length = xs.length := hown.1.trans (Nat.mul_one _)
  generalize (madeCells (Value.string ByteArray.empty).cells (xs.length * 1)).toList = ys0 at hown hlen
  have HB1 : Hid (Below w.heap.size w w1) := ⟨hgrow.os, hgrow.tape, hgrow.output, hgrow.size, fun k hk => hgrow.block k hk (by simp)⟩
  have Hown := Lib.hid hown
  clear hown hgrow
  go_loopw [11] (fun i wr => ∃ k : Nat, i = .int .i64 (k : Int) ∧ k ≤ xs.length ∧ Hid (Below w.heap.size w wr ∧ ∃ ys, DoneTo (txC xs) k ys ∧ wr.ownsRow w.heap.size 9 1 (.slice (some ⟨w.heap.size, 0, none⟩) xs.length xs.length) xs.length ys)) (fun i _ => xs.length - (intOf i).toNat)
  case atStart => exact ⟨0, rfl, by omega, HB1.out, ys0, ⟨by rw [txC_length]; exact hlen, fun j hj => by omega⟩, Hown.out⟩
  case round =>
    obtain ⟨k, rfl, hk, hI⟩ := hrel
    by_cases hlt : k < xs.length
    · obtain ⟨hB, ys, hf, ho⟩ := hI.out
      obtain ⟨b, off, rfl, hc⟩ := (hx.out.below hB).resolve_left (fun e => by subst e; simp at hlt)
      have hck := hc k hlt
      have hsk := hs.out k hlt
      have HG := Lib.hid (txC_get xs k hlt)
      have HF := Lib.hid hf
      have HO := Lib.hid ho
      have HB := Lib.hid hB
      clear hc hf ho hB hI
      generalize xs.getD k ByteArray.empty = x at hck hsk HG
      go_wp2_with fail
      refine (cloneTx_any x (by omega) _).mono ?_
      rintro e w2 ⟨rfl, hB2⟩
      have ho2 := own_below HO.out hB2
      obtain ⟨x0, f0, _, hxl⟩ := own_cell ho2 k (by omega)
      rw [List.getElem?_eq_getElem (by omega)] at x0
      generalize ys[k]'(by omega) = y0 at x0
      have HN : Hid (Below w.heap.size w (w2.setCell ⟨w.heap.size, k, none⟩ (.string x)) ∧ ∃ ys, DoneTo (txC xs) (k + 1) ys ∧ (w2.setCell ⟨w.heap.size, k, none⟩ (.string x)).ownsRow w.heap.size 9 1 (.slice (some ⟨w.heap.size, 0, none⟩) xs.length xs.length) xs.length ys) :=
        ⟨(below_trans HB.out hB2 HB.out.size).setCell (p := ⟨w.heap.size, k, none⟩) (Nat.le_refl _) _, _, HF.out.next HG.out, own_set ho2 _ _⟩
      clear ho2 hB2 hxl
      go_wp2
      exact ⟨⟨k + 1, by go_num, by omega, HN⟩, by simp [intOf]; omega⟩
    · obtain rfl : k = xs.length := by omega
      go_wp2
      go_ret
      obtain ⟨hB, ys, hf, ho⟩ := hI.out
      rw [hf.all (by rw [txC_length]; omega)] at ho
      exact ⟨_, rfl, ho, hB⟩

end Go.Proofs.Ytmmckpjapnkepaa

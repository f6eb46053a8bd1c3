/- The exact laws' own copies of writes and disks: they own all their memory. Conditions: sizes of at most 2^20. -/
import Derived.Test.YtcdiengbmjkglaaGreatPKGT3
import Derived.Test.YtcdiengbmjkglaaGreatPKG2
namespace Go.Proofs.YtcdiengbmjkglaaGreat
open Go.RowKit Go.Sort

theorem infoBo : (Tryz.prog.info? 4).map (fun i => (i.zero, i.size, i.bytes)) = some (some (.bool false), 1, 1) := by kernel_rfl
theorem infoPu : (Tryz.prog.info? 101).map (fun i => (i.zero, i.size, i.bytes)) = some (some (.agg #[.bool false, .int .i64 0, .string ByteArray.empty]), 3, 32) := by kernel_rfl

set_option maxRecDepth 100000 in
set_option maxHeartbeats 1000000 in
theorem toBo_any (a : Option Addr) (cap : Nat) (xs : List Bool) (w : World) (hl : xs.length ≤ 1048576) (hx : Hid (BoAt w a xs)) :
    Calls Tryz.prog 65 #[.slice a xs.length cap] w fun e w' => ∃ v, e = .returned v ∧ OwnBo w' w.heap.size v xs ∧ Below w.heap.size w w' := by
  obtain ⟨i0, hi0, hz0, hz1, hz2⟩ := info_parts infoBo
  go_enter Tryz.func65, Tryz.ntmps65
  go_wp2_with (at_make; refine wpList_make_full _ rfl _ _ 47 rfl w.heap.size 4 i0 _ 1 Tryz.underlying47 hi0 hz0 hz1 .i64 .i64 _ _ xs.length rfl rfl rfl rfl (by rw [hz2]; omega) (by unfold maxLen; omega) (Nat.le_refl _) ?_; intro w1 hown hgrow)
  have hlen : (madeCells (Value.bool false).cells (xs.length * 1)).toList.length = xs.length := hown.1.trans (Nat.mul_one _)
  generalize (madeCells (Value.bool false).cells (xs.length * 1)).toList = ys0 at hown hlen
  have HB1 : Hid (Below w.heap.size w w1) := ⟨hgrow.os, hgrow.tape, hgrow.output, hgrow.size, fun k hk => hgrow.block k hk (by simp)⟩
  have Hown := Lib.hid hown
  clear hown hgrow
  go_loopw [4] (fun i wr => ∃ k : Nat, i = .int .i64 (k : Int) ∧ k ≤ xs.length ∧ Hid (Below w.heap.size w wr ∧ ∃ ys, DoneTo (boC xs) k ys ∧ wr.ownsRow w.heap.size 4 1 (.slice (some ⟨w.heap.size, 0, none⟩) xs.length xs.length) xs.length ys)) (fun i _ => xs.length - (intOf i).toNat)
  case atStart => exact ⟨0, rfl, by omega, HB1.out, ys0, ⟨by rw [boC_length]; exact hlen, fun j hj => by omega⟩, Hown.out⟩
  case round =>
    obtain ⟨k, rfl, hk, hI⟩ := hrel
    by_cases hlt : k < xs.length
    · obtain ⟨hB, ys, hf, ho⟩ := hI.out
      obtain ⟨b, off, rfl, hc⟩ := (hx.out.below hB).resolve_left (fun e => by subst e; simp at hlt)
      have hck := hc k hlt
      obtain ⟨x0, f0, _, hxl⟩ := own_cell ho k (by omega)
      rw [List.getElem?_eq_getElem (by omega)] at x0
      generalize ys[k]'(by omega) = y0 at x0
      have HN : Hid (Below w.heap.size w (wr.setCell ⟨w.heap.size, k, none⟩ (.bool (xs.getD k false))) ∧ ∃ ys, DoneTo (boC xs) (k + 1) ys ∧ (wr.setCell ⟨w.heap.size, k, none⟩ (.bool (xs.getD k false))).ownsRow w.heap.size 4 1 (.slice (some ⟨w.heap.size, 0, none⟩) xs.length xs.length) xs.length ys) :=
        ⟨hB.setCell (p := ⟨w.heap.size, k, none⟩) (Nat.le_refl _) _, _, hf.next (boC_get xs k hlt), own_set ho _ _⟩
      clear hc ho hf hI hB hxl
      generalize xs.getD k false = x at hck HN
      go_wp2
      exact ⟨⟨k + 1, by go_num, by omega, HN⟩, by simp [intOf]; omega⟩
    · obtain rfl : k = xs.length := by omega
      go_wp2
      go_ret
      obtain ⟨hB, ys, hf, ho⟩ := hI.out
      rw [hf.all (by rw [boC_length]; omega)] at ho
      exact ⟨_, rfl, ho, hB⟩

set_option maxHeartbeats 400000 in
theorem toPut_any (b : Bool) (z : Int) (s : ByteArray) (w : World) :
    Calls Tryz.prog 99 #[.agg #[.bool b, .int .i64 z, .string s]] w fun e w' => e = .returned (.agg #[.bool b, .int .i64 z, .string s]) ∧ Below w.heap.size w w' := by
  go_enter Tryz.func99, Tryz.ntmps99
  go_wp2
  refine bodyPost_ret (v := .agg #[.bool b, .int .i64 z, .string s]) (by simp [results, Tryz.results99, go_sem]) rfl ⟨rfl, (((Below.refl _ w).alloc (Nat.le_refl _) _).alloc (by simp) _).alloc (by simp; omega) _⟩

set_option maxRecDepth 100000 in
set_option maxHeartbeats 1000000 in
theorem toPutS_any (a : Option Addr) (cap : Nat) (ps : List PutD) (w : World) (hl : ps.length ≤ 1048576) (hx : Hid (PuAt w a ps)) :
    Calls Tryz.prog 66 #[.slice a ps.length cap] w fun e w' => ∃ v, e = .returned v ∧ OwnPu w' w.heap.size v ps ∧ Below w.heap.size w w' := by
  obtain ⟨i0, hi0, hz0, hz1, hz2⟩ := info_parts infoPu
  go_enter Tryz.func66, Tryz.ntmps66
  go_wp2_with (at_make; refine wpList_make_full _ rfl _ _ 48 rfl w.heap.size 101 i0 _ 3 Tryz.underlying48 hi0 hz0 hz1 .i64 .i64 _ _ ps.length rfl rfl rfl rfl (by rw [hz2]; omega) (by unfold maxLen; omega) (Nat.le_refl _) ?_; intro w1 hown hgrow)
  have hlen : (madeCells (Value.agg #[.bool false, .int .i64 0, .string ByteArray.empty]).cells (ps.length * 3)).toList.length = ps.length * 3 := hown.1
  generalize (madeCells (Value.agg #[.bool false, .int .i64 0, .string ByteArray.empty]).cells (ps.length * 3)).toList = ys0 at hown hlen
  have HB1 : Hid (Below w.heap.size w w1) := ⟨hgrow.os, hgrow.tape, hgrow.output, hgrow.size, fun k hk => hgrow.block k hk (by simp)⟩
  have Hown := Lib.hid hown
  clear hown hgrow
  go_loopw [4] (fun i wr => ∃ k : Nat, i = .int .i64 (k : Int) ∧ k ≤ ps.length ∧ Hid (Below w.heap.size w wr ∧ ∃ ys, DoneTo (puC ps) (k * 3) ys ∧ wr.ownsRow w.heap.size 101 3 (.slice (some ⟨w.heap.size, 0, none⟩) ps.length ps.length) ps.length ys)) (fun i _ => ps.length - (intOf i).toNat)
  case atStart => exact ⟨0, rfl, by omega, HB1.out, ys0, ⟨by rw [puC_length]; exact hlen, fun j hj => by omega⟩, Hown.out⟩
  case round =>
    obtain ⟨k, rfl, hk, hI⟩ := hrel
    by_cases hlt : k < ps.length
    · obtain ⟨hB, ys, hd, ho⟩ := hI.out
      obtain ⟨b, off, rfl, hc⟩ := (hx.out.below hB).resolve_left (fun e => by subst e; simp at hlt)
      obtain ⟨c1, c2, c3⟩ := hc k hlt
      have Hd := Lib.hid hd
      have Ho := Lib.hid ho
      have HB := Lib.hid hB
      obtain ⟨q0, q1, q2⟩ := puC_get ps k hlt
      generalize ps.getD k put0 = q at c1 c2 c3 q0 q1 q2
      obtain ⟨r, z, s⟩ := q
      simp only at c1 c2 c3 q0 q1 q2
      have Q0 := Lib.hid q0
      have Q1 := Lib.hid q1
      have Q2 := Lib.hid q2
      clear hc hd ho hB hI q0 q1 q2
      go_wp2_with fail
      refine (toPut_any r z s _).mono ?_
      rintro e w2 ⟨rfl, hB2⟩
      have HO2 := Lib.hid (own_below Ho.out hB2)
      obtain ⟨x0, f0, hbg, hxl⟩ := own_cell HO2.out (k * 3) (by omega)
      obtain ⟨x1, f1, _, _⟩ := own_cell HO2.out (k * 3 + 1) (by omega)
      obtain ⟨x2, f2, _, _⟩ := own_cell HO2.out (k * 3 + 2) (by omega)
      rw [List.getElem?_eq_getElem (by omega)] at x0 x1 x2
      generalize ys[k * 3]'(by omega) = y0 at x0
      generalize ys[k * 3 + 1]'(by omega) = y1 at x1
      generalize ys[k * 3 + 2]'(by omega) = y2 at x2
      have HB2 := Lib.hid (HB.out.trans (hB2.mono HB.out.size))
      have HN : Hid (Below w.heap.size w (((w2.setCell ⟨w.heap.size, k * 3, none⟩ (.bool r)).setCell ⟨w.heap.size, k * 3 + 1, none⟩ (.int .i64 z)).setCell ⟨w.heap.size, k * 3 + 2, none⟩ (.string s)) ∧ ∃ ys, DoneTo (puC ps) ((k + 1) * 3) ys ∧ (((w2.setCell ⟨w.heap.size, k * 3, none⟩ (.bool r)).setCell ⟨w.heap.size, k * 3 + 1, none⟩ (.int .i64 z)).setCell ⟨w.heap.size, k * 3 + 2, none⟩ (.string s)).ownsRow w.heap.size 101 3 (.slice (some ⟨w.heap.size, 0, none⟩) ps.length ps.length) ps.length ys) :=
        ⟨((HB2.out.setCell (p := ⟨w.heap.size, k * 3, none⟩) (Nat.le_refl _) _).setCell (p := ⟨w.heap.size, k * 3 + 1, none⟩) (Nat.le_refl _) _).setCell (p := ⟨w.heap.size, k * 3 + 2, none⟩) (Nat.le_refl _) _, _, by rw [show (k + 1) * 3 = k * 3 + 1 + 1 + 1 by omega]; exact ((Hd.out.next Q0.out).next Q1.out).next Q2.out, own_set (own_set (own_set HO2.out _ _) _ _) _ _⟩
      clear hB2 hxl hbg
      go_wp2
      exact ⟨⟨k + 1, by go_num, by omega, HN⟩, by simp [intOf]; omega⟩
    · obtain rfl : k = ps.length := by omega
      go_wp2
      go_ret
      obtain ⟨hB, ys, hd, ho⟩ := hI.out
      rw [hd.all (by rw [puC_length]; omega)] at ho
      exact ⟨_, rfl, ho, hB⟩

end Go.Proofs.YtcdiengbmjkglaaGreat

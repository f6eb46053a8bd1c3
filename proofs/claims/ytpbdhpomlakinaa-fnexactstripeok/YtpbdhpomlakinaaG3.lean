/- The exact laws' own copies of writes and disks: they own all their memory. Conditions: sizes of at most 2^20. -/
import Derived.Test.YtpbdhpomlakinaaG2
namespace Go.Proofs.Ytpbdhpomlakinaa
open Go.RowKit Go.Sort

/-- WHAT HAS BEEN WRITTEN SO FAR: the first m cells of a list. -/
def DoneTo (zs : List Value) (m : Nat) (ys : List Value) : Prop := ys.length = zs.length ∧ ∀ i, i < m → ys[i]? = zs[i]?
theorem DoneTo.all {zs ys : List Value} {m : Nat} (h : DoneTo zs m ys) (hm : zs.length ≤ m) : ys = zs := by
  refine List.ext_getElem? fun i => ?_
  by_cases hi : i < m
  · exact h.2 i hi
  · rw [List.getElem?_eq_none (by have := h.1; omega), List.getElem?_eq_none (by omega)]
theorem DoneTo.next {zs ys : List Value} {m : Nat} {u : Value} (h : DoneTo zs m ys) (hu : zs[m]? = some u) : DoneTo zs (m + 1) (ys.set m u) := by
  have hm : m < zs.length := (List.getElem?_eq_some_iff.1 hu).1
  refine ⟨by rw [List.length_set]; exact h.1, fun i hi => ?_⟩
  by_cases e : i = m
  · subst e; rw [List.getElem?_set_self (by rw [h.1]; exact hm), hu]
  · rw [List.getElem?_set_ne (by omega)]; exact h.2 i (by omega)

theorem infoTx : (Try.prog.info? 9).map (fun i => (i.zero, i.size, i.bytes)) = some (some (.string ByteArray.empty), 1, 16) := by kernel_rfl
theorem infoBo : (Try.prog.info? 4).map (fun i => (i.zero, i.size, i.bytes)) = some (some (.bool false), 1, 1) := by kernel_rfl
theorem infoPu : (Try.prog.info? 162).map (fun i => (i.zero, i.size, i.bytes)) = some (some (.agg #[.bool false, .int .i64 0, .string ByteArray.empty]), 3, 32) := by kernel_rfl

set_option maxRecDepth 100000 in
set_option maxHeartbeats 1000000 in
theorem toTx_any (a : Option Addr) (cap : Nat) (xs : List ByteArray) (w : World) (hl : xs.length ≤ 1048576) (hx : Hid (TxAt w a xs)) :
    Calls Try.prog 130 #[.slice a xs.length cap] w fun e w' => ∃ v, e = .returned v ∧ OwnTx w' w.heap.size v xs ∧ Below w.heap.size w w' := by
  obtain ⟨i0, hi0, hz0, hz1, hz2⟩ := info_parts infoTx
  go_enter Try.func130, Try.ntmps130
  go_wp2_with (at_make; refine wpList_make_full _ rfl _ _ 114 rfl w.heap.size 9 i0 _ 1 Try.underlying114 hi0 hz0 hz1 .i64 .i64 _ _ xs.length rfl rfl rfl rfl (by rw [hz2]; omega) (by unfold maxLen; omega) (Nat.le_refl _) ?_; intro w1 hown hgrow)
  have hlen : (madeCells (Value.string ByteArray.empty).cells (xs.length * 1)).toList.length = xs.length := hown.1.trans (Nat.mul_one _)
  generalize (madeCells (Value.string ByteArray.empty).cells (xs.length * 1)).toList = ys0 at hown hlen
  have HB1 : Hid (Below w.heap.size w w1) := ⟨hgrow.os, hgrow.tape, hgrow.output, hgrow.size, fun k hk => hgrow.block k hk (by simp)⟩
  have Hown := Lib.hid hown
  clear hown hgrow
  go_loopw [4] (fun i wr => ∃ k : Nat, i = .int .i64 (k : Int) ∧ k ≤ xs.length ∧ Hid (Below w.heap.size w wr ∧ ∃ ys, DoneTo (txC xs) k ys ∧ wr.ownsRow w.heap.size 9 1 (.slice (some ⟨w.heap.size, 0, none⟩) xs.length xs.length) xs.length ys)) (fun i _ => xs.length - (intOf i).toNat)
  case atStart => exact ⟨0, rfl, by omega, HB1.out, ys0, ⟨by rw [txC_length]; exact hlen, fun j hj => by omega⟩, Hown.out⟩
  case round =>
    obtain ⟨k, rfl, hk, hI⟩ := hrel
    by_cases hlt : k < xs.length
    · obtain ⟨hB, ys, hf, ho⟩ := hI.out
      obtain ⟨b, off, rfl, hc⟩ := (hx.out.below hB).resolve_left (fun e => by subst e; simp at hlt)
      have hck := hc k hlt
      obtain ⟨x0, f0, _, hxl⟩ := own_cell ho k (by omega)
      rw [List.getElem?_eq_getElem (by omega)] at x0
      generalize ys[k]'(by omega) = y0 at x0
      have HN : Hid (Below w.heap.size w (wr.setCell ⟨w.heap.size, k, none⟩ (.string (xs.getD k ByteArray.empty))) ∧ ∃ ys, DoneTo (txC xs) (k + 1) ys ∧ (wr.setCell ⟨w.heap.size, k, none⟩ (.string (xs.getD k ByteArray.empty))).ownsRow w.heap.size 9 1 (.slice (some ⟨w.heap.size, 0, none⟩) xs.length xs.length) xs.length ys) :=
        ⟨hB.setCell (p := ⟨w.heap.size, k, none⟩) (Nat.le_refl _) _, _, hf.next (txC_get xs k hlt), own_set ho _ _⟩
      clear hc ho hf hI hB hxl
      generalize xs.getD k ByteArray.empty = x at hck HN
      go_wp2
      exact ⟨⟨k + 1, by go_num, by omega, HN⟩, by simp [intOf]; omega⟩
    · obtain rfl : k = xs.length := by omega
      go_wp2
      go_ret
      obtain ⟨hB, ys, hf, ho⟩ := hI.out
      rw [hf.all (by rw [txC_length]; omega)] at ho
      exact ⟨_, rfl, ho, hB⟩

set_option maxRecDepth 100000 in
set_option maxHeartbeats 1000000 in
theorem toBo_any (a : Option Addr) (cap : Nat) (xs : List Bool) (w : World) (hl : xs.length ≤ 1048576) (hx : Hid (BoAt w a xs)) :
    Calls Try.prog 131 #[.slice a xs.length cap] w fun e w' => ∃ v, e = .returned v ∧ OwnBo w' w.heap.size v xs ∧ Below w.heap.size w w' := by
  obtain ⟨i0, hi0, hz0, hz1, hz2⟩ := info_parts infoBo
  go_enter Try.func131, Try.ntmps131
  go_wp2_with (at_make; refine wpList_make_full _ rfl _ _ 115 rfl w.heap.size 4 i0 _ 1 Try.underlying115 hi0 hz0 hz1 .i64 .i64 _ _ xs.length rfl rfl rfl rfl (by rw [hz2]; omega) (by unfold maxLen; omega) (Nat.le_refl _) ?_; intro w1 hown hgrow)
  have hlen : (madeCells (Value.bool false).cells (xs.length * 1)).toList.length = xs.length := hown.1.trans (Nat.mul_one _)
  generalize (madeCells (Value.bool false).cells (xs.length * 1)).toList = ys0 at hown hlen
  have HB1 : Hid (Below w.heap.size w w1) := ⟨hgrow.os, hgrow.tape, hgrow.output, hgrow.size, fun k hk => hgrow.block k hk (by simp)⟩
  have Hown := Lib.hid hown
  clear hown hgrow
  go_loopw [4] (fun i wr => ∃ k : Nat, i = .int .i64 (k : Int) ∧ k ≤ xs.length ∧ Hid (Below w.heap.size w wr ∧ ∃ ys, DoneTo (boC xs) k ys ∧ wr.ownsRow w.heap.size 4 1 (.slice (some ⟨w.heap.size, 0, none⟩) xs.length xs.length) xs.length ys)) (fun i _ => xs.length - (intOf i).toNat)
  case atStart => exact ⟨0, rfl, by omega, HB1.out, ys0, ⟨by rw [boC_length]; exact hlen, fun j hj => by omega⟩, Hown.out⟩
  case round =>
    obtain ⟨k, rfl, hk, hI⟩ := hrel
    by_cases hlt : k < xs.length
    · obtain ⟨hB, ys, hf, ho⟩ := hI.out
      obtain ⟨b, off, rfl, hc⟩ := (hx.out.below hB).resolve_left (fun e => by subst e; simp at hlt)
      have hck := hc k hlt
      obtain ⟨x0, f0, _, hxl⟩ := own_cell ho k (by omega)
      rw [List.getElem?_eq_getElem (by omega)] at x0
      generalize ys[k]'(by omega) = y0 at x0
      have HN : Hid (Below w.heap.size w (wr.setCell ⟨w.heap.size, k, none⟩ (.bool (xs.getD k false))) ∧ ∃ ys, DoneTo (boC xs) (k + 1) ys ∧ (wr.setCell ⟨w.heap.size, k, none⟩ (.bool (xs.getD k false))).ownsRow w.heap.size 4 1 (.slice (some ⟨w.heap.size, 0, none⟩) xs.length xs.length) xs.length ys) :=
        ⟨hB.setCell (p := ⟨w.heap.size, k, none⟩) (Nat.le_refl _) _, _, hf.next (boC_get xs k hlt), own_set ho _ _⟩
      clear hc ho hf hI hB hxl
      generalize xs.getD k false = x at hck HN
      go_wp2
      exact ⟨⟨k + 1, by go_num, by omega, HN⟩, by simp [intOf]; omega⟩
    · obtain rfl : k = xs.length := by omega
      go_wp2
      go_ret
      obtain ⟨hB, ys, hf, ho⟩ := hI.out
      rw [hf.all (by rw [boC_length]; omega)] at ho
      exact ⟨_, rfl, ho, hB⟩

set_option maxHeartbeats 400000 in
theorem toPut_any (b : Bool) (z : Int) (s : ByteArray) (w : World) :
    Calls Try.prog 166 #[.agg #[.bool b, .int .i64 z, .string s]] w fun e w' => e = .returned (.agg #[.bool b, .int .i64 z, .string s]) ∧ Below w.heap.size w w' := by
  go_enter Try.func166, Try.ntmps166
  go_wp2
  refine bodyPost_ret (v := .agg #[.bool b, .int .i64 z, .string s]) (by simp [results, Try.results166, go_sem]) rfl ⟨rfl, (((Below.refl _ w).alloc (Nat.le_refl _) _).alloc (by simp) _).alloc (by simp; omega) _⟩

set_option maxRecDepth 100000 in
set_option maxHeartbeats 1000000 in
theorem toPutS_any (a : Option Addr) (cap : Nat) (ps : List PutD) (w : World) (hl : ps.length ≤ 1048576) (hx : Hid (PuAt w a ps)) :
    Calls Try.prog 132 #[.slice a ps.length cap] w fun e w' => ∃ v, e = .returned v ∧ OwnPu w' w.heap.size v ps ∧ Below w.heap.size w w' := by
  obtain ⟨i0, hi0, hz0, hz1, hz2⟩ := info_parts infoPu
  go_enter Try.func132, Try.ntmps132
  go_wp2_with (at_make; refine wpList_make_full _ rfl _ _ 120 rfl w.heap.size 162 i0 _ 3 Try.underlying120 hi0 hz0 hz1 .i64 .i64 _ _ ps.length rfl rfl rfl rfl (by rw [hz2]; omega) (by unfold maxLen; omega) (Nat.le_refl _) ?_; intro w1 hown hgrow)
  have hlen : (madeCells (Value.agg #[.bool false, .int .i64 0, .string ByteArray.empty]).cells (ps.length * 3)).toList.length = ps.length * 3 := hown.1
  generalize (madeCells (Value.agg #[.bool false, .int .i64 0, .string ByteArray.empty]).cells (ps.length * 3)).toList = ys0 at hown hlen
  have HB1 : Hid (Below w.heap.size w w1) := ⟨hgrow.os, hgrow.tape, hgrow.output, hgrow.size, fun k hk => hgrow.block k hk (by simp)⟩
  have Hown := Lib.hid hown
  clear hown hgrow
  go_loopw [4] (fun i wr => ∃ k : Nat, i = .int .i64 (k : Int) ∧ k ≤ ps.length ∧ Hid (Below w.heap.size w wr ∧ ∃ ys, DoneTo (puC ps) (k * 3) ys ∧ wr.ownsRow w.heap.size 162 3 (.slice (some ⟨w.heap.size, 0, none⟩) ps.length ps.length) ps.length ys)) (fun i _ => ps.length - (intOf i).toNat)
  case atStart => exact ⟨0, rfl, by omega, HB1.out, ys0, ⟨by rw [puC_length]; exact hlen, fun j hj => by omega⟩, Hown.out⟩
  case round =>
    obtain ⟨k, rfl, hk, hI⟩ := hrel
    by_cases hlt : k < ps.length
    · obtain ⟨hB, ys, hd, ho⟩ := hI.out
      obtain ⟨b, off, rfl, hc⟩ := (hx.out.below hB).resolve_left (fun e => by subst e; simp at hlt)
      obtain ⟨c1, c2, c3⟩ := hc k hlt
      have Hd := Lib.hid hd
      have Ho := Lib.hid ho
      have HB := Lib.hid hB
      obtain ⟨q0, q1, q2⟩ := puC_get ps k hlt
      generalize ps.getD k put0 = q at c1 c2 c3 q0 q1 q2
      obtain ⟨r, z, s⟩ := q
      simp only at c1 c2 c3 q0 q1 q2
      have Q0 := Lib.hid q0
      have Q1 := Lib.hid q1
      have Q2 := Lib.hid q2
      clear hc hd ho hB hI q0 q1 q2
      go_wp2_with fail
      refine (toPut_any r z s _).mono ?_
      rintro e w2 ⟨rfl, hB2⟩
      have HO2 := Lib.hid (own_below Ho.out hB2)
      obtain ⟨x0, f0, hbg, hxl⟩ := own_cell HO2.out (k * 3) (by omega)
      obtain ⟨x1, f1, _, _⟩ := own_cell HO2.out (k * 3 + 1) (by omega)
      obtain ⟨x2, f2, _, _⟩ := own_cell HO2.out (k * 3 + 2) (by omega)
      rw [List.getElem?_eq_getElem (by omega)] at x0 x1 x2
      generalize ys[k * 3]'(by omega) = y0 at x0
      generalize ys[k * 3 + 1]'(by omega) = y1 at x1
      generalize ys[k * 3 + 2]'(by omega) = y2 at x2
      have HB2 := Lib.hid (HB.out.trans (hB2.mono HB.out.size))
      have HN : Hid (Below w.heap.size w (((w2.setCell ⟨w.heap.size, k * 3, none⟩ (.bool r)).setCell ⟨w.heap.size, k * 3 + 1, none⟩ (.int .i64 z)).setCell ⟨w.heap.size, k * 3 + 2, none⟩ (.string s)) ∧ ∃ ys, DoneTo (puC ps) ((k + 1) * 3) ys ∧ (((w2.setCell ⟨w.heap.size, k * 3, none⟩ (.bool r)).setCell ⟨w.heap.size, k * 3 + 1, none⟩ (.int .i64 z)).setCell ⟨w.heap.size, k * 3 + 2, none⟩ (.string s)).ownsRow w.heap.size 162 3 (.slice (some ⟨w.heap.size, 0, none⟩) ps.length ps.length) ps.length ys) :=
        ⟨((HB2.out.setCell (p := ⟨w.heap.size, k * 3, none⟩) (Nat.le_refl _) _).setCell (p := ⟨w.heap.size, k * 3 + 1, none⟩) (Nat.le_refl _) _).setCell (p := ⟨w.heap.size, k * 3 + 2, none⟩) (Nat.le_refl _) _, _, by rw [show (k + 1) * 3 = k * 3 + 1 + 1 + 1 by omega]; exact ((Hd.out.next Q0.out).next Q1.out).next Q2.out, own_set (own_set (own_set HO2.out _ _) _ _) _ _⟩
      clear hB2 hxl hbg
      go_wp2
      exact ⟨⟨k + 1, by go_num, by omega, HN⟩, by simp [intOf]; omega⟩
    · obtain rfl : k = ps.length := by omega
      go_wp2
      go_ret
      obtain ⟨hB, ys, hd, ho⟩ := hI.out
      rw [hd.all (by rw [puC_length]; omega)] at ho
      exact ⟨_, rfl, ho, hB⟩

/-- Blocks that were there before. -/
theorem ownBlock_lt {w : World} {base K : Nat} {e : TypeId} {v : Value} {n : Nat} {xs : List Value} (h : w.ownsRow base e K v n xs) (i : Nat) (hi : v.ownBlock = some i) : base ≤ i ∧ i < w.heap.size := h.lt i hi

end Go.Proofs.Ytpbdhpomlakinaa

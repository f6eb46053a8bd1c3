/- The exact laws' own helpers for texts: copies. Conditions: none but the row's own bound on sizes. Lists with one element more. Conditions: none. All columns of a text, and their parity: of the program and of the specification. Conditions: the text has 1 to 9 bytes. What lasts over a call that turns one row. Conditions: none. -/
import Derived.Test.YtcdiengbmjkglaaGreatPKGT
import Derived.Test.YtcdiengbmjkglaaGreatPKM5
namespace Go.Proofs.YtcdiengbmjkglaaGreat
open Go.RowKit Go.Sort

/-- WHAT HAS BEEN WRITTEN SO FAR: the first m cells of a list. -/
def DoneTo (zs : List Value) (m : Nat) (ys : List Value) : Prop := ys.length = zs.length ∧ ∀ i, i < m → ys[i]? = zs[i]?
theorem DoneTo.all {zs ys : List Value} {m : Nat} (h : DoneTo zs m ys) (hm : zs.length ≤ m) : ys = zs := by
  refine List.ext_getElem? fun i => ?_
  by_cases hi : i < m
  · exact h.2 i hi
  · rw [List.getElem?_eq_none (by have := h.1; omega), List.getElem?_eq_none (by omega)]
theorem DoneTo.next {zs ys : List Value} {m : Nat} {u : Value} (h : DoneTo zs m ys) (hu : zs[m]? = some u) : DoneTo zs (m + 1) (ys.set m u) := by
  have hm : m < zs.length := (List.getElem?_eq_some_iff.1 hu).1
  refine ⟨by rw [List.length_set]; exact h.1, fun i hi => ?_⟩
  by_cases e : i = m
  · subst e; rw [List.getElem?_set_self (by rw [h.1]; exact hm), hu]
  · rw [List.getElem?_set_ne (by omega)]; exact h.2 i (by omega)

theorem infoTx : (Tryz.prog.info? 9).map (fun i => (i.zero, i.size, i.bytes)) = some (some (.string ByteArray.empty), 1, 16) := by kernel_rfl
set_option maxRecDepth 100000 in
set_option maxHeartbeats 1000000 in
theorem toTx_any (a : Option Addr) (cap : Nat) (xs : List ByteArray) (w : World) (hl : xs.length ≤ 1048576) (hx : Hid (TxAt w a xs)) :
    Calls Tryz.prog 64 #[.slice a xs.length cap] w fun e w' => ∃ v, e = .returned v ∧ OwnTx w' w.heap.size v xs ∧ Below w.heap.size w w' := by
  obtain ⟨i0, hi0, hz0, hz1, hz2⟩ := info_parts infoTx
  go_enter Tryz.func64, Tryz.ntmps64
  go_wp2_with (at_make; refine wpList_make_full _ rfl _ _ 46 rfl w.heap.size 9 i0 _ 1 Tryz.underlying46 hi0 hz0 hz1 .i64 .i64 _ _ xs.length rfl rfl rfl rfl (by rw [hz2]; omega) (by unfold maxLen; omega) (Nat.le_refl _) ?_; intro w1 hown hgrow)
  have hlen : (madeCells (Value.string ByteArray.empty).cells (xs.length * 1)).toList.length = xs.length := hown.1.trans (Nat.mul_one _)
  generalize (madeCells (Value.string ByteArray.empty).cells (xs.length * 1)).toList = ys0 at hown hlen
  have HB1 : Hid (Below w.heap.size w w1) := ⟨hgrow.os, hgrow.tape, hgrow.output, hgrow.size, fun k hk => hgrow.block k hk (by simp)⟩
  have Hown := Lib.hid hown
  clear hown hgrow
  go_loopw [4] (fun i wr => ∃ k : Nat, i = .int .i64 (k : Int) ∧ k ≤ xs.length ∧ Hid (Below w.heap.size w wr ∧ ∃ ys, DoneTo (txC xs) k ys ∧ wr.ownsRow w.heap.size 9 1 (.slice (some ⟨w.heap.size, 0, none⟩) xs.length xs.length) xs.length ys)) (fun i _ => xs.length - (intOf i).toNat)
  case atStart => exact ⟨0, rfl, by omega, HB1.out, ys0, ⟨by rw [txC_length]; exact hlen, fun j hj => by omega⟩, Hown.out⟩
  case round =>
    obtain ⟨k, rfl, hk, hI⟩ := hrel
    by_cases hlt : k < xs.length
    · obtain ⟨hB, ys, hf, ho⟩ := hI.out
      obtain ⟨b, off, rfl, hc⟩ := (hx.out.below hB).resolve_left (fun e => by subst e; simp at hlt)
      have hck := hc k hlt
      obtain ⟨x0, f0, _, hxl⟩ := own_cell ho k (by omega)
      rw [List.getElem?_eq_getElem (by omega)] at x0
      generalize ys[k]'(by omega) = y0 at x0
      have HN : Hid (Below w.heap.size w (wr.setCell ⟨w.heap.size, k, none⟩ (.string (xs.getD k ByteArray.empty))) ∧ ∃ ys, DoneTo (txC xs) (k + 1) ys ∧ (wr.setCell ⟨w.heap.size, k, none⟩ (.string (xs.getD k ByteArray.empty))).ownsRow w.heap.size 9 1 (.slice (some ⟨w.heap.size, 0, none⟩) xs.length xs.length) xs.length ys) :=
        ⟨hB.setCell (p := ⟨w.heap.size, k, none⟩) (Nat.le_refl _) _, _, hf.next (txC_get xs k hlt), own_set ho _ _⟩
      clear hc ho hf hI hB hxl
      generalize xs.getD k ByteArray.empty = x at hck HN
      go_wp2
      exact ⟨⟨k + 1, by go_num, by omega, HN⟩, by simp [intOf]; omega⟩
    · obtain rfl : k = xs.length := by omega
      go_wp2
      go_ret
      obtain ⟨hB, ys, hf, ho⟩ := hI.out
      rw [hf.all (by rw [txC_length]; omega)] at ho
      exact ⟨_, rfl, ho, hB⟩

/-- Blocks that were there before. -/
theorem ownBlock_lt {w : World} {base K : Nat} {e : TypeId} {v : Value} {n : Nat} {xs : List Value} (h : w.ownsRow base e K v n xs) (i : Nat) (hi : v.ownBlock = some i) : base ≤ i ∧ i < w.heap.size := h.lt i hi

end Go.Proofs.YtcdiengbmjkglaaGreat

namespace Go.Proofs.YtcdiengbmjkglaaGreat
open Go.RowKit

/-- A write more at the end of a chain. -/
theorem getD_snoc_lt {α : Type} (l : List α) (x d : α) (j : Nat) (h : j < l.length) : (l ++ [x]).getD j d = l.getD j d := by
  rw [List.getD, List.getElem?_append_left h]; rfl
theorem getD_snoc_eq {α : Type} (l : List α) (x d : α) : (l ++ [x]).getD l.length d = x := by
  rw [List.getD, List.getElem?_append_right (Nat.le_refl _)]; simp
theorem get_snoc_eq {α : Type} (l : List α) (x : α) : (l ++ [x])[l.length]? = some x := by
  rw [List.getElem?_append_right (Nat.le_refl _)]; simp

end Go.Proofs.YtcdiengbmjkglaaGreat

namespace Go.Proofs.YtcdiengbmjkglaaGreat
open Go.RowKit Go.Sort

/-- ALL COLUMNS of a text, and their parity. -/
def stripeL (s : ByteArray) : List ByteArray := colsOf s ++ [parOf (colsOf s)]
theorem stripeL_length (s : ByteArray) (h9 : s.size ≤ 9) : (stripeL s).length = (s.size + 2) / 3 + 1 := by
  rw [stripeL, List.length_append, colsOf_len s h9]; rfl
theorem stripeL_size {s : ByteArray} (h1 : 1 ≤ s.size) (h9 : s.size ≤ 9) (j : Nat) (hj : j < (stripeL s).length) : ((stripeL s).getD j ByteArray.empty).size = 3 := by
  have hok := colsOf_ok s h1 h9
  rw [stripeL, List.length_append, List.length_singleton] at hj
  by_cases h : j < (colsOf s).length
  · rw [stripeL, getD_snoc_lt _ _ _ _ h]
    exact hok.2 j h
  · obtain rfl : j = (colsOf s).length := by omega
    rw [stripeL, getD_snoc_eq]
    exact parOf_size hok
theorem news_one (W : World) (a : Value) (t : TypeId) (H : Nat) (hH : W.heap.size = H) : ∀ j u, [a][j]? = some u → (W.alloc (.cells #[a] t)).cell? ((⟨H, 0, none⟩ : Addr).add j) = some u := by
  subst hH
  exact World.news_of_block (cs := #[a]) (t := t) (fr := (0, 0)) (heap_alloc_new W _)

set_option maxRecDepth 100000 in
set_option maxHeartbeats 2000000 in
theorem stripeOf_any (s : ByteArray) (h1 : 1 ≤ s.size) (h9 : s.size ≤ 9) (w : World) :
    Calls Tryz.prog 31 #[.string s] w fun e w' => ∃ g c, e = .returned (.slice (some ⟨g, 0, none⟩) (stripeL s).length c) ∧ OwnTx w' w.heap.size (.slice (some ⟨g, 0, none⟩) (stripeL s).length c) (stripeL s) ∧ Below w.heap.size w w' := by
  obtain ⟨i0, hi0, hz0, hz1, hz2⟩ := info_parts infoTx
  have hok := colsOf_ok s h1 h9
  have HR := Lib.hid (parRes_yes (colsB_true hok))
  have h3 := hok.1.2
  have HC := Lib.hid (implCols_any s (by unfold maxLen; omega) w)
  have HST := Lib.hid (show stripeL s = colsOf s ++ [parOf (colsOf s)] from rfl)
  clear hok
  generalize stripeL s = sl at HST ⊢
  generalize colsOf s = xs at HC HR h3 HST
  generalize parOf xs = pp at HR HST
  have hl : xs.length + 1 = sl.length := by rw [HST.out, List.length_append]; rfl
  have HL := Lib.hid hl
  rw [← hl]
  clear hl
  go_enter Tryz.func31, Tryz.ntmps31
  go_wp2_with fail
  refine HC.out.mono ?_
  rintro e w1 ⟨v, rfl, ho, hB1⟩
  obtain ⟨a, c, rfl, _, _, hx⟩ := strs_of_owns ho
  have HP := Lib.hid (implParity_any a c xs w1 hx)
  rw [HR.out] at HP
  have HB1 := Lib.hid hB1
  have HO := Lib.hid ho
  clear hB1 ho hx
  go_wp2_with fail
  refine HP.out.mono ?_
  rintro e w2 ⟨rfl, hB2⟩
  have HB2 := Lib.hid (HB1.out.trans (hB2.mono HB1.out.size))
  have hB3 : Below w2.heap.size w2 (w2.alloc (.cells #[.string pp] 9)) := (Below.refl _ _).alloc (Nat.le_refl _) _
  have HB3 := Lib.hid (HB2.out.trans (hB3.mono HB2.out.size))
  have hown := own_below (own_below HO.out hB2) hB3
  have hnews := news_one w2 (.string pp) 9 w2.heap.size rfl
  have hbase : w.heap.size ≤ (w2.alloc (.cells #[.string pp] 9)).heap.size := HB3.out.size
  have HLT := Lib.hid (fun i e => (hown.lt i e).1)
  clear hB2 hB3 HO HP HB1
  go_wp2_with (at_builtin; refine wpList_append_lies _ rfl _ _ 46 rfl w.heap.size 9 i0 _ 1 16 Tryz.underlying46 hi0 hz0 hz1 hz2 rfl (by omega) _ xs.length (xs.map Value.string) rfl hown ⟨_, 0, none⟩ 1 1 [.string pp] rfl rfl hnews (by simp [Value.oneCell']) (by omega) (by simp [maxLen]; omega) (by omega) hbase _ rfl ?_; intro g4 cap4 w4 hown4 hgrow4 hat4 hlt4)
  have HX : Hid (OwnTx w4 w.heap.size (.slice (some ⟨g4, 0, none⟩) (xs.length + 1) cap4) sl ∧ Below w.heap.size w w4) := by
    refine ⟨?_, HB3.out.grown hgrow4 hbase HLT.out⟩
    unfold OwnTx txC
    rw [← HL.out, HST.out, List.map_append]
    exact hown4
  clear hown4 hgrow4 hat4 hlt4 hown hnews HB2 HB3 HLT
  go_wp2
  go_ret
  exact ⟨_, _, rfl, HX.out.1, HX.out.2⟩

set_option maxRecDepth 100000 in
set_option maxHeartbeats 2000000 in
theorem l11Cols_any (s : ByteArray) (h1 : 1 ≤ s.size) (h9 : s.size ≤ 9) (w : World) :
    Calls Tryz.prog 61 #[.string s] w fun e w' => ∃ g c, e = .returned (.slice (some ⟨g, 0, none⟩) (stripeL s).length c) ∧ OwnTx w' w.heap.size (.slice (some ⟨g, 0, none⟩) (stripeL s).length c) (stripeL s) ∧ Below w.heap.size w w' := by
  obtain ⟨i0, hi0, hz0, hz1, hz2⟩ := info_parts infoTx
  have hok := colsOf_ok s h1 h9
  have h3 := hok.1.2
  have HOK := Lib.hid hok
  have HC := Lib.hid (specCols_any s (by unfold maxLen; omega) w)
  have HST := Lib.hid (show stripeL s = colsOf s ++ [parOf (colsOf s)] from rfl)
  clear hok
  generalize stripeL s = sl at HST ⊢
  generalize colsOf s = xs at HC HOK h3 HST
  have hl : xs.length + 1 = sl.length := by rw [HST.out, List.length_append]; rfl
  have HL := Lib.hid hl
  rw [← hl]
  clear hl
  go_enter Tryz.func61, Tryz.ntmps61
  go_wp2_with fail
  refine HC.out.mono ?_
  rintro e w1 ⟨v, rfl, ho, hB1⟩
  obtain ⟨a, c, rfl, _, _, hx⟩ := strs_of_owns ho
  have HP := Lib.hid (l1Parity_any a c xs w1 HOK.out hx)
  generalize parOf xs = pp at HP HST
  have HB1 := Lib.hid hB1
  have HO := Lib.hid ho
  clear hB1 ho hx
  go_wp2_with fail
  refine HP.out.mono ?_
  rintro e w2 ⟨rfl, hB2⟩
  have HB2 := Lib.hid (HB1.out.trans (hB2.mono HB1.out.size))
  have hB3 : Below w2.heap.size w2 (w2.alloc (.cells #[.string pp] 9)) := (Below.refl _ _).alloc (Nat.le_refl _) _
  have HB3 := Lib.hid (HB2.out.trans (hB3.mono HB2.out.size))
  have hown := own_below (own_below HO.out hB2) hB3
  have hnews := news_one w2 (.string pp) 9 w2.heap.size rfl
  have hbase : w.heap.size ≤ (w2.alloc (.cells #[.string pp] 9)).heap.size := HB3.out.size
  have HLT := Lib.hid (fun i e => (hown.lt i e).1)
  clear hB2 hB3 HO HP HB1
  go_wp2_with (at_builtin; refine wpList_append_lies _ rfl _ _ 46 rfl w.heap.size 9 i0 _ 1 16 Tryz.underlying46 hi0 hz0 hz1 hz2 rfl (by omega) _ xs.length (xs.map Value.string) rfl hown ⟨_, 0, none⟩ 1 1 [.string pp] rfl rfl hnews (by simp [Value.oneCell']) (by omega) (by simp [maxLen]; omega) (by omega) hbase _ rfl ?_; intro g4 cap4 w4 hown4 hgrow4 hat4 hlt4)
  have HX : Hid (OwnTx w4 w.heap.size (.slice (some ⟨g4, 0, none⟩) (xs.length + 1) cap4) sl ∧ Below w.heap.size w w4) := by
    refine ⟨?_, HB3.out.grown hgrow4 hbase HLT.out⟩
    unfold OwnTx txC
    rw [← HL.out, HST.out, List.map_append]
    exact hown4
  clear hown4 hgrow4 hat4 hlt4 hown hnews HB2 HB3 HLT
  go_wp2
  go_ret
  exact ⟨_, _, rfl, HX.out.1, HX.out.2⟩

end Go.Proofs.YtcdiengbmjkglaaGreat

namespace Go.Proofs.YtcdiengbmjkglaaGreat
open Go.RowKit Go.Sort

theorem own_gb {w w' : World} {base K : Nat} {e : TypeId} {v : Value} {n : Nat} {xs : List Value} {r : Option Nat} (h : w.ownsRow base e K v n xs) (hg : w.grownBy w' r) (hne : ∀ i, r = some i → v.ownBlock ≠ some i) : w'.ownsRow base e K v n xs :=
  h.kept hg (by
    cases hv : v.ownBlock with
    | none => exact .inl rfl
    | some j => exact .inr (fun e => hne j e.symm hv))
theorem Blk.gb {w w' : World} {D : Nat} {cs : Array Value} {t : TypeId} {r : Option Nat} (h : Blk w D cs t) (hg : w.grownBy w' r) (hne : r ≠ some D) : Blk w' D cs t :=
  (hg.block D h.lt (fun e => hne e.symm)).trans h

theorem own_blk_ne {w : World} {base K : Nat} {e : TypeId} {v : Value} {n : Nat} {xs : List Value} (h : w.ownsRow base e K v n xs) {D : Nat} {cs : Array Value} {t : TypeId} (hb : Blk w D cs t) (hne : e ≠ t) : v.ownBlock ≠ some D := by
  intro hp
  rcases h.2 with ⟨rfl, _⟩ | ⟨g1, cap1, cur1, rfl, _, hg1, _⟩
  · cases hp
  · simp only [Value.ownBlock, Option.some.injEq] at hp
    rw [hp] at hg1
    exact hne (Blk.type hg1 hb)

end Go.Proofs.YtcdiengbmjkglaaGreat

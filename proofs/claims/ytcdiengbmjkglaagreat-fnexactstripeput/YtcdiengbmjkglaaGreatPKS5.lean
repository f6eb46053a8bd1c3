/- The exact laws' own helpers for places and pointers: sizes, copies, comparisons. Conditions: none but the row's own bound on sizes. The exact laws' own helpers for pointers: copies and comparisons. Conditions: none but the row's own bound on sizes. -/
import Derived.Test.YtcdiengbmjkglaaGreatPKM5
import Derived.Test.YtcdiengbmjkglaaGreatPKS4
import Derived.OwnWalk
import Derived.Maps.Range
namespace Go.Proofs.YtcdiengbmjkglaaGreat
open Go.RowKit Go.Sort

/-- HOW MUCH IS LEFT behind so many. -/
def Left (n left : Nat) (w : World) (e : Ending) (w' : World) : Prop := (e = .returned (.int .i64 (-1)) ∨ ∃ r : Nat, e = .returned (.int .i64 (r : Int)) ∧ n + r ≤ left) ∧ Below w.heap.size w w'

set_option maxHeartbeats 400000 in
theorem szPlaceS_any (a : Option Addr) (n cap left : Nat) (w : World) (hl : n ≤ maxLen) (hleft : left ≤ 1048576) :
    Calls Tryz.prog 21 #[.slice a n cap, .int .i64 (left : Int)] w (Left n left w) := by
  unfold maxLen at hl
  by_cases h : left < n
  · have d0 : decide ((left : Int) - (n : Int) < 0) = true := by simp; omega
    go_enter Tryz.func21, Tryz.ntmps21
    go_wp2
    go_ret
    exact ⟨.inl rfl, Below.refl _ _⟩
  · have d0 : decide ((left : Int) - (n : Int) < 0) = false := by simp; omega
    have H : Hid ((left : Int) - (n : Int) = ((left - n : Nat) : Int)) := by show (left : Int) - (n : Int) = ((left - n : Nat) : Int); omega
    go_enter Tryz.func21, Tryz.ntmps21
    go_wp2
    go_ret
    exact ⟨.inr ⟨left - n, congrArg (fun z => Ending.returned (.int .i64 z)) H.out, by omega⟩, Below.refl _ _⟩

set_option maxHeartbeats 400000 in
theorem szPtr_any (z s : Int) (a : Option Addr) (n cap left : Nat) (w : World) (hl : n ≤ maxLen) (hleft : left ≤ 1048576) :
    Calls Tryz.prog 6 #[.agg #[.int .i64 z, .int .i64 s, .slice a n cap], .int .i64 (left : Int)] w (Left n left w) := by
  have hB : Below w.heap.size w (w.alloc (.cells #[.int .i64 z, .int .i64 s, .slice a n cap] 25)) := (Below.refl _ _).alloc (Nat.le_refl _) _
  have HB := Lib.hid hB
  clear hB
  go_enter Tryz.func6, Tryz.ntmps6
  go_wp2_with fail
  refine (szPlaceS_any a n cap left _ hl hleft).mono ?_
  rintro e w1 ⟨he, hB1⟩
  have HB1 := Lib.hid (HB.out.trans (hB1.mono HB.out.size))
  clear hB1
  rcases he with rfl | ⟨r, rfl, hr⟩
  · go_wp2
    go_ret
    exact ⟨.inl rfl, HB1.out⟩
  · have d0 : decide ((r : Int) < 0) = false := by simp
    go_wp2
    go_ret
    exact ⟨.inr ⟨r, rfl, hr⟩, HB1.out⟩

set_option maxHeartbeats 400000 in
theorem toPlace_any (d s : Int) (w : World) :
    Calls Tryz.prog 67 #[.agg #[.int .i64 d, .int .i64 s]] w fun e w' => e = .returned (.agg #[.int .i64 d, .int .i64 s]) ∧ Below w.heap.size w w' := by
  go_enter Tryz.func67, Tryz.ntmps67
  go_wp2
  refine bodyPost_ret (v := .agg #[.int .i64 d, .int .i64 s]) (by simp [results, Tryz.results67, go_sem]) rfl ⟨rfl, (((Below.refl _ w).alloc (Nat.le_refl _) _).alloc (by simp) _).alloc (by simp; omega) _⟩

/-- THE CELLS OF PLACES. -/
def plCell (ps : List PlD) (i : Nat) : Value := if i % 2 = 0 then .int .i64 (ps.getD (i / 2) pl0).1 else .int .i64 (ps.getD (i / 2) pl0).2
def plCells (ps : List PlD) : List Value := (List.range (ps.length * 2)).map (plCell ps)

theorem plCells_length (ps : List PlD) : (plCells ps).length = ps.length * 2 := by simp [plCells]
theorem plCells_get (ps : List PlD) (i : Nat) (h : i < ps.length * 2) : (plCells ps)[i]? = some (plCell ps i) := by
  rw [plCells, List.getElem?_map, List.getElem?_range h]; rfl
theorem plCell_0 (ps : List PlD) (j : Nat) : plCell ps (j * 2) = .int .i64 (ps.getD j pl0).1 := by
  unfold plCell; rw [if_pos (by omega), show j * 2 / 2 = j by omega]
theorem plCell_1 (ps : List PlD) (j : Nat) : plCell ps (j * 2 + 1) = .int .i64 (ps.getD j pl0).2 := by
  unfold plCell; rw [if_neg (by omega), show (j * 2 + 1) / 2 = j by omega]

/-- WHAT HAS BEEN WRITTEN SO FAR: the first m cells of a list. -/
def Done (zs : List Value) (m : Nat) (ys : List Value) : Prop := ys.length = zs.length ∧ ∀ i, i < m → ys[i]? = zs[i]?
theorem Done.all {zs ys : List Value} {m : Nat} (h : Done zs m ys) (hm : zs.length ≤ m) : ys = zs := by
  refine List.ext_getElem? fun i => ?_
  by_cases hi : i < m
  · exact h.2 i hi
  · rw [List.getElem?_eq_none (by have := h.1; omega), List.getElem?_eq_none (by omega)]
theorem Done.next {zs ys : List Value} {m : Nat} {u : Value} (h : Done zs m ys) (hu : zs[m]? = some u) : Done zs (m + 1) (ys.set m u) := by
  have hm : m < zs.length := (List.getElem?_eq_some_iff.1 hu).1
  refine ⟨by rw [List.length_set]; exact h.1, fun i hi => ?_⟩
  by_cases e : i = m
  · subst e; rw [List.getElem?_set_self (by rw [h.1]; exact hm), hu]
  · rw [List.getElem?_set_ne (by omega)]; exact h.2 i (by omega)

theorem infoPl : (Tryz.prog.info? 53).map (fun i => (i.zero, i.size, i.bytes)) = some (some (.agg #[.int .i64 0, .int .i64 0]), 2, 16) := by kernel_rfl

set_option maxRecDepth 100000 in
set_option maxHeartbeats 1000000 in
theorem toPlaceS_any (a : Option Addr) (cap : Nat) (ps : List PlD) (w : World) (hl : ps.length ≤ 1048576) (hx : Hid (PlacesAt w a ps)) :
    Calls Tryz.prog 27 #[.slice a ps.length cap] w fun e w' => ∃ v, e = .returned v ∧ w'.ownsRow w.heap.size 53 2 v ps.length (plCells ps) ∧ Below w.heap.size w w' := by
  obtain ⟨i0, hi0, hz0, hz1, hz2⟩ := info_parts infoPl
  go_enter Tryz.func27, Tryz.ntmps27
  go_wp2_with (at_make; refine wpList_make_full _ rfl _ _ 32 rfl w.heap.size 53 i0 _ 2 Tryz.underlying32 hi0 hz0 hz1 .i64 .i64 _ _ ps.length rfl rfl rfl rfl (by rw [hz2]; omega) (by unfold maxLen; omega) (Nat.le_refl _) ?_; intro w1 hown hgrow)
  have hlen : (madeCells (Value.agg #[.int .i64 0, .int .i64 0]).cells (ps.length * 2)).toList.length = ps.length * 2 := hown.1
  generalize (madeCells (Value.agg #[.int .i64 0, .int .i64 0]).cells (ps.length * 2)).toList = ys0 at hown hlen
  have HB1 : Hid (Below w.heap.size w w1) := ⟨hgrow.os, hgrow.tape, hgrow.output, hgrow.size, fun k hk => hgrow.block k hk (by simp)⟩
  have Hown := Lib.hid hown
  clear hown hgrow
  go_loopw [4] (fun i wr => ∃ k : Nat, i = .int .i64 (k : Int) ∧ k ≤ ps.length ∧ Hid (Below w.heap.size w wr ∧ ∃ ys, Done (plCells ps) (k * 2) ys ∧ wr.ownsRow w.heap.size 53 2 (.slice (some ⟨w.heap.size, 0, none⟩) ps.length ps.length) ps.length ys)) (fun i _ => ps.length - (intOf i).toNat)
  case atStart => exact ⟨0, rfl, by omega, HB1.out, ys0, ⟨by rw [plCells_length]; exact hlen, fun j hj => by omega⟩, Hown.out⟩
  case round =>
    obtain ⟨k, rfl, hk, hI⟩ := hrel
    by_cases hlt : k < ps.length
    · obtain ⟨hB, ys, hd, ho⟩ := hI.out
      obtain ⟨b, off, rfl, hc⟩ := (hx.out.below hB).resolve_left (fun e => by subst e; simp at hlt)
      obtain ⟨c1, c2⟩ := hc k hlt
      have Hd := Lib.hid hd
      have Ho := Lib.hid ho
      have HB := Lib.hid hB
      have q0 := plCell_0 ps k
      have q1 := plCell_1 ps k
      generalize ps.getD k pl0 = q at c1 c2 q0 q1
      obtain ⟨d, t⟩ := q
      simp only at c1 c2 q0 q1
      have Q0 : Hid ((plCells ps)[k * 2]? = some (.int .i64 d)) := (plCells_get ps _ (by omega)).trans (congrArg some q0)
      have Q1 : Hid ((plCells ps)[k * 2 + 1]? = some (.int .i64 t)) := (plCells_get ps _ (by omega)).trans (congrArg some q1)
      clear hc hd ho hB hI q0 q1
      go_wp2_with fail
      refine (toPlace_any d t _).mono ?_
      rintro e w2 ⟨rfl, hB2⟩
      have HO2 := Lib.hid (own_below Ho.out hB2)
      obtain ⟨x0, f0, hbg, hxl⟩ := own_cell HO2.out (k * 2) (by omega)
      obtain ⟨x1, f1, _, _⟩ := own_cell HO2.out (k * 2 + 1) (by omega)
      rw [List.getElem?_eq_getElem (by omega)] at x0 x1
      generalize ys[k * 2]'(by omega) = y0 at x0
      generalize ys[k * 2 + 1]'(by omega) = y1 at x1
      have HB2 := Lib.hid (HB.out.trans (hB2.mono HB.out.size))
      have HN : Hid (Below w.heap.size w ((w2.setCell ⟨w.heap.size, k * 2, none⟩ (.int .i64 d)).setCell ⟨w.heap.size, k * 2 + 1, none⟩ (.int .i64 t)) ∧ ∃ ys, Done (plCells ps) ((k + 1) * 2) ys ∧ ((w2.setCell ⟨w.heap.size, k * 2, none⟩ (.int .i64 d)).setCell ⟨w.heap.size, k * 2 + 1, none⟩ (.int .i64 t)).ownsRow w.heap.size 53 2 (.slice (some ⟨w.heap.size, 0, none⟩) ps.length ps.length) ps.length ys) :=
        ⟨(HB2.out.setCell (p := ⟨w.heap.size, k * 2, none⟩) (Nat.le_refl _) _).setCell (p := ⟨w.heap.size, k * 2 + 1, none⟩) (Nat.le_refl _) _, _, by rw [show (k + 1) * 2 = k * 2 + 1 + 1 by omega]; exact (Hd.out.next Q0.out).next Q1.out, own_set (own_set HO2.out _ _) _ _⟩
      clear hB2 hxl hbg
      go_wp2
      exact ⟨⟨k + 1, by go_num, by omega, HN⟩, by simp [intOf]; omega⟩
    · obtain rfl : k = ps.length := by omega
      go_wp2
      go_ret
      obtain ⟨hB, ys, hd, ho⟩ := hI.out
      rw [hd.all (by rw [plCells_length]; omega)] at ho
      exact ⟨_, rfl, ho, hB⟩

end Go.Proofs.YtcdiengbmjkglaaGreat

namespace Go.Proofs.YtcdiengbmjkglaaGreat
open Go.RowKit Go.Sort

/-- PLACES OF ONE's OWN. -/
def OwnPl (w : World) (base : Nat) (v : Value) (ps : List PlD) : Prop := w.ownsRow base 53 2 v ps.length (plCells ps)
theorem OwnPl.below {w w' : World} {base : Nat} {v : Value} {ps : List PlD} (h : OwnPl w base v ps) (hB : Below w.heap.size w w') : OwnPl w' base v ps := own_below h hB
theorem OwnPl.reads {w : World} {base : Nat} {v : Value} {ps : List PlD} (h : OwnPl w base v ps) : PlacesV w v ps := by
  have h' := h
  rcases h.2 with ⟨rfl, hk⟩ | ⟨g, cap, cur, rfl, hb, hg, hkc, hcm, hcs, hx⟩
  · have : ps = [] := List.eq_nil_of_length_eq_zero hk
    subst this
    exact ⟨none, 0, rfl, Nat.le_refl _, by simp [maxLen], .inl rfl⟩
  · refine ⟨some ⟨g, 0, none⟩, cap, rfl, hkc, hcm, .inr ⟨g, 0, rfl, fun j hj => ?_⟩⟩
    have e0 := (own_cell h' (j * 2) (by omega)).1
    have e1 := (own_cell h' (j * 2 + 1) (by omega)).1
    rw [plCells_get ps _ (by omega), plCell_0] at e0
    rw [plCells_get ps _ (by omega), plCell_1] at e1
    exact ⟨by rw [Nat.zero_add]; exact e0, by rw [Nat.zero_add]; exact e1⟩

set_option maxRecDepth 100000 in
set_option maxHeartbeats 1000000 in
theorem toPtr_any (z s : Int) (a : Option Addr) (cap : Nat) (ps : List PlD) (w : World) (hl : ps.length ≤ 1048576) (hx : Hid (PlacesAt w a ps)) :
    Calls Tryz.prog 9 #[.agg #[.int .i64 z, .int .i64 s, .slice a ps.length cap]] w fun e w' => ∃ v, e = .returned (.agg #[.int .i64 z, .int .i64 s, v]) ∧ OwnPl w' w.heap.size v ps ∧ Below w.heap.size w w' := by
  have hB0 : Below w.heap.size w (((w.alloc (.cells #[.int .i64 z, .int .i64 s, .slice a ps.length cap] 25)).alloc (.cells #[.int .i64 0, .int .i64 0, .slice none 0 0] 34)).alloc (.cells #[.int .i64 z, .int .i64 s, .slice none 0 0] 34)) := (((Below.refl _ w).alloc (Nat.le_refl _) _).alloc (by simp) _).alloc (by simp; omega) _
  have HB0 := Lib.hid hB0
  clear hB0
  go_enter Tryz.func9, Tryz.ntmps9
  go_wp2_with fail
  refine (toPlaceS_any a cap ps _ hl (hx.out.below HB0.out)).mono ?_
  rintro e w1 ⟨v, rfl, ho, hB1⟩
  obtain ⟨hc, hf⟩ := bcell hB1
  have hz : w.heap.size + 3 ≤ w1.heap.size := by have := hB1.size; simp at this; omega
  have HO : Hid (w1.ownsRow (w.heap.size + 3) 53 2 v ps.length (plCells ps)) := by
    have := ho
    simp only [World.size_alloc] at this
    exact this
  have HB1 := Lib.hid (HB0.out.trans (hB1.mono HB0.out.size))
  obtain ⟨a2, cap2, rfl, _⟩ := OwnPl.reads HO.out
  clear ho hB1
  go_wp2
  refine bodyPost_ret (v := .agg #[.int .i64 z, .int .i64 s, .slice a2 ps.length cap2]) (by simp [results, Tryz.results9, go_sem, hc]) rfl ⟨_, rfl, ?_, ?_⟩
  · exact own_mono (own_far (own_far (own_far (own_far HO.out _ _ _ (by omega)) _ _ _ (by omega)) _ _ _ (by omega)) _ _ _ (by omega)) (by omega)
  · exact (((HB1.out.setCell (p := ⟨w.heap.size + 1 + 1, 2, none⟩) (by simp; omega) _).setCell (p := ⟨w.heap.size + 1, 0, none⟩) (by simp) _).setCell (p := ⟨w.heap.size + 1, 1, none⟩) (by simp) _).setCell (p := ⟨w.heap.size + 1, 2, none⟩) (by simp) _

set_option maxHeartbeats 400000 in
theorem eqPlace_same (d s : Int) (w : World) :
    Calls Tryz.prog 79 #[.agg #[.int .i64 d, .int .i64 s], .agg #[.int .i64 d, .int .i64 s]] w fun e w' => e = .returned (.bool true) ∧ Below w.heap.size w w' := by
  have e1 : (d != d) = false := by simp
  have e2 : (s != s) = false := by simp
  go_enter Tryz.func79, Tryz.ntmps79
  go_wp2
  go_ret
  exact ⟨rfl, ((Below.refl _ w).alloc (Nat.le_refl _) _).alloc (by simp) _⟩

set_option maxRecDepth 100000 in
set_option maxHeartbeats 1000000 in
theorem eqPlaceS_same (a b : Option Addr) (ca cb : Nat) (ps : List PlD) (w : World) (hl : ps.length ≤ maxLen) (ha : Hid (PlacesAt w a ps)) (hb : Hid (PlacesAt w b ps)) :
    Calls Tryz.prog 34 #[.slice a ps.length ca, .slice b ps.length cb] w fun e w' => e = .returned (.bool true) ∧ Below w.heap.size w w' := by
  unfold maxLen at hl
  have d0 : ((ps.length : Int) != (ps.length : Int)) = false := by simp
  go_enter Tryz.func34, Tryz.ntmps34
  go_wp2_with fail
  go_loopw [5] (fun i wr => ∃ k : Nat, i = .int .i64 (k : Int) ∧ k ≤ ps.length ∧ Hid (Below w.heap.size w wr)) (fun i _ => ps.length - (intOf i).toNat)
  case atStart => exact ⟨0, rfl, by omega, Below.refl _ _⟩
  case round =>
    obtain ⟨k, rfl, hk, hB⟩ := hrel
    by_cases hlt : k < ps.length
    · obtain ⟨b1, o1, rfl, hc1⟩ := (ha.out.below hB.out).resolve_left (fun e => by subst e; simp at hlt)
      obtain ⟨b2, o2, rfl, hc2⟩ := (hb.out.below hB.out).resolve_left (fun e => by subst e; simp at hlt)
      have k1 := hc1 k hlt
      have k2 := hc2 k hlt
      clear hc1 hc2
      generalize ps.getD k pl0 = q at k1 k2
      obtain ⟨d, s⟩ := q
      have g1 := cell_regrown k1.1
      have g2 := cell_regrown k1.2
      have g3 := cell_regrown k2.1
      have g4 := cell_regrown k2.2
      clear k1 k2
      simp only at g1 g2 g3 g4
      have i1 : (k : Int) < (ps.length : Int) := by omega
      have i0 : (0 : Int) ≤ (k : Int) := by omega
      go_wp2_with fail
      refine wp_region_quiet_below (by kernel_rfl) (by kernel_rfl) ?_
      repeat (go_big_quiet_step ((go_at_call 79; exact Calls.regrown_of (eqPlace_same d s _))))
      refine wpQuiet_nil ?_
      intro w9 hw9
      have HB9 : Hid (Below w.heap.size w w9) := by obtain ⟨p, rfl⟩ := hw9; exact rg_below hB.out _ _
      clear hw9
      go_wp2
      exact ⟨⟨k + 1, by go_num, by omega, HB9⟩, by simp [intOf]; omega⟩
    · go_wp2
      go_ret
      exact ⟨rfl, hB.out⟩

set_option maxRecDepth 100000 in
set_option maxHeartbeats 1000000 in
theorem eqPtr_same (z s : Int) (a b : Option Addr) (ca cb : Nat) (ps : List PlD) (w : World) (hl : ps.length ≤ maxLen) (ha : Hid (PlacesAt w a ps)) (hb : Hid (PlacesAt w b ps)) :
    Calls Tryz.prog 12 #[.agg #[.int .i64 z, .int .i64 s, .slice a ps.length ca], .agg #[.int .i64 z, .int .i64 s, .slice b ps.length cb]] w fun e w' => e = .returned (.bool true) ∧ Below w.heap.size w w' := by
  have e1 : (z != z) = false := by simp
  have e2 : (s != s) = false := by simp
  have hB : Below w.heap.size w ((w.alloc (.cells #[.int .i64 z, .int .i64 s, .slice a ps.length ca] 34)).alloc (.cells #[.int .i64 z, .int .i64 s, .slice b ps.length cb] 34)) := ((Below.refl _ _).alloc (Nat.le_refl _) _).alloc (by simp) _
  have HB := Lib.hid hB
  clear hB
  go_enter Tryz.func12, Tryz.ntmps12
  go_wp2_with fail
  refine (eqPlaceS_same a b ca cb ps _ hl (ha.out.below HB.out) (hb.out.below HB.out)).mono ?_
  rintro e w1 ⟨rfl, hB1⟩
  go_wp2
  go_ret
  exact ⟨rfl, HB.out.trans (hB1.mono HB.out.size)⟩

end Go.Proofs.YtcdiengbmjkglaaGreat

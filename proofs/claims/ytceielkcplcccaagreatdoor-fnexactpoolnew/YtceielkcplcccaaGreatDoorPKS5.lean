/- The exact laws' own helpers for places and pointers: sizes, copies, comparisons. Conditions: none but the row's own bound on sizes. The exact laws' own helpers for pointers: copies and comparisons. Conditions: none but the row's own bound on sizes. -/
import Derived.Test.YtceielkcplcccaaGreatDoorPKMK
import Derived.Test.YtceielkcplcccaaGreatDoorPKS4
import Derived.OwnWalk
import Derived.Maps.Range
namespace Go.Proofs.YtceielkcplcccaaGreatDoor
open Go.RowKit Go.Sort

/-- HOW MUCH IS LEFT behind so many. -/
def Left (n left : Nat) (w : World) (e : Ending) (w' : World) : Prop := (e = .returned (.int .i64 (-1)) ∨ ∃ r : Nat, e = .returned (.int .i64 (r : Int)) ∧ n + r ≤ left) ∧ Below w.heap.size w w'

/-- THE CELLS OF PLACES. -/
def plCell (ps : List PlD) (i : Nat) : Value := if i % 2 = 0 then .int .i64 (ps.getD (i / 2) pl0).1 else .int .i64 (ps.getD (i / 2) pl0).2
def plCells (ps : List PlD) : List Value := (List.range (ps.length * 2)).map (plCell ps)

theorem plCells_length (ps : List PlD) : (plCells ps).length = ps.length * 2 := by simp [plCells]
theorem plCells_get (ps : List PlD) (i : Nat) (h : i < ps.length * 2) : (plCells ps)[i]? = some (plCell ps i) := by
  rw [plCells, List.getElem?_map, List.getElem?_range h]; rfl
theorem plCell_0 (ps : List PlD) (j : Nat) : plCell ps (j * 2) = .int .i64 (ps.getD j pl0).1 := by
  unfold plCell; rw [if_pos (by omega), show j * 2 / 2 = j by omega]
theorem plCell_1 (ps : List PlD) (j : Nat) : plCell ps (j * 2 + 1) = .int .i64 (ps.getD j pl0).2 := by
  unfold plCell; rw [if_neg (by omega), show (j * 2 + 1) / 2 = j by omega]

/-- WHAT HAS BEEN WRITTEN SO FAR: the first m cells of a list. -/
def Done (zs : List Value) (m : Nat) (ys : List Value) : Prop := ys.length = zs.length ∧ ∀ i, i < m → ys[i]? = zs[i]?
theorem Done.all {zs ys : List Value} {m : Nat} (h : Done zs m ys) (hm : zs.length ≤ m) : ys = zs := by
  refine List.ext_getElem? fun i => ?_
  by_cases hi : i < m
  · exact h.2 i hi
  · rw [List.getElem?_eq_none (by have := h.1; omega), List.getElem?_eq_none (by omega)]
theorem Done.next {zs ys : List Value} {m : Nat} {u : Value} (h : Done zs m ys) (hu : zs[m]? = some u) : Done zs (m + 1) (ys.set m u) := by
  have hm : m < zs.length := (List.getElem?_eq_some_iff.1 hu).1
  refine ⟨by rw [List.length_set]; exact h.1, fun i hi => ?_⟩
  by_cases e : i = m
  · subst e; rw [List.getElem?_set_self (by rw [h.1]; exact hm), hu]
  · rw [List.getElem?_set_ne (by omega)]; exact h.2 i (by omega)

theorem infoPl : (Tryz.prog.info? 82).map (fun i => (i.zero, i.size, i.bytes)) = some (some (.agg #[.int .i64 0, .int .i64 0]), 2, 16) := by kernel_rfl

end Go.Proofs.YtceielkcplcccaaGreatDoor

namespace Go.Proofs.YtceielkcplcccaaGreatDoor
open Go.RowKit Go.Sort

/-- PLACES OF ONE's OWN. -/
def OwnPl (w : World) (base : Nat) (v : Value) (ps : List PlD) : Prop := w.ownsRow base 82 2 v ps.length (plCells ps)
theorem OwnPl.below {w w' : World} {base : Nat} {v : Value} {ps : List PlD} (h : OwnPl w base v ps) (hB : Below w.heap.size w w') : OwnPl w' base v ps := own_below h hB
theorem OwnPl.reads {w : World} {base : Nat} {v : Value} {ps : List PlD} (h : OwnPl w base v ps) : PlacesV w v ps := by
  have h' := h
  rcases h.2 with ⟨rfl, hk⟩ | ⟨g, cap, cur, rfl, hb, hg, hkc, hcm, hcs, hx⟩
  · have : ps = [] := List.eq_nil_of_length_eq_zero hk
    subst this
    exact ⟨none, 0, rfl, Nat.le_refl _, by simp [maxLen], .inl rfl⟩
  · refine ⟨some ⟨g, 0, none⟩, cap, rfl, hkc, hcm, .inr ⟨g, 0, rfl, fun j hj => ?_⟩⟩
    have e0 := (own_cell h' (j * 2) (by omega)).1
    have e1 := (own_cell h' (j * 2 + 1) (by omega)).1
    rw [plCells_get ps _ (by omega), plCell_0] at e0
    rw [plCells_get ps _ (by omega), plCell_1] at e1
    exact ⟨by rw [Nat.zero_add]; exact e0, by rw [Nat.zero_add]; exact e1⟩

set_option maxHeartbeats 400000 in
theorem eqPlace_same (d s : Int) (w : World) :
    Calls Tryz.prog 113 #[.agg #[.int .i64 d, .int .i64 s], .agg #[.int .i64 d, .int .i64 s]] w fun e w' => e = .returned (.bool true) ∧ Below w.heap.size w w' := by
  have e1 : (d != d) = false := by simp
  have e2 : (s != s) = false := by simp
  go_enter Tryz.func113, Tryz.ntmps113
  go_wp2
  go_ret
  exact ⟨rfl, ((Below.refl _ w).alloc (Nat.le_refl _) _).alloc (by simp) _⟩

set_option maxRecDepth 100000 in
set_option maxHeartbeats 1000000 in
theorem eqPlaceS_same (a b : Option Addr) (ca cb : Nat) (ps : List PlD) (w : World) (hl : ps.length ≤ maxLen) (ha : Hid (PlacesAt w a ps)) (hb : Hid (PlacesAt w b ps)) :
    Calls Tryz.prog 110 #[.slice a ps.length ca, .slice b ps.length cb] w fun e w' => e = .returned (.bool true) ∧ Below w.heap.size w w' := by
  unfold maxLen at hl
  have d0 : ((ps.length : Int) != (ps.length : Int)) = false := by simp
  go_enter Tryz.func110, Tryz.ntmps110
  go_wp2_with fail
  go_loopw [5] (fun i wr => ∃ k : Nat, i = .int .i64 (k : Int) ∧ k ≤ ps.length ∧ Hid (Below w.heap.size w wr)) (fun i _ => ps.length - (intOf i).toNat)
  case atStart => exact ⟨0, rfl, by omega, Below.refl _ _⟩
  case round =>
    obtain ⟨k, rfl, hk, hB⟩ := hrel
    by_cases hlt : k < ps.length
    · obtain ⟨b1, o1, rfl, hc1⟩ := (ha.out.below hB.out).resolve_left (fun e => by subst e; simp at hlt)
      obtain ⟨b2, o2, rfl, hc2⟩ := (hb.out.below hB.out).resolve_left (fun e => by subst e; simp at hlt)
      have k1 := hc1 k hlt
      have k2 := hc2 k hlt
      clear hc1 hc2
      generalize ps.getD k pl0 = q at k1 k2
      obtain ⟨d, s⟩ := q
      have g1 := cell_regrown k1.1
      have g2 := cell_regrown k1.2
      have g3 := cell_regrown k2.1
      have g4 := cell_regrown k2.2
      clear k1 k2
      simp only at g1 g2 g3 g4
      have i1 : (k : Int) < (ps.length : Int) := by omega
      have i0 : (0 : Int) ≤ (k : Int) := by omega
      go_wp2_with fail
      refine wp_region_quiet_below (by kernel_rfl) (by kernel_rfl) ?_
      repeat (go_big_quiet_step ((go_at_call 113; exact Calls.regrown_of (eqPlace_same d s _))))
      refine wpQuiet_nil ?_
      intro w9 hw9
      have HB9 : Hid (Below w.heap.size w w9) := by obtain ⟨p, rfl⟩ := hw9; exact rg_below hB.out _ _
      clear hw9
      go_wp2
      exact ⟨⟨k + 1, by go_num, by omega, HB9⟩, by simp [intOf]; omega⟩
    · go_wp2
      go_ret
      exact ⟨rfl, hB.out⟩

set_option maxRecDepth 100000 in
set_option maxHeartbeats 1000000 in
theorem eqPtr_same (z s : Int) (a b : Option Addr) (ca cb : Nat) (ps : List PlD) (w : World) (hl : ps.length ≤ maxLen) (ha : Hid (PlacesAt w a ps)) (hb : Hid (PlacesAt w b ps)) :
    Calls Tryz.prog 100 #[.agg #[.int .i64 z, .int .i64 s, .slice a ps.length ca], .agg #[.int .i64 z, .int .i64 s, .slice b ps.length cb]] w fun e w' => e = .returned (.bool true) ∧ Below w.heap.size w w' := by
  have e1 : (z != z) = false := by simp
  have e2 : (s != s) = false := by simp
  have hB : Below w.heap.size w ((w.alloc (.cells #[.int .i64 z, .int .i64 s, .slice a ps.length ca] 65)).alloc (.cells #[.int .i64 z, .int .i64 s, .slice b ps.length cb] 65)) := ((Below.refl _ _).alloc (Nat.le_refl _) _).alloc (by simp) _
  have HB := Lib.hid hB
  clear hB
  go_enter Tryz.func100, Tryz.ntmps100
  go_wp2_with fail
  refine (eqPlaceS_same a b ca cb ps _ hl (ha.out.below HB.out) (hb.out.below HB.out)).mono ?_
  rintro e w1 ⟨rfl, hB1⟩
  go_wp2
  go_ret
  exact ⟨rfl, HB.out.trans (hB1.mono HB.out.size)⟩

end Go.Proofs.YtceielkcplcccaaGreatDoor

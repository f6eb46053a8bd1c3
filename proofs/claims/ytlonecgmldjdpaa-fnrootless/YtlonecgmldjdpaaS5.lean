/- The exact laws' own helpers for places and pointers: sizes, copies, comparisons. Conditions: none but the row's own bound on sizes. -/
import Derived.Test.YtlonecgmldjdpaaS4
import Derived.OwnWalk
import Derived.Maps.Range
namespace Go.Proofs.Ytlonecgmldjdpaa
open Go.RowKit Go.Sort

/-- HOW MUCH IS LEFT behind so many. -/
def Left (n left : Nat) (w : World) (e : Ending) (w' : World) : Prop := (e = .returned (.int .i64 (-1)) ∨ ∃ r : Nat, e = .returned (.int .i64 (r : Int)) ∧ n + r ≤ left) ∧ Below w.heap.size w w'

set_option maxHeartbeats 400000 in
theorem szPlaceS_any (a : Option Addr) (n cap left : Nat) (w : World) (hl : n ≤ maxLen) (hleft : left ≤ 1048576) :
    Calls Try.prog 124 #[.slice a n cap, .int .i64 (left : Int)] w (Left n left w) := by
  unfold maxLen at hl
  by_cases h : left < n
  · have d0 : decide ((left : Int) - (n : Int) < 0) = true := by simp; omega
    go_enter Try.func124, Try.ntmps124
    go_wp2
    go_ret
    exact ⟨.inl rfl, Below.refl _ _⟩
  · have d0 : decide ((left : Int) - (n : Int) < 0) = false := by simp; omega
    have H : Hid ((left : Int) - (n : Int) = ((left - n : Nat) : Int)) := by show (left : Int) - (n : Int) = ((left - n : Nat) : Int); omega
    go_enter Try.func124, Try.ntmps124
    go_wp2
    go_ret
    exact ⟨.inr ⟨left - n, congrArg (fun z => Ending.returned (.int .i64 z)) H.out, by omega⟩, Below.refl _ _⟩

set_option maxHeartbeats 400000 in
theorem szPtr_any (z s : Int) (a : Option Addr) (n cap left : Nat) (w : World) (hl : n ≤ maxLen) (hleft : left ≤ 1048576) :
    Calls Try.prog 120 #[.agg #[.int .i64 z, .int .i64 s, .slice a n cap], .int .i64 (left : Int)] w (Left n left w) := by
  have hB : Below w.heap.size w (w.alloc (.cells #[.int .i64 z, .int .i64 s, .slice a n cap] 151)) := (Below.refl _ _).alloc (Nat.le_refl _) _
  have HB := Lib.hid hB
  clear hB
  go_enter Try.func120, Try.ntmps120
  go_wp2_with fail
  refine (szPlaceS_any a n cap left _ hl hleft).mono ?_
  rintro e w1 ⟨he, hB1⟩
  have HB1 := Lib.hid (HB.out.trans (hB1.mono HB.out.size))
  clear hB1
  rcases he with rfl | ⟨r, rfl, hr⟩
  · go_wp2
    go_ret
    exact ⟨.inl rfl, HB1.out⟩
  · have d0 : decide ((r : Int) < 0) = false := by simp
    go_wp2
    go_ret
    exact ⟨.inr ⟨r, rfl, hr⟩, HB1.out⟩

set_option maxHeartbeats 400000 in
theorem toPlace_any (d s : Int) (w : World) :
    Calls Try.prog 126 #[.agg #[.int .i64 d, .int .i64 s]] w fun e w' => e = .returned (.agg #[.int .i64 d, .int .i64 s]) ∧ Below w.heap.size w w' := by
  go_enter Try.func126, Try.ntmps126
  go_wp2
  refine bodyPost_ret (v := .agg #[.int .i64 d, .int .i64 s]) (by simp [results, Try.results126, go_sem]) rfl ⟨rfl, (((Below.refl _ w).alloc (Nat.le_refl _) _).alloc (by simp) _).alloc (by simp; omega) _⟩

/-- THE CELLS OF PLACES. -/
def plCell (ps : List PlD) (i : Nat) : Value := if i % 2 = 0 then .int .i64 (ps.getD (i / 2) pl0).1 else .int .i64 (ps.getD (i / 2) pl0).2
def plCells (ps : List PlD) : List Value := (List.range (ps.length * 2)).map (plCell ps)

theorem plCells_length (ps : List PlD) : (plCells ps).length = ps.length * 2 := by simp [plCells]
theorem plCells_get (ps : List PlD) (i : Nat) (h : i < ps.length * 2) : (plCells ps)[i]? = some (plCell ps i) := by
  rw [plCells, List.getElem?_map, List.getElem?_range h]; rfl
theorem plCell_0 (ps : List PlD) (j : Nat) : plCell ps (j * 2) = .int .i64 (ps.getD j pl0).1 := by
  unfold plCell; rw [if_pos (by omega), show j * 2 / 2 = j by omega]
theorem plCell_1 (ps : List PlD) (j : Nat) : plCell ps (j * 2 + 1) = .int .i64 (ps.getD j pl0).2 := by
  unfold plCell; rw [if_neg (by omega), show (j * 2 + 1) / 2 = j by omega]

/-- A cell of a row of one's own, and a store into it. -/
theorem own_cell {w : World} {base K : Nat} {e : TypeId} {g n cap : Nat} {xs : List Value} (h : w.ownsRow base e K (.slice (some ⟨g, 0, none⟩) n cap) n xs) (i : Nat) (hi : i < n * K) :
    w.cell? ⟨g, i, none⟩ = xs[i]? ∧ w.frozen? ⟨g, i, none⟩ = false ∧ base ≤ g ∧ xs.length = n * K := by
  rcases h.2 with ⟨hv, _⟩ | ⟨g', cap', cur, hv, hb, hg, hkc, hcm, hcs, hx⟩
  · cases hv
  · cases hv
    have e : (cur.toList.take (n * K))[i]? = xs[i]? := by rw [hx]
    rw [List.getElem?_take, if_pos hi, Array.getElem?_toList] at e
    refine ⟨?_, ?_, hb, h.1⟩
    · simp only [World.cell?, hg]
      exact e
    · simp [World.frozen?, hg]
theorem own_set {w : World} {base K : Nat} {e : TypeId} {g n cap : Nat} {xs : List Value} (h : w.ownsRow base e K (.slice (some ⟨g, 0, none⟩) n cap) n xs) (i : Nat) (u : Value) :
    (w.setCell ⟨g, i, none⟩ u).ownsRow base e K (.slice (some ⟨g, 0, none⟩) n cap) n (xs.set i u) := by
  rcases h.2 with ⟨hv, _⟩ | ⟨g', cap', cur, hv, hb, hg, hkc, hcm, hcs, hx⟩
  · cases hv
  · cases hv
    refine ⟨by rw [List.length_set]; exact h.1, .inr ⟨g, cap, cur.setIfInBounds i u, rfl, hb, ?_, hkc, hcm, by simp; omega, ?_⟩⟩
    · obtain ⟨hlt, hh⟩ := Array.getElem?_eq_some_iff.1 hg
      show (w.heap.modify g _)[g]? = _
      rw [Array.getElem?_eq_getElem (by rw [Array.size_modify]; exact hlt), Array.getElem_modify_self, hh]
      rfl
    · rw [Array.toList_setIfInBounds, List.take_set, hx]
theorem own_below {w w' : World} {base : Nat} {e : TypeId} {size : Nat} {v : Value} {n : Nat} {xs : List Value} (h : w.ownsRow base e size v n xs) (hB : Below w.heap.size w w') : w'.ownsRow base e size v n xs :=
  h.kept (row := none) ⟨hB.os, hB.tape, hB.output, hB.size, fun k hk _ => hB.block k hk⟩ (by cases v.ownBlock <;> simp)

/-- WHAT HAS BEEN WRITTEN SO FAR: the first m cells of a list. -/
def Done (zs : List Value) (m : Nat) (ys : List Value) : Prop := ys.length = zs.length ∧ ∀ i, i < m → ys[i]? = zs[i]?
theorem Done.all {zs ys : List Value} {m : Nat} (h : Done zs m ys) (hm : zs.length ≤ m) : ys = zs := by
  refine List.ext_getElem? fun i => ?_
  by_cases hi : i < m
  · exact h.2 i hi
  · rw [List.getElem?_eq_none (by have := h.1; omega), List.getElem?_eq_none (by omega)]
theorem Done.next {zs ys : List Value} {m : Nat} {u : Value} (h : Done zs m ys) (hu : zs[m]? = some u) : Done zs (m + 1) (ys.set m u) := by
  have hm : m < zs.length := (List.getElem?_eq_some_iff.1 hu).1
  refine ⟨by rw [List.length_set]; exact h.1, fun i hi => ?_⟩
  by_cases e : i = m
  · subst e; rw [List.getElem?_set_self (by rw [h.1]; exact hm), hu]
  · rw [List.getElem?_set_ne (by omega)]; exact h.2 i (by omega)

theorem infoPl : (Try.prog.info? 39).map (fun i => (i.zero, i.size, i.bytes)) = some (some (.agg #[.int .i64 0, .int .i64 0]), 2, 16) := by kernel_rfl

set_option maxRecDepth 100000 in
set_option maxHeartbeats 1000000 in
theorem toPlaceS_any (a : Option Addr) (cap : Nat) (ps : List PlD) (w : World) (hl : ps.length ≤ 1048576) (hx : Hid (PlacesAt w a ps)) :
    Calls Try.prog 125 #[.slice a ps.length cap] w fun e w' => ∃ v, e = .returned v ∧ w'.ownsRow w.heap.size 39 2 v ps.length (plCells ps) ∧ Below w.heap.size w w' := by
  obtain ⟨i0, hi0, hz0, hz1, hz2⟩ := info_parts infoPl
  go_enter Try.func125, Try.ntmps125
  go_wp2_with (at_make; refine wpList_make_full _ rfl _ _ 28 rfl w.heap.size 39 i0 _ 2 Try.underlying28 hi0 hz0 hz1 .i64 .i64 _ _ ps.length rfl rfl rfl rfl (by rw [hz2]; omega) (by unfold maxLen; omega) (Nat.le_refl _) ?_; intro w1 hown hgrow)
  have hlen : (madeCells (Value.agg #[.int .i64 0, .int .i64 0]).cells (ps.length * 2)).toList.length = ps.length * 2 := hown.1
  generalize (madeCells (Value.agg #[.int .i64 0, .int .i64 0]).cells (ps.length * 2)).toList = ys0 at hown hlen
  have HB1 : Hid (Below w.heap.size w w1) := ⟨hgrow.os, hgrow.tape, hgrow.output, hgrow.size, fun k hk => hgrow.block k hk (by simp)⟩
  have Hown := Lib.hid hown
  clear hown hgrow
  go_loopw [4] (fun i wr => ∃ k : Nat, i = .int .i64 (k : Int) ∧ k ≤ ps.length ∧ Hid (Below w.heap.size w wr ∧ ∃ ys, Done (plCells ps) (k * 2) ys ∧ wr.ownsRow w.heap.size 39 2 (.slice (some ⟨w.heap.size, 0, none⟩) ps.length ps.length) ps.length ys)) (fun i _ => ps.length - (intOf i).toNat)
  case atStart => exact ⟨0, rfl, by omega, HB1.out, ys0, ⟨by rw [plCells_length]; exact hlen, fun j hj => by omega⟩, Hown.out⟩
  case round =>
    obtain ⟨k, rfl, hk, hI⟩ := hrel
    by_cases hlt : k < ps.length
    · obtain ⟨hB, ys, hd, ho⟩ := hI.out
      obtain ⟨b, off, rfl, hc⟩ := (hx.out.below hB).resolve_left (fun e => by subst e; simp at hlt)
      obtain ⟨c1, c2⟩ := hc k hlt
      have Hd := Lib.hid hd
      have Ho := Lib.hid ho
      have HB := Lib.hid hB
      have q0 := plCell_0 ps k
      have q1 := plCell_1 ps k
      generalize ps.getD k pl0 = q at c1 c2 q0 q1
      obtain ⟨d, t⟩ := q
      simp only at c1 c2 q0 q1
      have Q0 : Hid ((plCells ps)[k * 2]? = some (.int .i64 d)) := (plCells_get ps _ (by omega)).trans (congrArg some q0)
      have Q1 : Hid ((plCells ps)[k * 2 + 1]? = some (.int .i64 t)) := (plCells_get ps _ (by omega)).trans (congrArg some q1)
      clear hc hd ho hB hI q0 q1
      go_wp2_with fail
      refine (toPlace_any d t _).mono ?_
      rintro e w2 ⟨rfl, hB2⟩
      have HO2 := Lib.hid (own_below Ho.out hB2)
      obtain ⟨x0, f0, hbg, hxl⟩ := own_cell HO2.out (k * 2) (by omega)
      obtain ⟨x1, f1, _, _⟩ := own_cell HO2.out (k * 2 + 1) (by omega)
      rw [List.getElem?_eq_getElem (by omega)] at x0 x1
      generalize ys[k * 2]'(by omega) = y0 at x0
      generalize ys[k * 2 + 1]'(by omega) = y1 at x1
      have HB2 := Lib.hid (HB.out.trans (hB2.mono HB.out.size))
      have HN : Hid (Below w.heap.size w ((w2.setCell ⟨w.heap.size, k * 2, none⟩ (.int .i64 d)).setCell ⟨w.heap.size, k * 2 + 1, none⟩ (.int .i64 t)) ∧ ∃ ys, Done (plCells ps) ((k + 1) * 2) ys ∧ ((w2.setCell ⟨w.heap.size, k * 2, none⟩ (.int .i64 d)).setCell ⟨w.heap.size, k * 2 + 1, none⟩ (.int .i64 t)).ownsRow w.heap.size 39 2 (.slice (some ⟨w.heap.size, 0, none⟩) ps.length ps.length) ps.length ys) :=
        ⟨(HB2.out.setCell (p := ⟨w.heap.size, k * 2, none⟩) (Nat.le_refl _) _).setCell (p := ⟨w.heap.size, k * 2 + 1, none⟩) (Nat.le_refl _) _, _, by rw [show (k + 1) * 2 = k * 2 + 1 + 1 by omega]; exact (Hd.out.next Q0.out).next Q1.out, own_set (own_set HO2.out _ _) _ _⟩
      clear hB2 hxl hbg
      go_wp2
      exact ⟨⟨k + 1, by go_num, by omega, HN⟩, by simp [intOf]; omega⟩
    · obtain rfl : k = ps.length := by omega
      go_wp2
      go_ret
      obtain ⟨hB, ys, hd, ho⟩ := hI.out
      rw [hd.all (by rw [plCells_length]; omega)] at ho
      exact ⟨_, rfl, ho, hB⟩

end Go.Proofs.Ytlonecgmldjdpaa

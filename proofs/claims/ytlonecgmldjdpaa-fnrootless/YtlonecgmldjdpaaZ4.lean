/- RootPlaces of the program: the places that a root uses, in order, each once. Conditions: none but the row's own bound on sizes. -/
import Derived.Test.YtlonecgmldjdpaaZ2
import Derived.Test.YtlonecgmldjdpaaZ3
import Derived.Test.YtlonecgmldjdpaaZ0
import Derived.Test.YtlonecgmldjdpaaUA
import Derived.Test.YtlonecgmldjdpaaAZ
namespace Go.Proofs.Ytlonecgmldjdpaa
open Go.RowKit Go.Sort Go.Lib

theorem plCells_app (ps qs : List PlD) : plCells (ps ++ qs) = plCells ps ++ plCells qs := by
  refine List.ext_getElem? fun i => ?_
  have hl := plCells_length ps
  by_cases hi : i < ps.length * 2
  · rw [plCells_get _ _ (by rw [List.length_append]; omega), List.getElem?_append_left (by omega), plCells_get _ _ hi]
    unfold plCell
    rw [getD_append_left _ _ _ _ (by omega)]
  · rw [List.getElem?_append_right (by omega), hl]
    by_cases h2 : i < (ps.length + qs.length) * 2
    · rw [plCells_get _ _ (by rw [List.length_append]; omega), plCells_get _ _ (by omega)]
      unfold plCell
      rw [getD_append_right _ _ _ _ (by omega), show i / 2 - ps.length = (i - ps.length * 2) / 2 by omega]
      by_cases h0 : i % 2 = 0
      · rw [if_pos h0, if_pos (by omega)]
      · rw [if_neg h0, if_neg (by omega)]
    · rw [List.getElem?_eq_none (by rw [plCells_length, List.length_append]; omega), List.getElem?_eq_none (by rw [plCells_length]; omega)]
theorem plCells_one (ps : List PlD) : ∀ v ∈ plCells ps, v.oneCell' = true := fun v hv => by
  obtain ⟨i, hi, rfl⟩ := List.getElem_of_mem hv
  simp only [plCells, List.getElem_map, plCell]
  split <;> rfl
theorem plNews {w : World} {b off : Nat} {ps : List PlD} (h : PlacesAt w (some ⟨b, off, none⟩) ps) : ∀ j u, (plCells ps)[j]? = some u → w.cell? ((⟨b, off, none⟩ : Addr).add j) = some u := fun j u hu => by
  have hj : j < ps.length * 2 := by have := (List.getElem?_eq_some_iff.1 hu).1; rw [plCells_length] at this; exact this
  rcases h with rfl | ⟨b', off', e, hc⟩
  · simp at hj
  · injection e with e
    injection e with e1 e2
    subst e1
    subst e2
    rw [plCells_get _ _ hj] at hu
    injection hu with hu
    subst hu
    have e : (⟨b, off, none⟩ : Addr).add j = ⟨b, off + j, none⟩ := by
      unfold Addr.add
      by_cases e : j = 0
      · subst e; rfl
      · rw [if_neg e]
    rw [e]
    obtain ⟨h1, h2⟩ := hc (j / 2) (by omega)
    rcases (show j % 2 = 0 ∨ j % 2 = 1 by omega) with hm | hm
    · rw [show j = j / 2 * 2 by omega, plCell_0]; exact h1
    · rw [show j = j / 2 * 2 + 1 by omega, plCell_1, ← Nat.add_assoc]; exact h2
/-- HOW MANY PLACES the first k pointers have. -/
theorem plsTo_short {n : Int} {ps : List PtrD} (hp : Pool n) (h : ∀ p ∈ ps, PtrFine n p) (k : Nat) : (plsTo ps k).length ≤ k * 4 := by
  induction k with
  | zero => simp [plsTo]
  | succ k ih =>
    by_cases hk : k < ps.length
    · rw [plsTo_succ ps k hk, List.length_append]
      have := fine_short (p := ps.getD k ptr0) hp (getD_all.2 h k hk)
      omega
    · have e : plsTo ps (k + 1) = plsTo ps k := by rw [plsTo_all ps (k + 1) (by omega), plsTo_all ps k (by omega)]
      rw [e]
      omega

set_option maxRecDepth 100000 in
set_option maxHeartbeats 4000000 in
theorem implPlaces_ok (nn : Nat) (t : Int) (a : Option Addr) (cap : Nat) (vs : List VolD) (w : World) (hl : vs.length ≤ cap) (hnm : Hid (∀ j, j < vs.length → (vs.getD j vol0).name.size ≤ maxLen)) (hx : Hid (VolsAt w a vs)) (hok : Hid (RootOkP (nn : Int) ⟨t, vs⟩)) :
    Calls Try.prog 11 #[.int .i64 (nn : Int), .agg #[.int .i64 t, .slice a vs.length cap]] w fun e w' => ∃ v, e = .returned v ∧ OwnPl w' w.heap.size v (pick (UsedBy' vs) (gridTo nn)) ∧ Below w.heap.size w w' := by
  have hT : Hid (Threes vs) := hok.out.2.2.1.threes
  obtain ⟨i0, hi0, hz0, hz1, hz2⟩ := info_parts infoPl
  have hlen : (allOf vs).length = vs.length * 3 := by have := allTo_length hT.out vs.length (Nat.le_refl _); rw [allTo_all vs _ (Nat.le_refl _)] at this; exact this
  have h4 := hT.out.1
  have hm12 : (allOf vs).length ≤ 12 := by omega
  clear hlen
  have HFin := Lib.hid (all_fine hok.out)
  have HSh : Hid (∀ k, (plsTo (allOf vs) k).length ≤ k * 4) := fun k => plsTo_short hok.out.1 HFin.out k
  have HFinal : Hid (compactUpTo (srt (plsOf (allOf vs))).toArray (srt (plsOf (allOf vs))).length = pick (UsedBy' vs) (gridTo nn)) := compact_srt nn _ (all_grid hok.out)
  have hB0 : Below w.heap.size w (w.alloc (.cells #[.int .i64 t, .slice a vs.length cap] 25)) := (Below.refl _ _).alloc (Nat.le_refl _) _
  have HB0 := Lib.hid hB0
  clear hB0
  have HR := Lib.hid (fun w' h => implRoot_any (nn : Int) ⟨t, vs⟩ a cap w' hl hnm h)
  rw [tt_true hok.out] at HR
  go_enter Try.func11, Try.ntmps11
  go_wp2_with fail
  refine (HR.out _ (hx.out.below HB0.out)).mono ?_
  rintro e w1 ⟨rfl, hB1⟩
  have HB1 := Lib.hid (HB0.out.trans (hB1.mono HB0.out.size))
  obtain ⟨hc1, _⟩ := bcell hB1
  have b1 : w1.cell? ⟨w.heap.size, 1, none⟩ = some (.slice a vs.length cap) := by rw [hc1 _ _ (by simp), World.cell?_alloc_mark]; rfl
  have hs1 : w.heap.size ≤ w1.heap.size := HB1.out.size
  clear hc1 hB1
  go_wp2_with fail
  refine (ptrsOf_at a cap vs w _ hT HB1 hx).mono ?_
  rintro e w2 ⟨va, xs, rfl, hox, hrow, hB2⟩
  have HB2 := Lib.hid (HB1.out.trans (hB2.mono HB1.out.size))
  have HX2 := Lib.hid (own_mono hox hs1)
  have HRow := Lib.hid hrow
  obtain ⟨aA, cA, rfl⟩ : ∃ aA cA, va = .slice aA (allOf vs).length cA := by
    rcases hox.2 with ⟨rfl, hn⟩ | ⟨g, c, _, rfl, _⟩
    · exact ⟨none, 0, by rw [hn]⟩
    · exact ⟨_, c, rfl⟩
  clear hB2 hox hrow b1
  go_wp2_with fail
  go_loopw [5, 16] (fun o i wr => ∃ k : Nat, i = .int .i64 (k : Int) ∧ k ≤ (allOf vs).length ∧ Hid (SInv w.heap.size w wr o (plsTo (allOf vs) k) (.slice aA (allOf vs).length cA) (allOf vs).length xs)) (fun _ i _ => (allOf vs).length - (intOf i).toNat)
  case atStart => exact ⟨0, rfl, by omega, HB2.out, World.ownsRow_nil _ _ _ _, HX2.out⟩
  case round =>
    obtain ⟨k, rfl, hk, hI⟩ := hrel
    by_cases hlt : k < (allOf vs).length
    · obtain ⟨h1, h2, u, h3, hu⟩ := HRow.out.2 k hlt
      have Hs := Lib.hid (plsTo_succ (allOf vs) k hlt)
      have hsk := HSh.out k
      have hsh := fine_short (p := (allOf vs).getD k ptr0) hok.out.1 (getD_all.2 HFin.out k hlt)
      obtain ⟨hIb, hIo, hIx⟩ := hI.out
      rcases hIx.2 with ⟨hv, hn⟩ | ⟨g, cap', cur, hv, _⟩
      · omega
      · cases hv
        have e0 := (own_cell hIx (k * 3) (by omega)).1
        have e1 := (own_cell hIx (k * 3 + 1) (by omega)).1
        have e2 := (own_cell hIx (k * 3 + 2) (by omega)).1
        rw [h1] at e0
        rw [h2] at e1
        rw [h3] at e2
        have hu' := hu.below hIb
        generalize hg : (allOf vs).getD k ptr0 = q at e0 e1 hu' Hs hsh
        obtain ⟨z, sm, qs⟩ := q
        obtain ⟨a1, c1, rfl, hc1, hm1, hx1⟩ := hu'
        simp only at e0 e1 e2 hc1 hx1 Hs hsh
        have hBa : Below wr.heap.size wr (wr.alloc (.cells #[.int .i64 z, .int .i64 sm, .slice a1 qs.length c1] 36)) := (Below.refl _ _).alloc (Nat.le_refl _) _
        have hI2 := hI.out.below hBa hIb.size
        clear hg h1 h2 h3 hu
        by_cases h0 : qs = []
        · subst h0
          have HN : Hid (SInv w.heap.size w (wr.alloc (.cells #[.int .i64 z, .int .i64 sm, .slice a1 0 c1] 36)) u5 (plsTo (allOf vs) (k + 1)) (.slice (some ⟨g, 0, none⟩) (allOf vs).length cA) (allOf vs).length xs) := by rw [Hs.out, List.append_nil]; exact hI2
          obtain ⟨ao, no, co, rfl, hnc⟩ : ∃ ao no co, u5 = .slice ao no co ∧ no ≤ co := by
            rcases hIo.2 with ⟨rfl, _⟩ | ⟨_, _, _, rfl, _, _, hkc, _⟩
            · exact ⟨none, 0, 0, rfl, Nat.le_refl _⟩
            · exact ⟨_, _, _, rfl, hkc⟩
          clear hI hIb hIo hIx hI2 hBa hx1 Hs
          go_wp2_with (at_builtin; refine wpList_append_zero rfl _ _ 28 rfl 39 i0 Try.underlying28 hi0 _ _ _ rfl hnc _ _ rfl ?_)
          exact ⟨⟨k + 1, by go_num, by omega, HN⟩, by simp [intOf]; omega⟩
        · have hqp : 0 < qs.length := List.length_pos_iff.2 h0
          obtain ⟨b1, o1, rfl, _⟩ := hx1.resolve_left h0
          have hnews := plNews (hx1.below hBa)
          have hone := plCells_one qs
          have hpl := plCells_length qs
          have hown := hI2.2.1
          have hbase : w.heap.size ≤ (wr.alloc (.cells #[.int .i64 z, .int .i64 sm, .slice (some ⟨b1, o1, none⟩) qs.length c1] 36)).heap.size := hI2.1.size
          have HX : Hid (∀ g4 cap4 w4, w4.ownsRow w.heap.size 39 2 (.slice (some ⟨g4, 0, none⟩) ((plsTo (allOf vs) k).length + qs.length) cap4) ((plsTo (allOf vs) k).length + qs.length) (plCells (plsTo (allOf vs) k) ++ plCells qs) → (wr.alloc (.cells #[.int .i64 z, .int .i64 sm, .slice (some ⟨b1, o1, none⟩) qs.length c1] 36)).grownBy w4 u5.ownBlock →
              SInv w.heap.size w w4 (.slice (some ⟨g4, 0, none⟩) ((plsTo (allOf vs) k).length + qs.length) cap4) (plsTo (allOf vs) (k + 1)) (.slice (some ⟨g, 0, none⟩) (allOf vs).length cA) (allOf vs).length xs) := fun g4 cap4 w4 h4 hg4 => by
            refine ⟨hI2.1.grown hg4 hbase (fun i e => (hown.lt i e).1), ?_, hI2.2.2.kept hg4 (own_ne hI2.2.2 hown (by decide))⟩
            rw [Hs.out, List.length_append, plCells_app]
            exact h4
          have Hown := Lib.hid hown
          generalize hN : (plsTo (allOf vs) k).length = N at hsk hown HX
          generalize plCells (plsTo (allOf vs) k) = ys at hown HX
          clear hI hIb hIo hIx hI2 hBa hx1 Hs hN Hown h0
          go_wp2_with (at_builtin; refine wpList_append_lies _ rfl _ _ 28 rfl w.heap.size 39 i0 _ 2 16 Try.underlying28 hi0 hz0 hz1 hz2 rfl (by omega) _ N ys rfl hown ⟨b1, o1, none⟩ qs.length c1 (plCells qs) rfl hpl hnews hone hqp (by simp [maxLen]; omega) (by omega) hbase _ rfl ?_; intro g4 cap4 w4 hown4 hgrow4 hat4 hlt4)
          exact ⟨⟨k + 1, by go_num, by omega, HX.out g4 cap4 w4 hown4 hgrow4⟩, by simp [intOf]; omega⟩
    · obtain rfl : k = (allOf vs).length := by omega
      have hsk := HSh.out (allOf vs).length
      obtain ⟨hIb, hIo, hIx⟩ := hI.out
      have HO : Hid (OwnPl wr w.heap.size u5 (plsTo (allOf vs) (allOf vs).length)) := hIo
      rw [plsTo_all _ _ (Nat.le_refl _)] at HO hsk
      have HBr := Lib.hid hIb
      clear hIb hIo hIx hI
      go_wp2_with fail
      refine (sortPl_any w.heap.size u5 _ _ HBr.out.size (by omega) HO.out).mono ?_
      rintro e w5 ⟨rfl, ho5, hB5⟩
      have HO5 := Lib.hid ho5
      have HB5 := Lib.hid (HBr.out.trans hB5)
      have hl5 := srt_length (plsOf (allOf vs))
      clear ho5 hB5
      go_wp2_with fail
      refine (compactPl_any w.heap.size u5 _ _ (by omega) HO5.out).mono ?_
      rintro e w6 ⟨v6, rfl, ho6, hB6⟩
      rw [HFinal.out] at ho6
      have HO6 := Lib.hid ho6
      have HB6 := Lib.hid (HB5.out.trans hB6)
      clear ho6 hB6 hl5
      go_wp2
      go_ret
      exact ⟨v6, rfl, HO6.out, HB6.out⟩

end Go.Proofs.Ytlonecgmldjdpaa

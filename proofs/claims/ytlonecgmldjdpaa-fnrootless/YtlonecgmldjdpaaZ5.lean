/- RootPlaces of the specification: the places that a root uses, in order, each once. Conditions: none but the row's own bound on sizes. -/
import Derived.Test.YtlonecgmldjdpaaZ0
import Derived.Test.YtlonecgmldjdpaaUA
import Derived.Lib.QuietBelow
namespace Go.Proofs.Ytlonecgmldjdpaa
open Go.RowKit Go.Sort Go.Lib

set_option maxRecDepth 100000 in
set_option maxHeartbeats 8000000 in
theorem specPlaces_ok (nn : Nat) (t : Int) (a : Option Addr) (cap : Nat) (vs : List VolD) (w : World) (hl : vs.length ≤ maxLen) (hnm : Hid (∀ j, j < vs.length → (vs.getD j vol0).name.size ≤ maxLen)) (hx : Hid (VolsAt w a vs)) (hok : Hid (RootOkP (nn : Int) ⟨t, vs⟩)) :
    Calls Try.prog 13 #[.int .i64 (nn : Int), .agg #[.int .i64 t, .slice a vs.length cap]] w fun e w' => ∃ v, e = .returned v ∧ OwnPl w' w.heap.size v (pick (UsedBy' vs) (gridTo nn)) ∧ Below w.heap.size w w' := by
  have hT : Hid (Threes vs) := hok.out.2.2.1.threes
  have hn1 := hok.out.1.1
  have hn2 := hok.out.1.2
  obtain ⟨i0, hi0, hz0, hz1, hz2⟩ := info_parts infoPl
  have hlen : (allOf vs).length = vs.length * 3 := by have := allTo_length hT.out vs.length (Nat.le_refl _); rw [allTo_all vs _ (Nat.le_refl _)] at this; exact this
  have h4 := hT.out.1
  have hB0 : Below w.heap.size w ((w.alloc (.cells #[.int .i64 t, .slice a vs.length cap] 25)).alloc (.cells #[] 39)) := ((Below.refl _ _).alloc (Nat.le_refl _) _).alloc (by simp) _
  have HO0 : Hid (((w.alloc (.cells #[.int .i64 t, .slice a vs.length cap] 25)).alloc (.cells #[] 39)).ownsRow w.heap.size 39 2 (.slice (some ⟨w.heap.size + 1, 0, none⟩) 0 0) 0 []) := by
    have := World.ownsRow_made (e := 39) (size := 2) (w.alloc (.cells #[.int .i64 t, .slice a vs.length cap] 25)) #[] 0 (Nat.le_refl _) (by simp [maxLen]) (by simp)
    simp only [World.size_alloc] at this
    exact own_mono this (by omega)
  have HB0 := Lib.hid hB0
  clear hB0
  have HR := Lib.hid (fun w' h => specRoot_any (nn : Int) ⟨t, vs⟩ a cap w' hl hnm h)
  rw [tt_true hok.out] at HR
  go_enter Try.func13, Try.ntmps13
  go_wp2_with fail
  refine (HR.out _ (hx.out.below HB0.out)).mono ?_
  rintro e w1 ⟨rfl, hB1⟩
  have HO1 := Lib.hid (own_below HO0.out hB1)
  have HB1 := Lib.hid (HB0.out.trans (hB1.mono HB0.out.size))
  obtain ⟨hc1, _⟩ := bcell hB1
  have b0 : w1.cell? ⟨w.heap.size, 0, none⟩ = some (.int .i64 t) := by rw [hc1 _ _ (by simp; omega), World.cell?_alloc_old _ _ _ (by simp), World.cell?_alloc_mark]; rfl
  have b1 : w1.cell? ⟨w.heap.size, 1, none⟩ = some (.slice a vs.length cap) := by rw [hc1 _ _ (by simp; omega), World.cell?_alloc_old _ _ _ (by simp), World.cell?_alloc_mark]; rfl
  have hs1 : w.heap.size ≤ w1.heap.size := HB1.out.size
  clear hc1 hB1
  go_wp2_with fail
  refine (l2All_at t a cap vs w _ hT HB1 hx).mono ?_
  rintro e w2 ⟨va, xs, rfl, hox, hrow, hB2⟩
  obtain ⟨aA, cA, rfl⟩ : ∃ aA cA, va = .slice aA (allOf vs).length cA := by
    rcases hox.2 with ⟨rfl, hn⟩ | ⟨g, c, _, rfl, _⟩
    · exact ⟨none, 0, by rw [hn]⟩
    · exact ⟨_, c, rfl⟩
  have HO2 := Lib.hid (own_below HO1.out hB2)
  have HB2 := Lib.hid (HB1.out.trans (hB2.mono HB1.out.size))
  have HX2 := Lib.hid (own_mono hox hs1)
  have HRow := Lib.hid hrow
  have hm12 : (allOf vs).length ≤ 12 := by omega
  have HU : Hid (∀ q, UsedBy' vs q ↔ ∃ j, j < (allOf vs).length ∧ PlIn q ((allOf vs).getD j ptr0).places) := fun q => mem_plsOf _ q
  clear hB2 hox hrow hlen b0 b1
  go_wp2_with fail
  go_loopw [5, 7] (fun o dv wr => ∃ dN : Nat, dv = .int .i64 (dN : Int) ∧ dN ≤ nn ∧ Hid (SInv w.heap.size w wr o (pick (UsedBy' vs) (gridTo dN)) (.slice aA (allOf vs).length cA) (allOf vs).length xs)) (fun _ dv _ => nn - (intOf dv).toNat)
  case atStart => exact ⟨0, rfl, by omega, HB2.out, HO2.out, HX2.out⟩
  case round =>
    obtain ⟨dN, rfl, hdN, hI⟩ := hrel
    by_cases hlt : dN < nn
    · go_wp2_with fail
      go_loopw [5, 8] (fun o sv wr' => ∃ sN : Nat, sv = .int .i64 (sN : Int) ∧ sN ≤ 12 ∧ Hid (SInv w.heap.size w wr' o (pick (UsedBy' vs) (gridTo dN ++ row12 dN sN)) (.slice aA (allOf vs).length cA) (allOf vs).length xs)) (fun _ sv _ => 12 - (intOf sv).toNat)
      case atStart => exact ⟨0, rfl, by omega, by show SInv _ _ _ _ (pick (UsedBy' vs) (gridTo dN ++ [])) _ _ _; rw [List.append_nil]; exact hI.out⟩
      case round =>
        obtain ⟨sN, rfl, hsN, hI2⟩ := hrel
        clear hI
        by_cases hlt2 : sN < 12
        · have hBp : Below wr.heap.size wr ((wr.alloc (.cells #[.int .i64 (dN : Int), .int .i64 (sN : Int)] 39)).alloc (.cells #[.int .i64 0, .int .i64 0, .slice (some ⟨wr.heap.size, 0, none⟩) 1 1] 36)) := ((Below.refl _ _).alloc (Nat.le_refl _) _).alloc (by simp) _
          have HIp := Lib.hid (hI2.out.below hBp hI2.out.1.size)
          have k0 : ((wr.alloc (.cells #[.int .i64 (dN : Int), .int .i64 (sN : Int)] 39)).alloc (.cells #[.int .i64 0, .int .i64 0, .slice (some ⟨wr.heap.size, 0, none⟩) 1 1] 36)).cell? ⟨wr.heap.size + 1, 0, none⟩ = some (.int .i64 0) := by simp [go_sem]
          have k1 : ((wr.alloc (.cells #[.int .i64 (dN : Int), .int .i64 (sN : Int)] 39)).alloc (.cells #[.int .i64 0, .int .i64 0, .slice (some ⟨wr.heap.size, 0, none⟩) 1 1] 36)).cell? ⟨wr.heap.size + 1, 1, none⟩ = some (.int .i64 0) := by simp [go_sem]
          have k2 : ((wr.alloc (.cells #[.int .i64 (dN : Int), .int .i64 (sN : Int)] 39)).alloc (.cells #[.int .i64 0, .int .i64 0, .slice (some ⟨wr.heap.size, 0, none⟩) 1 1] 36)).cell? ⟨wr.heap.size + 1, 2, none⟩ = some (.slice (some ⟨wr.heap.size, 0, none⟩) 1 1) := by simp [go_sem]
          have hpp : PlacesAt ((wr.alloc (.cells #[.int .i64 (dN : Int), .int .i64 (sN : Int)] 39)).alloc (.cells #[.int .i64 0, .int .i64 0, .slice (some ⟨wr.heap.size, 0, none⟩) 1 1] 36)) (some ⟨wr.heap.size, 0, none⟩) [((dN : Int), (sN : Int))] := .inr ⟨wr.heap.size, 0, rfl, fun j hj => by
            obtain rfl : j = 0 := by simp at hj; exact hj
            exact ⟨by simp [go_sem, List.getD], by simp [go_sem, List.getD]⟩⟩
          have HK0 := Lib.hid k0
          have HK1 := Lib.hid k1
          have HK2 := Lib.hid k2
          have HPP := Lib.hid hpp
          clear hBp k0 k1 k2 hpp hI2
          go_wp2_with fail
          generalize (wr.alloc (.cells #[.int .i64 (dN : Int), .int .i64 (sN : Int)] 39)).alloc (.cells #[.int .i64 0, .int .i64 0, .slice (some ⟨wr.heap.size, 0, none⟩) 1 1] 36) = wB at HIp HK0 HK1 HK2 HPP ⊢
          generalize wr.heap.size = pB at HK0 HK1 HK2 HPP ⊢
          go_loopw [10, 11] (fun bv iv w3 => ∃ (b : Bool) (k : Nat), bv = .bool b ∧ iv = .int .i64 (k : Int) ∧ k ≤ (allOf vs).length ∧ Hid (b = tt (∃ j, j < k ∧ PlIn ((dN : Int), (sN : Int)) ((allOf vs).getD j ptr0).places)) ∧ Hid (Below wB.heap.size wB w3)) (fun _ iv _ => (allOf vs).length - (intOf iv).toNat)
          case atStart => exact ⟨false, 0, rfl, rfl, by omega, (tt_false (by rintro ⟨j, hj, _⟩; omega)).symm, Below.refl _ _⟩
          case round =>
            obtain ⟨b, k, rfl, rfl, hk, hbk, hB⟩ := hrel
            by_cases hlt3 : k < (allOf vs).length
            · have i1 : (k : Int) < ((allOf vs).length : Int) := by omega
              have i0' : (0 : Int) ≤ (k : Int) := by omega
              cases b
              · obtain ⟨h1, h2, u, h3, hu⟩ := HRow.out.2 k hlt3
                have hI3 := HIp.out.below hB.out HIp.out.1.size
                have hIx := hI3.2.2
                rcases hIx.2 with ⟨hv, hn⟩ | ⟨g, cap', cur, hv, _⟩
                · omega
                · cases hv
                  have e0 := (own_cell hIx (k * 3) (by omega)).1
                  have e1 := (own_cell hIx (k * 3 + 1) (by omega)).1
                  have e2 := (own_cell hIx (k * 3 + 2) (by omega)).1
                  rw [h1] at e0
                  rw [h2] at e1
                  rw [h3] at e2
                  have hu' := hu.below hI3.1
                  generalize hg : (allOf vs).getD k ptr0 = q at e0 e1 hu'
                  have Hg := Lib.hid hg
                  obtain ⟨z, sm, qs⟩ := q
                  obtain ⟨a1, c1, rfl, hc1, hm1, hx1⟩ := hu'
                  simp only at e0 e1 e2 hc1 hx1
                  have c0 := cell_below hB.out HK0.out
                  have c1' := cell_below hB.out HK1.out
                  have c2 := cell_below hB.out HK2.out
                  have hp1 := HPP.out.below hB.out
                  have HM := Lib.hid (fun w' (hw : Below wr.heap.size wr w') => l2Meet_any 0 0 z sm (some ⟨pB, 0, none⟩) a1 1 c1 [((dN : Int), (sN : Int))] qs w' (by simp [maxLen]) (by omega) (hp1.below hw) (hx1.below hw))
                  have HV : Hid (tt (Meet [((dN : Int), (sN : Int))] qs) = tt (∃ j, j < k + 1 ∧ PlIn ((dN : Int), (sN : Int)) ((allOf vs).getD j ptr0).places)) := by
                    refine tt_congr ((meet_one _ _).trans ⟨fun h => ⟨k, by omega, by rw [Hg.out]; exact h⟩, ?_⟩)
                    rintro ⟨j, hj, h⟩
                    by_cases e : j = k
                    · subst e; rw [Hg.out] at h; exact h
                    · exact absurd hbk.out.symm (by rw [tt_true ⟨j, by omega, h⟩]; simp)
                  generalize tt (Meet [((dN : Int), (sN : Int))] qs) = b2 at HM HV
                  have g0 := cell_regrown e0
                  have g1 := cell_regrown e1
                  have g2 := cell_regrown e2
                  have g3 := cell_regrown c0
                  have g4 := cell_regrown c1'
                  have g5 := cell_regrown c2
                  clear h1 h2 h3 hu hI3 hIx hg e0 e1 e2 c0 c1' c2 hp1 hx1 hbk
                  go_wp2_with fail
                  refine wp_region_quiet_below (by kernel_rfl) (by kernel_rfl) ?_
                  repeat (go_big_quiet_step ((go_at_call 36; with_reducible exact Calls.regrown_of (HM.out _ (below_regrown _ _ _)))))
                  refine wpQuiet_nil ?_
                  intro w9 hw9
                  have HB9 : Hid (Below wB.heap.size wB w9) := by obtain ⟨p, rfl⟩ := hw9; exact rg_below hB.out _ _
                  clear hw9
                  go_wp2
                  exact ⟨⟨b2, k + 1, rfl, by go_num, by omega, HV, HB9⟩, by simp [intOf]; omega⟩
              · have HV : Hid (true = tt (∃ j, j < k + 1 ∧ PlIn ((dN : Int), (sN : Int)) ((allOf vs).getD j ptr0).places)) := by
                  obtain ⟨j, hj, h⟩ := (tt_iff _).1 hbk.out.symm
                  exact (tt_true ⟨j, by omega, h⟩).symm
                clear hbk
                go_wp2_with fail
                refine wp_region_quiet_below (by kernel_rfl) (by kernel_rfl) ?_
                repeat (go_big_quiet_step (fail))
                refine wpQuiet_nil ?_
                intro w9 hw9
                have HB9 : Hid (Below wB.heap.size wB w9) := by obtain ⟨p, rfl⟩ := hw9; exact rg_below hB.out _ _
                clear hw9
                go_wp2
                exact ⟨⟨true, k + 1, rfl, by go_num, by omega, HV, HB9⟩, by simp [intOf]; omega⟩
            · obtain rfl : k = (allOf vs).length := by omega
              have hI3 := HIp.out.below hB.out HIp.out.1.size
              have hlp := pick_length_le (UsedBy' vs) (gridTo dN ++ row12 dN sN)
              rw [List.length_append, grid_length, row_length] at hlp
              cases b
              · have HN : Hid (SInv w.heap.size w wr u5 (pick (UsedBy' vs) (gridTo dN ++ row12 dN (sN + 1))) (.slice aA (allOf vs).length cA) (allOf vs).length xs) := by
                  have hn : ¬UsedBy' vs ((dN : Int), (sN : Int)) := fun h => by
                    have := tt_true ((HU.out _).1 h)
                    rw [← hbk.out] at this
                    cases this
                  rw [row_succ, ← List.append_assoc, pick_append, pickNone _ _ hn, List.append_nil]
                  exact hI3
                clear hI3 hbk
                go_wp2
                exact ⟨⟨sN + 1, by go_num, by omega, HN⟩, by simp [intOf]; omega⟩
              · have hyes : UsedBy' vs ((dN : Int), (sN : Int)) := (HU.out _).2 ((tt_iff _).1 hbk.out.symm)
                have hown := hI3.2.1.alloc (.cells #[.int .i64 (dN : Int), .int .i64 (sN : Int)] 39)
                have hnews := news_pl wr (.int .i64 (dN : Int)) (.int .i64 (sN : Int)) 39 wr.heap.size rfl
                have hbase : w.heap.size ≤ (wr.alloc (.cells #[.int .i64 (dN : Int), .int .i64 (sN : Int)] 39)).heap.size := by have := hI3.1.size; simp; omega
                have HX : Hid (∀ g4 cap4 w4, w4.ownsRow w.heap.size 39 2 (.slice (some ⟨g4, 0, none⟩) ((pick (UsedBy' vs) (gridTo dN ++ row12 dN sN)).length + 1) cap4) ((pick (UsedBy' vs) (gridTo dN ++ row12 dN sN)).length + 1) (plCells (pick (UsedBy' vs) (gridTo dN ++ row12 dN sN)) ++ [.int .i64 (dN : Int), .int .i64 (sN : Int)]) → (wr.alloc (.cells #[.int .i64 (dN : Int), .int .i64 (sN : Int)] 39)).grownBy w4 u5.ownBlock →
                    SInv w.heap.size w w4 (.slice (some ⟨g4, 0, none⟩) ((pick (UsedBy' vs) (gridTo dN ++ row12 dN sN)).length + 1) cap4) (pick (UsedBy' vs) (gridTo dN ++ row12 dN (sN + 1))) (.slice aA (allOf vs).length cA) (allOf vs).length xs) := fun g4 cap4 w4 h4 hg4 => by
                  have hBa : Below wr.heap.size wr (wr.alloc (.cells #[.int .i64 (dN : Int), .int .i64 (sN : Int)] 39)) := (Below.refl _ _).alloc (Nat.le_refl _) _
                  have hI4 := hI3.below hBa hI3.1.size
                  refine ⟨hI4.1.grown hg4 hbase (fun i e => (hown.lt i e).1), ?_, hI4.2.2.kept hg4 (own_ne hI4.2.2 hown (by decide))⟩
                  have e : pick (UsedBy' vs) (gridTo dN ++ row12 dN (sN + 1)) = pick (UsedBy' vs) (gridTo dN ++ row12 dN sN) ++ [((dN : Int), (sN : Int))] := by
                    rw [row_succ, ← List.append_assoc, pick_append (UsedBy' vs) (gridTo dN ++ row12 dN sN), pick_one _ _ hyes]
                  rw [e, List.length_append, plCells_add]
                  exact h4
                generalize hN : (pick (UsedBy' vs) (gridTo dN ++ row12 dN sN)).length = N at hlp hown HX
                generalize plCells (pick (UsedBy' vs) (gridTo dN ++ row12 dN sN)) = ys at hown HX
                clear hI3 hbk hN hyes
                go_wp2_with (at_builtin; refine wpList_append_lies _ rfl _ _ 28 rfl w.heap.size 39 i0 _ 2 16 Try.underlying28 hi0 hz0 hz1 hz2 rfl (by omega) _ N ys rfl hown ⟨_, 0, none⟩ 1 1 [.int .i64 (dN : Int), .int .i64 (sN : Int)] rfl rfl hnews (by simp [Value.oneCell']) (by omega) (by simp [maxLen]; omega) (by omega) hbase _ rfl ?_; intro g4 cap4 w4 hown4 hgrow4 hat4 hlt4)
                exact ⟨⟨sN + 1, by go_num, by omega, HX.out g4 cap4 w4 hown4 hgrow4⟩, by simp [intOf]; omega⟩
        · obtain rfl : sN = 12 := by omega
          have HN : Hid (SInv w.heap.size w wr u5 (pick (UsedBy' vs) (gridTo (dN + 1))) (.slice aA (allOf vs).length cA) (allOf vs).length xs) := by rw [grid_succ]; exact hI2
          go_wp2
          exact ⟨⟨dN + 1, by go_num, by omega, HN⟩, by simp [intOf]; omega⟩
    · obtain rfl : dN = nn := by omega
      go_wp2
      go_ret
      exact ⟨_, rfl, hI.out.2.1, hI.out.1⟩

end Go.Proofs.Ytlonecgmldjdpaa

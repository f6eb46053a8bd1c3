/- PtrOk of the program. Conditions: none but the row's own bound on sizes. -/
import Derived.Test.YtceielkcplcccaaGreatDoorPKMK
import Derived.Test.YtceielkcplcccaaGreatDoorPKS2
import Derived.Lib.QuietBelow
namespace Go.Proofs.YtceielkcplcccaaGreatDoor
open Go.RowKit Go.Sort

set_option maxRecDepth 100000 in
set_option maxHeartbeats 2000000 in
theorem implPtr_any (n : Int) (p : PtrD) (a : Option Addr) (cap : Nat) (w : World) (hl : p.places.length ≤ maxLen) (hx : Hid (PlacesAt w a p.places)) :
    Calls Tryz.prog 65 #[.int .i64 n, .agg #[.int .i64 p.size, .int .i64 p.sum, .slice a p.places.length cap]] w fun e w' => e = .returned (.bool (tt (PtrOkP n p))) ∧ Below w.heap.size w w' := by
  have HN := Lib.hid (fun w' => isNothing_any p a cap w')
  have HR := Lib.hid (show ¬Pool n → tt (PtrOkP n p) = false from fun h => tt_false (fun k => h k.1))
  have HR1 := Lib.hid (show Pool n → Nothing p → tt (PtrOkP n p) = true from fun h k => tt_true ⟨h, .inl k⟩)
  have HR2 := Lib.hid (show Pool n → ¬Nothing p → tt (PtrOkP n p) = tt (Told n p) from fun h k => tt_congr ⟨fun q => q.2.resolve_left k, fun q => ⟨h, .inr q⟩⟩)
  generalize htn : tt (Nothing p) = bn at HN
  have Hn := Lib.hid (show bn = true → Nothing p from fun h => (tt_iff _).1 (htn.trans h))
  have Hn' := Lib.hid (show bn = false → ¬Nothing p from fun h k => by rw [tt_true k] at htn; rw [← htn] at h; cases h)
  clear htn
  generalize tt (PtrOkP n p) = r at HR HR1 HR2 ⊢
  obtain ⟨z, s, ps⟩ := p
  simp only at HN hx hl ⊢
  unfold maxLen at hl
  by_cases hp : Pool n
  · have HP := Lib.hid (fun w' => isPool_any n w')
    rw [tt_true hp] at HP
    have Hp := Lib.hid hp
    have hp' := hp
    obtain ⟨hn1, hn2⟩ := hp'
    clear hp
    cases bn
    · have HT : Hid (r = tt (Told n ⟨z, s, ps⟩)) := HR2.out Hp.out (Hn'.out rfl)
      have HM := Lib.hid (fun w' => sizeMax_any n w' Hp.out)
      have Told' : Hid (Told n ⟨z, s, ps⟩ ↔ 1 ≤ z ∧ z ≤ 3 * min 3 (n - 1) ∧ 0 ≤ s ∧ s ≤ 1000000000 ∧ (ps.length : Int) = (z + 2) / 3 + 1 ∧ PlacesOk n ps) := Iff.rfl
      have hM9 : 3 * min 3 (n - 1) ≤ 9 := by omega
      generalize 3 * min 3 (n - 1) = M at HM Told' hM9
      clear HR HR1 HR2 Hn Hn'
      go_enter Tryz.func65, Tryz.ntmps65
      go_wp2_with fail
      refine (HP.out _).mono ?_
      rintro e w1 ⟨rfl, rfl⟩
      go_wp2_with fail
      refine (HN.out _).mono ?_
      rintro e w1 ⟨rfl, hB1⟩
      have hB0 : Below w.heap.size w (w.alloc (.cells #[.int .i64 z, .int .i64 s, .slice a ps.length cap] 65)) := (Below.refl _ _).alloc (Nat.le_refl _) _
      have c0 : w1.cell? ⟨w.heap.size, 0, none⟩ = some (.int .i64 z) := (hB1.cell (p := ⟨w.heap.size, 0, none⟩) (by simp)).trans (by rw [World.cell?_alloc_mark]; rfl)
      have c1 : w1.cell? ⟨w.heap.size, 1, none⟩ = some (.int .i64 s) := (hB1.cell (p := ⟨w.heap.size, 1, none⟩) (by simp)).trans (by rw [World.cell?_alloc_mark]; rfl)
      have c2 : w1.cell? ⟨w.heap.size, 2, none⟩ = some (.slice a ps.length cap) := (hB1.cell (p := ⟨w.heap.size, 2, none⟩) (by simp)).trans (by rw [World.cell?_alloc_mark]; rfl)
      have HB := Lib.hid (hB0.trans (hB1.mono hB0.size))
      have hsz : w.heap.size < w1.heap.size := by have := hB1.size; simp at this; omega
      clear hB1 hB0
      have g0 := cell_regrown c0
      have g1 := cell_regrown c1
      have g2 := cell_regrown c2
      clear c0 c1 c2
      by_cases h1 : 1 ≤ z
      · have d1 : decide (1 ≤ z) = true := by simp; omega
        by_cases h2 : z ≤ M
        · have d2 : decide (z ≤ M) = true := by simp; omega
          by_cases h3 : 0 ≤ s
          · have d3 : decide (0 ≤ s) = true := by simp; omega
            by_cases h4 : s ≤ 1000000000
            · have d4 : decide (s ≤ 1000000000) = true := by simp; omega
              have HC := Lib.hid (fun w' => cols_any z s (.slice a ps.length cap) w' (by omega) (by omega))
              have hcb : 0 ≤ (z + 2) / 3 ∧ (z + 2) / 3 ≤ 10 := by omega
              generalize (z + 2) / 3 = c at HC Told' hcb
              by_cases h5 : (ps.length : Int) = c + 1
              · have d5 : ((ps.length : Int) == c + 1) = true := by simp; omega
                have HA := Lib.hid (fun w' (h : Below w.heap.size w w') => arePlaces_any n a cap ps w' Hp.out (by unfold maxLen; omega) (hx.out.below h))
                have HF : Hid (r = tt (PlacesOk n ps)) := HT.out.trans (tt_congr ⟨fun h => (Told'.out.1 h).2.2.2.2.2, fun h => Told'.out.2 ⟨h1, h2, h3, h4, h5, h⟩⟩)
                clear h5
                go_wp2_with fail
                refine wp_region_quiet_below (by kernel_rfl) (by kernel_rfl) ?_
                repeat (go_big_quiet_step (first | (go_at_call 86; exact rg_same (HM.out _)) | (go_at_call 87; exact Calls.regrown_of (HC.out _)) | (go_at_call 88; exact Calls.regrown_of (HA.out _ (rg_below HB.out _ _)))))
                refine wpQuiet_nil ?_
                intro w9 hw9
                have HB9 : Hid (Below w.heap.size w w9) := by obtain ⟨p, rfl⟩ := hw9; exact rg_below HB.out _ _
                clear hw9
                go_wp2
                go_ret
                exact ⟨ret_bool' HF.out.symm, HB9.out⟩
              · have d5 : ((ps.length : Int) == c + 1) = false := by simp; omega
                have HF := Lib.hid (HT.out.trans (tt_false (fun h => h5 (Told'.out.1 h).2.2.2.2.1)))
                clear h5
                go_wp2_with fail
                refine wp_region_quiet_below (by kernel_rfl) (by kernel_rfl) ?_
                repeat (go_big_quiet_step (first | (go_at_call 86; exact rg_same (HM.out _)) | (go_at_call 87; exact Calls.regrown_of (HC.out _))))
                refine wpQuiet_nil ?_
                intro w9 hw9
                have HB9 : Hid (Below w.heap.size w w9) := by obtain ⟨p, rfl⟩ := hw9; exact rg_below HB.out _ _
                clear hw9
                go_wp2
                go_ret
                exact ⟨ret_bool' HF.out.symm, HB9.out⟩
            · have d4 : decide (s ≤ 1000000000) = false := by simp; omega
              have HF := Lib.hid (HT.out.trans (tt_false (fun h => h4 (Told'.out.1 h).2.2.2.1)))
              go_wp2_with fail
              refine wp_region_quiet_below (by kernel_rfl) (by kernel_rfl) ?_
              repeat (go_big_quiet_step (first | (go_at_call 86; exact rg_same (HM.out _))))
              refine wpQuiet_nil ?_
              intro w9 hw9
              have HB9 : Hid (Below w.heap.size w w9) := by obtain ⟨p, rfl⟩ := hw9; exact rg_below HB.out _ _
              clear hw9
              go_wp2
              go_ret
              exact ⟨ret_bool' HF.out.symm, HB9.out⟩
          · have d3 : decide (0 ≤ s) = false := by simp; omega
            have HF := Lib.hid (HT.out.trans (tt_false (fun h => h3 (Told'.out.1 h).2.2.1)))
            go_wp2_with fail
            refine wp_region_quiet_below (by kernel_rfl) (by kernel_rfl) ?_
            repeat (go_big_quiet_step (first | (go_at_call 86; exact rg_same (HM.out _))))
            refine wpQuiet_nil ?_
            intro w9 hw9
            have HB9 : Hid (Below w.heap.size w w9) := by obtain ⟨p, rfl⟩ := hw9; exact rg_below HB.out _ _
            clear hw9
            go_wp2
            go_ret
            exact ⟨ret_bool' HF.out.symm, HB9.out⟩
        · have d2 : decide (z ≤ M) = false := by simp; omega
          have HF := Lib.hid (HT.out.trans (tt_false (fun h => h2 (Told'.out.1 h).2.1)))
          go_wp2_with fail
          refine wp_region_quiet_below (by kernel_rfl) (by kernel_rfl) ?_
          repeat (go_big_quiet_step (first | (go_at_call 86; exact rg_same (HM.out _))))
          refine wpQuiet_nil ?_
          intro w9 hw9
          have HB9 : Hid (Below w.heap.size w w9) := by obtain ⟨p, rfl⟩ := hw9; exact rg_below HB.out _ _
          clear hw9
          go_wp2
          go_ret
          exact ⟨ret_bool' HF.out.symm, HB9.out⟩
      · have d1 : decide (1 ≤ z) = false := by simp; omega
        have HF := Lib.hid (HT.out.trans (tt_false (fun h => h1 (Told'.out.1 h).1)))
        go_wp2_with fail
        refine wp_region_quiet_below (by kernel_rfl) (by kernel_rfl) ?_
        repeat (go_big_quiet_step (fail))
        refine wpQuiet_nil ?_
        intro w9 hw9
        have HB9 : Hid (Below w.heap.size w w9) := by obtain ⟨p, rfl⟩ := hw9; exact rg_below HB.out _ _
        clear hw9
        go_wp2
        go_ret
        exact ⟨ret_bool' HF.out.symm, HB9.out⟩
    · have HT : Hid (r = true) := HR1.out Hp.out (Hn.out rfl)
      go_enter Tryz.func65, Tryz.ntmps65
      go_wp2_with fail
      refine (HP.out _).mono ?_
      rintro e w1 ⟨rfl, rfl⟩
      go_wp2_with fail
      refine (HN.out _).mono ?_
      rintro e w1 ⟨rfl, hB1⟩
      have hB0 : Below w.heap.size w (w.alloc (.cells #[.int .i64 z, .int .i64 s, .slice a ps.length cap] 65)) := (Below.refl _ _).alloc (Nat.le_refl _) _
      go_wp2
      go_ret
      exact ⟨ret_bool' HT.out.symm, hB0.trans (hB1.mono hB0.size)⟩
  · have HP := Lib.hid (fun w' => isPool_any n w')
    rw [tt_false hp] at HP
    have HT : Hid (r = false) := HR.out hp
    clear hp
    go_enter Tryz.func65, Tryz.ntmps65
    go_wp2_with fail
    refine (HP.out _).mono ?_
    rintro e w1 ⟨rfl, rfl⟩
    go_wp2
    go_ret
    exact ⟨ret_bool' HT.out.symm, (Below.refl _ _).alloc (Nat.le_refl _) _⟩

end Go.Proofs.YtceielkcplcccaaGreatDoor

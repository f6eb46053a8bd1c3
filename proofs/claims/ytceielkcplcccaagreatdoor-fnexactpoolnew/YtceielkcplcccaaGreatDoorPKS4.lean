/- PtrOk of the specification. Conditions: none but the row's own bound on sizes. -/
import Derived.Test.YtceielkcplcccaaGreatDoorPKS3
namespace Go.Proofs.YtceielkcplcccaaGreatDoor
open Go.RowKit Go.Sort

set_option maxRecDepth 100000 in
set_option maxHeartbeats 2000000 in
theorem l2Ptr_any (n : Int) (p : PtrD) (a : Option Addr) (cap : Nat) (w : World) (hp : Pool n) (hl : p.places.length ≤ maxLen) (hx : Hid (PlacesAt w a p.places)) :
    Calls Tryz.prog 83 #[.int .i64 n, .agg #[.int .i64 p.size, .int .i64 p.sum, .slice a p.places.length cap]] w fun e w' => e = .returned (.bool (tt (PtrFine n p))) ∧ Below w.heap.size w w' := by
  obtain ⟨hn1, hn2⟩ := hp
  obtain ⟨z, s, ps⟩ := p
  have HN := Lib.hid (show Nothing ⟨z, s, ps⟩ ↔ z = 0 ∧ s = 0 ∧ ps = [] from Iff.rfl)
  have HT := Lib.hid (show Told n ⟨z, s, ps⟩ ↔ 1 ≤ z ∧ z ≤ 3 * min 3 (n - 1) ∧ 0 ≤ s ∧ s ≤ 1000000000 ∧ (ps.length : Int) = (z + 2) / 3 + 1 ∧ PlacesOk n ps from Iff.rfl)
  have HP := Lib.hid (show PtrFine n ⟨z, s, ps⟩ ↔ Nothing ⟨z, s, ps⟩ ∨ Told n ⟨z, s, ps⟩ from Iff.rfl)
  simp only at hl hx ⊢
  have hB : Below w.heap.size w (w.alloc (.cells #[.int .i64 z, .int .i64 s, .slice a ps.length cap] 65)) := (Below.refl _ _).alloc (Nat.le_refl _) _
  by_cases hz : z = 0
  · have dz : ((z : Int) == 0) = true := by simp; omega
    by_cases hs : s = 0
    · have ds : ((s : Int) == 0) = true := by simp; omega
      by_cases h0 : ps = []
      · have d0 : ((ps.length : Int) == 0) = true := by rw [h0]; rfl
        have HF := Lib.hid (tt_true (HP.out.2 (.inl (HN.out.2 ⟨hz, hs, h0⟩))))
        have HB := Lib.hid hB
        clear hz hs h0 hB
        go_enter Tryz.func83, Tryz.ntmps83
        go_wp2
        go_ret
        exact ⟨ret_bool' HF.out.symm, HB.out⟩
      · have d0 : ((ps.length : Int) == 0) = false := by simp [h0]
        have HF := Lib.hid (tt_false (fun h => (HP.out.1 h).elim (fun h => h0 (HN.out.1 h).2.2) (fun h => by have := (HT.out.1 h).1; omega)))
        have HB := Lib.hid hB
        clear hz hs h0 hB
        go_enter Tryz.func83, Tryz.ntmps83
        go_wp2
        go_ret
        exact ⟨ret_bool' HF.out.symm, HB.out⟩
    · have ds : ((s : Int) == 0) = false := by simp; omega
      have HF := Lib.hid (tt_false (fun h => (HP.out.1 h).elim (fun h => hs (HN.out.1 h).2.1) (fun h => by have := (HT.out.1 h).1; omega)))
      have HB := Lib.hid hB
      clear hz hs hB
      go_enter Tryz.func83, Tryz.ntmps83
      go_wp2
      go_ret
      exact ⟨ret_bool' HF.out.symm, HB.out⟩
  · have dz : ((z : Int) == 0) = false := by simp; omega
    have HP' : Hid (PtrFine n ⟨z, s, ps⟩ ↔ Told n ⟨z, s, ps⟩) := ⟨fun h => (HP.out.1 h).resolve_left (fun h => hz (HN.out.1 h).1), fun h => HP.out.2 (.inr h)⟩
    have c0 : (w.alloc (.cells #[.int .i64 z, .int .i64 s, .slice a ps.length cap] 65)).cell? ⟨w.heap.size, 0, none⟩ = some (.int .i64 z) := by rw [World.cell?_alloc_mark]; rfl
    have c1 : (w.alloc (.cells #[.int .i64 z, .int .i64 s, .slice a ps.length cap] 65)).cell? ⟨w.heap.size, 1, none⟩ = some (.int .i64 s) := by rw [World.cell?_alloc_mark]; rfl
    have c2 : (w.alloc (.cells #[.int .i64 z, .int .i64 s, .slice a ps.length cap] 65)).cell? ⟨w.heap.size, 2, none⟩ = some (.slice a ps.length cap) := by rw [World.cell?_alloc_mark]; rfl
    have hsz : w.heap.size < (w.alloc (.cells #[.int .i64 z, .int .i64 s, .slice a ps.length cap] 65)).heap.size := by simp
    have HX : Hid (PlacesAt (w.alloc (.cells #[.int .i64 z, .int .i64 s, .slice a ps.length cap] 65)) a ps) := hx.out.below hB
    have HB := Lib.hid hB
    have H0 := Lib.hid c0
    have H1 := Lib.hid c1
    have H2 := Lib.hid c2
    clear hz hB HN HP c0 c1 c2
    go_enter Tryz.func83, Tryz.ntmps83
    go_wp2_with fail
    generalize w.alloc (.cells #[.int .i64 z, .int .i64 s, .slice a ps.length cap] 65) = w1 at HB H0 H1 H2 hsz HX ⊢
    have c0 := H0.out
    have c1 := H1.out
    have c2 := H2.out
    have g0 := cell_regrown c0
    have g1 := cell_regrown c1
    have g2 := cell_regrown c2
    clear c0 c1 c2
    by_cases h1 : 1 ≤ z ∧ z ≤ 3 * min 3 (n - 1)
    · have HC := Lib.hid (fun w' => l2Cols_any z w' (by omega) (by omega))
      have hcb : 0 ≤ (z + 2) / 3 ∧ (z + 2) / 3 ≤ 10 := by omega
      generalize (z + 2) / 3 = c at HC HT hcb
      by_cases h2 : 0 ≤ s ∧ s ≤ 1000000000
      · by_cases h3 : (ps.length : Int) = c + 1
        · have d3 : ((ps.length : Int) != c + 1) = false := by simp; omega
          have HF : Hid (tt (PtrFine n ⟨z, s, ps⟩) = tt (PlacesOk n ps)) := tt_congr (HP'.out.trans (HT.out.trans ⟨fun h => h.2.2.2.2.2, fun h => ⟨h1.1, h1.2, h2.1, h2.2, h3, h⟩⟩))
          have hlen : ps.length ≤ 11 := by omega
          clear h3 HT HP'
          rcases (show n = 3 ∨ n = 4 by omega) with rfl | rfl
          · refine wp_region_quiet_below (by kernel_rfl) (by kernel_rfl) ?_
            repeat (go_big_quiet_step (first | (go_at_call 22; refine rg_same (in_yes _ _ _ _ ?_); omega) | (go_at_call 22; refine rg_same (in_no _ _ _ _ ?_); omega) | (go_at_call 101; exact rg_same (HC.out _))))
            refine wpQuiet_nil ?_
            intro w9 hw9
            have HB9 : Hid (Below w1.heap.size w1 w9) := by obtain ⟨p, rfl⟩ := hw9; exact below_regrown _ _ _
            clear hw9
            clear g0 g1 g2 h1 h2 HC hcb d3
            go_wp2_with fail
            go_loopw [5] (fun i wr => ∃ k : Nat, i = .int .i64 (k : Int) ∧ k ≤ ps.length ∧ Hid (Below w1.heap.size w1 wr) ∧ Hid (PlacesOk 3 (ps.take k))) (fun i _ => ps.length - (intOf i).toNat)
            case atStart => exact ⟨0, rfl, by omega, HB9, fun j hj => by simp at hj⟩
            case round =>
              obtain ⟨k, rfl, hk, hBr, hok⟩ := hrel
              have c2 := cell_below hBr.out H2.out
              by_cases hlt : k < ps.length
              · obtain ⟨b, off, rfl, hc⟩ := (HX.out.below hBr.out).resolve_left (fun e => by subst e; simp at hlt)
                have Hc := Lib.hid hc
                obtain ⟨e1, e2⟩ := hc k hlt
                clear hc
                generalize hg : ps.getD k pl0 = q at e1 e2
                have Hg := Lib.hid hg
                clear hg
                obtain ⟨d, t⟩ := q
                simp only at e1 e2
                by_cases h1 : 0 ≤ d ∧ d ≤ 3 - 1
                · by_cases h2 : 0 ≤ t ∧ t ≤ 11
                  · go_wp2_with fail
                    refine (in_yes _ _ _ _ (by omega)).mono ?_
                    rintro e w8 ⟨rfl, rfl⟩
                    go_wp2_with fail
                    refine (in_yes _ _ _ _ (by omega)).mono ?_
                    rintro e w8 ⟨rfl, rfl⟩
                    go_wp2_with fail
                    go_loopw [6] (fun i wq => ∃ m : Nat, i = .int .i64 (m : Int) ∧ m ≤ k ∧ Hid (Below w1.heap.size w1 wq) ∧ Hid (∀ j, j < m → (ps.getD j pl0).1 ≠ d)) (fun i _ => k - (intOf i).toNat)
                    case atStart => exact ⟨0, rfl, by omega, hBr, fun j hj => by omega⟩
                    case round =>
                      obtain ⟨m, rfl, hm, hBq, hne⟩ := hrel
                      have c2' := cell_below hBq.out H2.out
                      obtain ⟨b', off', eb, hc'⟩ := (HX.out.below hBq.out).resolve_left (fun e => by subst e; simp at hlt)
                      injection eb with eb
                      injection eb with eb1 eb2
                      subst eb1
                      subst eb2
                      have f1 := (hc' k hlt).1
                      rw [Hg.out] at f1
                      simp only at f1
                      by_cases hmk : m < k
                      · have f2 := (hc' m (by omega)).1
                        clear hc'
                        generalize hgm : (ps.getD m pl0).1 = d2 at f2
                        have Hgm := Lib.hid hgm
                        clear hgm
                        have i1 : (m : Int) < (ps.length : Int) := by omega
                        have i0 : (0 : Int) ≤ (m : Int) := by omega
                        have i2 : (k : Int) < (ps.length : Int) := by omega
                        have i3 : (0 : Int) ≤ (k : Int) := by omega
                        by_cases hd : d2 = d
                        · have dd : ((d2 : Int) == d) = true := by simp; omega
                          have HR := Lib.hid (HF.out.trans (tt_false (fun h => by have := (h k hlt).2 m hmk; rw [Hg.out, Hgm.out] at this; exact this hd)))
                          clear hd
                          go_wp2_with fail
                          go_quiet (fail)
                          go_wp2
                          go_ret
                          exact ⟨ret_bool' HR.out.symm, belowN (HB.out.trans (hBq.out.mono HB.out.size)) _⟩
                        · have dd : ((d2 : Int) == d) = false := by simp; omega
                          have HN : Hid (∀ j, j < m + 1 → (ps.getD j pl0).1 ≠ d) := fun j hj => by
                            by_cases e : j = m
                            · subst e; rw [Hgm.out]; exact hd
                            · exact hne.out j (by omega)
                          clear hd
                          go_wp2_with fail
                          go_quiet (fail)
                          go_wp2
                          exact ⟨⟨m + 1, by go_num, by omega, belowN hBq.out _, HN⟩, by simp [intOf]; omega⟩
                      · obtain rfl : m = k := by omega
                        have HO : Hid (PlacesOk 3 (ps.take (m + 1))) := placesOk_next hlt hok.out (by rw [Hg.out]; exact ⟨h1.1, h1.2, h2.1, h2.2⟩) (fun i hi => by rw [Hg.out]; exact hne.out i hi)
                        clear hc'
                        go_wp2
                        exact ⟨⟨m + 1, by go_num, by omega, hBq, HO⟩, by simp [intOf]; omega⟩
                  · go_wp2_with fail
                    refine (in_yes _ _ _ _ (by omega)).mono ?_
                    rintro e w8 ⟨rfl, rfl⟩
                    go_wp2_with fail
                    refine (in_no _ _ _ _ (by omega)).mono ?_
                    rintro e w8 ⟨rfl, rfl⟩
                    have HR := Lib.hid (HF.out.trans (tt_false (fun h => h2 (by have := (h k hlt).1; rw [Hg.out] at this; exact ⟨this.2.2.1, this.2.2.2⟩))))
                    go_wp2
                    go_ret
                    exact ⟨ret_bool' HR.out.symm, HB.out.trans (hBr.out.mono HB.out.size)⟩
                · go_wp2_with fail
                  refine (in_no _ _ _ _ (by omega)).mono ?_
                  rintro e w8 ⟨rfl, rfl⟩
                  have HR := Lib.hid (HF.out.trans (tt_false (fun h => h1 (by have := (h k hlt).1; rw [Hg.out] at this; exact ⟨this.1, this.2.1⟩))))
                  go_wp2
                  go_ret
                  exact ⟨ret_bool' HR.out.symm, HB.out.trans (hBr.out.mono HB.out.size)⟩
              · have HR := Lib.hid (HF.out.trans (tt_true (by have := hok.out; rw [List.take_of_length_le (by omega)] at this; exact this)))
                go_wp2
                go_ret
                exact ⟨ret_bool' HR.out.symm, HB.out.trans (hBr.out.mono HB.out.size)⟩
          · refine wp_region_quiet_below (by kernel_rfl) (by kernel_rfl) ?_
            repeat (go_big_quiet_step (first | (go_at_call 22; refine rg_same (in_yes _ _ _ _ ?_); omega) | (go_at_call 22; refine rg_same (in_no _ _ _ _ ?_); omega) | (go_at_call 101; exact rg_same (HC.out _))))
            refine wpQuiet_nil ?_
            intro w9 hw9
            have HB9 : Hid (Below w1.heap.size w1 w9) := by obtain ⟨p, rfl⟩ := hw9; exact below_regrown _ _ _
            clear hw9
            clear g0 g1 g2 h1 h2 HC hcb d3
            go_wp2_with fail
            go_loopw [5] (fun i wr => ∃ k : Nat, i = .int .i64 (k : Int) ∧ k ≤ ps.length ∧ Hid (Below w1.heap.size w1 wr) ∧ Hid (PlacesOk 4 (ps.take k))) (fun i _ => ps.length - (intOf i).toNat)
            case atStart => exact ⟨0, rfl, by omega, HB9, fun j hj => by simp at hj⟩
            case round =>
              obtain ⟨k, rfl, hk, hBr, hok⟩ := hrel
              have c2 := cell_below hBr.out H2.out
              by_cases hlt : k < ps.length
              · obtain ⟨b, off, rfl, hc⟩ := (HX.out.below hBr.out).resolve_left (fun e => by subst e; simp at hlt)
                have Hc := Lib.hid hc
                obtain ⟨e1, e2⟩ := hc k hlt
                clear hc
                generalize hg : ps.getD k pl0 = q at e1 e2
                have Hg := Lib.hid hg
                clear hg
                obtain ⟨d, t⟩ := q
                simp only at e1 e2
                by_cases h1 : 0 ≤ d ∧ d ≤ 4 - 1
                · by_cases h2 : 0 ≤ t ∧ t ≤ 11
                  · go_wp2_with fail
                    refine (in_yes _ _ _ _ (by omega)).mono ?_
                    rintro e w8 ⟨rfl, rfl⟩
                    go_wp2_with fail
                    refine (in_yes _ _ _ _ (by omega)).mono ?_
                    rintro e w8 ⟨rfl, rfl⟩
                    go_wp2_with fail
                    go_loopw [6] (fun i wq => ∃ m : Nat, i = .int .i64 (m : Int) ∧ m ≤ k ∧ Hid (Below w1.heap.size w1 wq) ∧ Hid (∀ j, j < m → (ps.getD j pl0).1 ≠ d)) (fun i _ => k - (intOf i).toNat)
                    case atStart => exact ⟨0, rfl, by omega, hBr, fun j hj => by omega⟩
                    case round =>
                      obtain ⟨m, rfl, hm, hBq, hne⟩ := hrel
                      have c2' := cell_below hBq.out H2.out
                      obtain ⟨b', off', eb, hc'⟩ := (HX.out.below hBq.out).resolve_left (fun e => by subst e; simp at hlt)
                      injection eb with eb
                      injection eb with eb1 eb2
                      subst eb1
                      subst eb2
                      have f1 := (hc' k hlt).1
                      rw [Hg.out] at f1
                      simp only at f1
                      by_cases hmk : m < k
                      · have f2 := (hc' m (by omega)).1
                        clear hc'
                        generalize hgm : (ps.getD m pl0).1 = d2 at f2
                        have Hgm := Lib.hid hgm
                        clear hgm
                        have i1 : (m : Int) < (ps.length : Int) := by omega
                        have i0 : (0 : Int) ≤ (m : Int) := by omega
                        have i2 : (k : Int) < (ps.length : Int) := by omega
                        have i3 : (0 : Int) ≤ (k : Int) := by omega
                        by_cases hd : d2 = d
                        · have dd : ((d2 : Int) == d) = true := by simp; omega
                          have HR := Lib.hid (HF.out.trans (tt_false (fun h => by have := (h k hlt).2 m hmk; rw [Hg.out, Hgm.out] at this; exact this hd)))
                          clear hd
                          go_wp2_with fail
                          go_quiet (fail)
                          go_wp2
                          go_ret
                          exact ⟨ret_bool' HR.out.symm, belowN (HB.out.trans (hBq.out.mono HB.out.size)) _⟩
                        · have dd : ((d2 : Int) == d) = false := by simp; omega
                          have HN : Hid (∀ j, j < m + 1 → (ps.getD j pl0).1 ≠ d) := fun j hj => by
                            by_cases e : j = m
                            · subst e; rw [Hgm.out]; exact hd
                            · exact hne.out j (by omega)
                          clear hd
                          go_wp2_with fail
                          go_quiet (fail)
                          go_wp2
                          exact ⟨⟨m + 1, by go_num, by omega, belowN hBq.out _, HN⟩, by simp [intOf]; omega⟩
                      · obtain rfl : m = k := by omega
                        have HO : Hid (PlacesOk 4 (ps.take (m + 1))) := placesOk_next hlt hok.out (by rw [Hg.out]; exact ⟨h1.1, h1.2, h2.1, h2.2⟩) (fun i hi => by rw [Hg.out]; exact hne.out i hi)
                        clear hc'
                        go_wp2
                        exact ⟨⟨m + 1, by go_num, by omega, hBq, HO⟩, by simp [intOf]; omega⟩
                  · go_wp2_with fail
                    refine (in_yes _ _ _ _ (by omega)).mono ?_
                    rintro e w8 ⟨rfl, rfl⟩
                    go_wp2_with fail
                    refine (in_no _ _ _ _ (by omega)).mono ?_
                    rintro e w8 ⟨rfl, rfl⟩
                    have HR := Lib.hid (HF.out.trans (tt_false (fun h => h2 (by have := (h k hlt).1; rw [Hg.out] at this; exact ⟨this.2.2.1, this.2.2.2⟩))))
                    go_wp2
                    go_ret
                    exact ⟨ret_bool' HR.out.symm, HB.out.trans (hBr.out.mono HB.out.size)⟩
                · go_wp2_with fail
                  refine (in_no _ _ _ _ (by omega)).mono ?_
                  rintro e w8 ⟨rfl, rfl⟩
                  have HR := Lib.hid (HF.out.trans (tt_false (fun h => h1 (by have := (h k hlt).1; rw [Hg.out] at this; exact ⟨this.1, this.2.1⟩))))
                  go_wp2
                  go_ret
                  exact ⟨ret_bool' HR.out.symm, HB.out.trans (hBr.out.mono HB.out.size)⟩
              · have HR := Lib.hid (HF.out.trans (tt_true (by have := hok.out; rw [List.take_of_length_le (by omega)] at this; exact this)))
                go_wp2
                go_ret
                exact ⟨ret_bool' HR.out.symm, HB.out.trans (hBr.out.mono HB.out.size)⟩
        · have d3 : ((ps.length : Int) != c + 1) = true := by simp; omega
          have HF := Lib.hid (tt_false (fun h => h3 (HT.out.1 (HP'.out.1 h)).2.2.2.2.1))
          clear h3
          rcases (show n = 3 ∨ n = 4 by omega) with rfl | rfl
          all_goals
            refine wp_region_quiet_below (by kernel_rfl) (by kernel_rfl) ?_
            repeat (go_big_quiet_step (first | (go_at_call 22; refine rg_same (in_yes _ _ _ _ ?_); omega) | (go_at_call 22; refine rg_same (in_no _ _ _ _ ?_); omega) | (go_at_call 101; exact rg_same (HC.out _))))
            refine wpQuiet_nil ?_
            intro w9 hw9
            have HB9 : Hid (Below w1.heap.size w1 w9) := by obtain ⟨p, rfl⟩ := hw9; exact below_regrown _ _ _
            clear hw9
            go_wp2
            go_ret
            exact ⟨ret_bool' HF.out.symm, HB.out.trans (HB9.out.mono HB.out.size)⟩
      · have HF := Lib.hid (tt_false (fun h => h2 ⟨(HT.out.1 (HP'.out.1 h)).2.2.1, (HT.out.1 (HP'.out.1 h)).2.2.2.1⟩))
        rcases (show n = 3 ∨ n = 4 by omega) with rfl | rfl
        all_goals
          refine wp_region_quiet_below (by kernel_rfl) (by kernel_rfl) ?_
          repeat (go_big_quiet_step (first | (go_at_call 22; refine rg_same (in_yes _ _ _ _ ?_); omega) | (go_at_call 22; refine rg_same (in_no _ _ _ _ ?_); omega)))
          refine wpQuiet_nil ?_
          intro w9 hw9
          have HB9 : Hid (Below w1.heap.size w1 w9) := by obtain ⟨p, rfl⟩ := hw9; exact below_regrown _ _ _
          clear hw9
          go_wp2
          go_ret
          exact ⟨ret_bool' HF.out.symm, HB.out.trans (HB9.out.mono HB.out.size)⟩
    · have HF := Lib.hid (tt_false (fun h => h1 ⟨(HT.out.1 (HP'.out.1 h)).1, (HT.out.1 (HP'.out.1 h)).2.1⟩))
      rcases (show n = 3 ∨ n = 4 by omega) with rfl | rfl
      all_goals
        refine wp_region_quiet_below (by kernel_rfl) (by kernel_rfl) ?_
        repeat (go_big_quiet_step (first | (go_at_call 22; refine rg_same (in_yes _ _ _ _ ?_); omega) | (go_at_call 22; refine rg_same (in_no _ _ _ _ ?_); omega)))
        refine wpQuiet_nil ?_
        intro w9 hw9
        have HB9 : Hid (Below w1.heap.size w1 w9) := by obtain ⟨p, rfl⟩ := hw9; exact below_regrown _ _ _
        clear hw9
        go_wp2
        go_ret
        exact ⟨ret_bool' HF.out.symm, HB.out.trans (HB9.out.mono HB.out.size)⟩

end Go.Proofs.YtceielkcplcccaaGreatDoor

/- Volumes that are ok, and RootOk of the program. Conditions: none but the row's own bound on sizes. -/
import Derived.Test.YtceielkcplcccaaGreatDoorPKTE
import Derived.Test.YtceielkcplcccaaGreatDoorPKU6
namespace Go.Proofs.YtceielkcplcccaaGreatDoor
open Go.RowKit Go.Sort

set_option maxRecDepth 100000 in
set_option maxHeartbeats 1000000 in
theorem twin_any (B : Nat) (nm : ByteArray) (w : World) (h0 : w.cell? ⟨B, 0, none⟩ = some (.string nm)) : VoPred 63 (.pointer (some ⟨B, 0, none⟩)) (fun q => q.name = nm) w := by
  intro W q u hB hu
  have c0 := cell_below hB h0
  clear h0 hB
  obtain ⟨nm2, bs⟩ := q
  obtain ⟨a2, cap2, rfl, _⟩ := hu
  simp only at *
  have hlt : B < W.heap.size := World.block_lt_of_cell? W _ c0
  have HB : Hid (Below W.heap.size W (W.alloc (.cells #[.string nm2, .slice a2 bs.length cap2] 62))) := (Below.refl _ _).alloc (Nat.le_refl _) _
  by_cases h : nm2 = nm
  · rw [tt_true h]
    have d := text_yes h
    clear h
    go_enter Tryz.func63, Tryz.ntmps63
    go_wp2
    go_ret
    exact ⟨rfl, HB.out⟩
  · rw [tt_false h]
    have d := text_no h
    clear h
    go_enter Tryz.func63, Tryz.ntmps63
    go_wp2
    go_ret
    exact ⟨rfl, HB.out⟩

set_option maxRecDepth 100000 in
set_option maxHeartbeats 1000000 in
theorem wrong_any (B : Nat) (n : Int) (w : World) (h0 : w.cell? ⟨B, 0, none⟩ = some (.int .i64 n)) : PtPred 64 (.pointer (some ⟨B, 0, none⟩)) (fun q => ¬PtrOkP n q) w := by
  intro W q u hB hu
  have c0 := cell_below hB h0
  clear h0 hB
  obtain ⟨a2, cap2, rfl, hc2, hm2, hx2⟩ := hu
  have hBa : Below W.heap.size W (W.alloc (.cells #[.int .i64 q.size, .int .i64 q.sum, .slice a2 q.places.length cap2] 65)) := (Below.refl _ _).alloc (Nat.le_refl _) _
  have HB := Lib.hid hBa
  have HC := Lib.hid (implPtr_any n q a2 cap2 _ (by omega) (hx2.below hBa))
  have HF : Hid (tt (¬PtrOkP n q) = !(tt (PtrOkP n q))) := by
    show tt (¬PtrOkP n q) = !(tt (PtrOkP n q))
    by_cases h : PtrOkP n q
    · rw [tt_true h, tt_false (fun k => k h)]; rfl
    · rw [tt_false h, tt_true h]; rfl
  have hlt : B < W.heap.size := World.block_lt_of_cell? W _ c0
  clear hBa hx2
  generalize tt (PtrOkP n q) = r at HC HF
  obtain ⟨z, s, qs⟩ := q
  simp only at HC HB
  go_enter Tryz.func64, Tryz.ntmps64
  go_wp2_with fail
  refine HC.out.mono ?_
  rintro e w2 ⟨rfl, hB2⟩
  go_wp2
  go_ret
  exact ⟨ret_bool' HF.out.symm, HB.out.trans (hB2.mono HB.out.size)⟩

/-- A VOLUME IS OK, beside those ahead of it. -/
def VolFine (n : Int) (vs : List VolD) (k : Nat) : Prop :=
  NameOk (vs.getD k vol0).name ∧ (∀ i, i < k → (vs.getD i vol0).name ≠ (vs.getD k vol0).name) ∧ (vs.getD k vol0).blocks.length = 3 ∧ ∀ j, j < (vs.getD k vol0).blocks.length → PtrOkP n ((vs.getD k vol0).blocks.getD j ptr0)
def VolsFine (n : Int) (vs : List VolD) : Prop := vs.length ≤ 4 ∧ ∀ k, k < vs.length → VolFine n vs k

set_option maxRecDepth 100000 in
set_option maxHeartbeats 2000000 in
theorem areVols_any (n : Int) (a : Option Addr) (cap : Nat) (vs : List VolD) (w : World) (hl : vs.length ≤ cap) (hnm : Hid (∀ j, j < vs.length → (vs.getD j vol0).name.size ≤ maxLen)) (hx : Hid (VolsAt w a vs)) :
    Calls Tryz.prog 46 #[.int .i64 n, .slice a vs.length cap] w fun e w' => e = .returned (.bool (tt (VolsFine n vs))) ∧ Below w.heap.size w w' := by
  have hB0 : Below w.heap.size w (w.alloc (.cells #[.int .i64 n] 3)) := (Below.refl _ _).alloc (Nat.le_refl _) _
  have HB0 := Lib.hid hB0
  have HX := Lib.hid (hx.out.below hB0)
  have Hc : Hid ((w.alloc (.cells #[.int .i64 n] 3)).cell? ⟨w.heap.size, 0, none⟩ = some (.int .i64 n)) := by
    show (w.alloc (.cells #[.int .i64 n] 3)).cell? ⟨w.heap.size, 0, none⟩ = _
    rw [World.cell?_alloc_mark]; rfl
  clear hB0
  by_cases h4 : 4 < vs.length
  · have d4 : decide (4 < (vs.length : Int)) = true := by simp; omega
    have HF := Lib.hid (tt_false (P := VolsFine n vs) (fun h => by have := h.1; omega))
    clear Hc
    go_enter Tryz.func46, Tryz.ntmps46
    go_wp2
    go_ret
    exact ⟨ret_bool' HF.out.symm, HB0.out⟩
  · have d4 : decide (4 < (vs.length : Int)) = false := by simp; omega
    go_enter Tryz.func46, Tryz.ntmps46
    go_wp2_with fail
    generalize w.alloc (.cells #[.int .i64 n] 3) = w1 at HB0 HX Hc ⊢
    go_loopw [14] (fun i wr => ∃ k : Nat, i = .int .i64 (k : Int) ∧ k ≤ vs.length ∧ Hid (Below w1.heap.size w1 wr) ∧ Hid (∀ i, i < k → VolFine n vs i)) (fun i _ => vs.length - (intOf i).toNat)
    case atStart => exact ⟨0, rfl, by omega, Below.refl _ _, fun j hj => by omega⟩
    case round =>
      obtain ⟨k, rfl, hk, hB, hall⟩ := hrel
      by_cases hlt : k < vs.length
      · obtain ⟨b, off, rfl, hc⟩ := (HX.out.below hB.out).resolve_left (fun e => by subst e; simp at hlt)
        obtain ⟨e0, u, e1, hu⟩ := hc k hlt
        have hns := hnm.out k hlt
        clear hc
        have HV := Lib.hid (show VolFine n vs k ↔ NameOk (vs.getD k vol0).name ∧ (∀ i, i < k → (vs.getD i vol0).name ≠ (vs.getD k vol0).name) ∧ (vs.getD k vol0).blocks.length = 3 ∧ ∀ j, j < (vs.getD k vol0).blocks.length → PtrOkP n ((vs.getD k vol0).blocks.getD j ptr0) from Iff.rfl)
        have HF := Lib.hid (show ¬VolFine n vs k → tt (VolsFine n vs) = false from fun h => tt_false (fun q => h (q.2 k hlt)))
        have HN : Hid (VolFine n vs k → ∀ i, i < k + 1 → VolFine n vs i) := fun h i hi => by
          by_cases e : i = k
          · rw [e]; exact h
          · exact hall.out i (by omega)
        generalize vs.getD k vol0 = p at e0 e1 hu hns HV
        obtain ⟨nm, bs⟩ := p
        obtain ⟨a1, cap1, rfl, hc1, hm1, hx1⟩ := hu
        simp only at e0 e1 hns HV hc1 hx1
        have hBa : Below wr.heap.size wr (wr.alloc (.cells #[.string nm, .slice a1 bs.length cap1] 62)) := (Below.refl _ _).alloc (Nat.le_refl _) _
        have HB1 := Lib.hid (hB.out.trans (hBa.mono hB.out.size))
        have HX1 := Lib.hid (hx1.below hBa)
        have HI := Lib.hid (fun w' => isName_any nm w' hns)
        have k0 : (wr.alloc (.cells #[.string nm, .slice a1 bs.length cap1] 62)).cell? ⟨wr.heap.size, 0, none⟩ = some (.string nm) := by rw [World.cell?_alloc_mark]; rfl
        have k1 : (wr.alloc (.cells #[.string nm, .slice a1 bs.length cap1] 62)).cell? ⟨wr.heap.size, 1, none⟩ = some (.slice a1 bs.length cap1) := by rw [World.cell?_alloc_mark]; rfl
        have hsz := hB.out.size
        have K0 := Lib.hid k0
        have K1 := Lib.hid k1
        clear hBa hx1 k0 k1
        by_cases h1 : NameOk nm
        · rw [tt_true h1] at HI
          have hlk : (vs.take k).length = k := by rw [List.length_take]; omega
          have HQ := Lib.hid (containsFuncVo_any 63 (.pointer (some ⟨wr.heap.size, 0, none⟩)) (fun q => q.name = nm) (some ⟨b, off, none⟩) cap (vs.take k) (wr.alloc (.cells #[.string nm, .slice a1 bs.length cap1] 62)) (enters_of Tryz.func63 (by kernel_rfl) rfl)
            (twin_any wr.heap.size nm _ K0.out) (by rw [hlk]; unfold maxLen; omega) ((HX.out.below HB1.out).take k))
          rw [hlk] at HQ
          clear hlk
          by_cases h2 : ∃ j, j < k ∧ ((vs.take k).getD j vol0).name = nm
          · rw [tt_true h2] at HQ
            have HR := Lib.hid (HF.out (fun h => by
              obtain ⟨j, hj, e⟩ := h2
              rw [take_get _ _ _ _ hj] at e
              exact (HV.out.1 h).2.1 j hj e))
            clear h2
            go_wp2_with fail
            refine (HI.out _).mono ?_
            rintro e w2 ⟨rfl, rfl⟩
            go_wp2_with fail
            refine HQ.out.mono ?_
            rintro e w2 ⟨rfl, hB2⟩
            have HB2 := Lib.hid (HB0.out.trans ((HB1.out.trans (hB2.mono HB1.out.size)).mono HB0.out.size))
            clear hB2
            go_wp2
            go_ret
            exact ⟨ret_bool' HR.out.symm, HB2.out⟩
          · rw [tt_false h2] at HQ
            have H2 : Hid (∀ i, i < k → (vs.getD i vol0).name ≠ nm) := fun i hi e => h2 ⟨i, hi, by rw [take_get _ _ _ _ hi]; exact e⟩
            clear h2
            go_wp2_with fail
            refine (HI.out _).mono ?_
            rintro e w2 ⟨rfl, rfl⟩
            go_wp2_with fail
            refine HQ.out.mono ?_
            rintro e w2 ⟨rfl, hB2⟩
            have c0' := cell_below hB2 K0.out
            have c1' := cell_below hB2 K1.out
            have HX2 := Lib.hid (HX1.out.below hB2)
            have HB2 := Lib.hid (HB1.out.trans (hB2.mono HB1.out.size))
            clear hB2
            by_cases h3 : bs.length = 3
            · have d3 : ((bs.length : Int) != 3) = false := by simp; omega
              have HW := Lib.hid (containsFuncPt_any 64 (.pointer (some ⟨w.heap.size, 0, none⟩)) (fun q => ¬PtrOkP n q) a1 cap1 bs w2 (enters_of Tryz.func64 (by kernel_rfl) rfl)
                (wrong_any w.heap.size n w2 (cell_below HB2.out Hc.out)) (by omega) HX2.out)
              by_cases h5 : ∃ j, j < bs.length ∧ ¬PtrOkP n (bs.getD j ptr0)
              · rw [tt_true h5] at HW
                have HR := Lib.hid (HF.out (fun h => by
                  obtain ⟨j, hj, e⟩ := h5
                  exact e ((HV.out.1 h).2.2.2 j hj)))
                clear h5 h3
                go_wp2_with fail
                refine HW.out.mono ?_
                rintro e w3 ⟨rfl, hB3⟩
                have HB3 := Lib.hid (HB0.out.trans ((HB2.out.trans (hB3.mono HB2.out.size)).mono HB0.out.size))
                clear hB3
                go_wp2
                go_ret
                exact ⟨ret_bool' HR.out.symm, HB3.out⟩
              · rw [tt_false h5] at HW
                have HR := Lib.hid (HN.out (HV.out.2 ⟨h1, H2.out, h3, fun j hj => Classical.byContradiction fun e => h5 ⟨j, hj, e⟩⟩))
                clear h5 h3
                go_wp2_with fail
                refine HW.out.mono ?_
                rintro e w3 ⟨rfl, hB3⟩
                have HB3 := Lib.hid (HB2.out.trans (hB3.mono HB2.out.size))
                clear hB3
                go_wp2
                exact ⟨⟨k + 1, by go_num, by omega, HB3, HR⟩, by simp [intOf]; omega⟩
            · have d3 : ((bs.length : Int) != 3) = true := by simp; omega
              have HR := Lib.hid (HF.out (fun h => h3 (HV.out.1 h).2.2.1))
              clear h3
              go_wp2
              go_ret
              exact ⟨ret_bool' HR.out.symm, HB0.out.trans (HB2.out.mono HB0.out.size)⟩
        · rw [tt_false h1] at HI
          have HR := Lib.hid (HF.out (fun h => h1 (HV.out.1 h).1))
          clear h1
          go_wp2_with fail
          refine (HI.out _).mono ?_
          rintro e w2 ⟨rfl, rfl⟩
          go_wp2
          go_ret
          exact ⟨ret_bool' HR.out.symm, HB0.out.trans (HB1.out.mono HB0.out.size)⟩
      · have HF := Lib.hid (tt_true (P := VolsFine n vs) ⟨by omega, fun i hi => hall.out i (by omega)⟩)
        go_wp2
        go_ret
        exact ⟨ret_bool' HF.out.symm, HB0.out.trans (hB.out.mono HB0.out.size)⟩

end Go.Proofs.YtceielkcplcccaaGreatDoor

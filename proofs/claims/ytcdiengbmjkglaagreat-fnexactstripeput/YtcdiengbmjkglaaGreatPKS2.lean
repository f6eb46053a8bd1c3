/- Places of the program's own test: of the pool, all on different disks. Conditions: none but the row's own bound on sizes. PtrOk of the program. Conditions: none but the row's own bound on sizes. -/
import Derived.Test.YtcdiengbmjkglaaGreatPKS0
import Derived.Test.YtcdiengbmjkglaaGreatPKM5
import Derived.Lib.QuietBelow
namespace Go.Proofs.YtcdiengbmjkglaaGreat
open Go.RowKit

/-- WHICH DISKS ARE USED by the first k places. -/
def UsedBy (ps : List PlD) (k : Nat) (d : Nat) : Prop := ∃ j, j < k ∧ (ps.getD j pl0).1 = (d : Int)
def UsedAt (w : World) (U : Nat) (ps : List PlD) (k : Nat) : Prop :=
  ∀ d, d < 4 → w.cell? ⟨U, d, none⟩ = some (.bool (tt (UsedBy ps k d))) ∧ w.frozen? ⟨U, d, none⟩ = false
theorem UsedAt.alloc {w : World} {U : Nat} {ps : List PlD} {k : Nat} (h : UsedAt w U ps k) (o : Obj) : UsedAt (w.alloc o) U ps k := fun d hd => by
  have := World.block_lt_of_cell? w _ (h d hd).1
  exact ⟨(World.cell?_of_block (Below.heap_alloc _ _ _ this)).trans (h d hd).1, by
    have e : (w.alloc o).heap[U]? = w.heap[U]? := Below.heap_alloc _ _ _ this
    have := (h d hd).2
    unfold World.frozen? at this ⊢
    simp only [e]
    exact this⟩
theorem usedBy_zero (ps : List PlD) (d : Nat) : ¬UsedBy ps 0 d := fun ⟨j, hj, _⟩ => by omega
theorem UsedAt.next {w : World} {U : Nat} {ps : List PlD} {k : Nat} (h : UsedAt w U ps k) (dn : Nat) (hd : dn < 4) (he : (ps.getD k pl0).1 = (dn : Int)) : UsedAt (w.setCell ⟨U, dn, none⟩ (.bool true)) U ps (k + 1) := fun d h4 => by
  refine ⟨?_, by rw [World.frozen?_setCell]; exact (h d h4).2⟩
  by_cases e : d = dn
  · subst e
    rw [tt_true (show UsedBy ps (k + 1) d from ⟨k, by omega, he⟩)]
    exact World.cell?_setCell_same' _ _ _ (by rw [(h d h4).1]; rfl)
  · rw [tt_congr (show UsedBy ps (k + 1) d ↔ UsedBy ps k d from ⟨fun ⟨j, hj, hx⟩ => ⟨j, by
      by_cases ej : j = k
      · subst ej; exfalso; rw [he] at hx; omega
      · omega, hx⟩, fun ⟨j, hj, hx⟩ => ⟨j, by omega, hx⟩⟩)]
    rw [← (h d h4).1]
    exact World.cell?_setCell_other _ _ _ _ (by simp)

theorem take_get {α : Type} (l : List α) (d : α) (k j : Nat) (h : j < k) : (l.take k).getD j d = l.getD j d := by
  rw [List.getD, List.getElem?_take, if_pos h]; rfl
theorem placesOk_next {n : Int} {ps : List PlD} {k : Nat} (hk : k < ps.length) (h : PlacesOk n (ps.take k)) (h1 : 0 ≤ (ps.getD k pl0).1 ∧ (ps.getD k pl0).1 ≤ n - 1 ∧ 0 ≤ (ps.getD k pl0).2 ∧ (ps.getD k pl0).2 ≤ 11)
    (h2 : ∀ i, i < k → (ps.getD i pl0).1 ≠ (ps.getD k pl0).1) : PlacesOk n (ps.take (k + 1)) := fun j hj => by
  rw [List.length_take] at hj
  rw [take_get _ _ _ _ (by omega)]
  by_cases e : j = k
  · subst e
    exact ⟨h1, fun i hi => by rw [take_get _ _ _ _ (by omega)]; exact h2 i hi⟩
  · have := h j (by rw [List.length_take]; omega)
    rw [take_get _ _ _ _ (by omega)] at this
    exact ⟨this.1, fun i hi => by have := this.2 i hi; rw [take_get _ _ _ _ (by omega)] at this ⊢; exact this⟩

set_option maxRecDepth 100000 in
set_option maxHeartbeats 1000000 in
theorem arePlaces_any (n : Int) (a : Option Addr) (cap : Nat) (ps : List PlD) (w : World) (hp : Pool n) (hl : ps.length ≤ maxLen) (hx : Hid (PlacesAt w a ps)) :
    Calls Tryz.prog 104 #[.int .i64 n, .slice a ps.length cap] w fun e w' => e = .returned (.bool (tt (PlacesOk n ps))) ∧ Below w.heap.size w w' := by
  obtain ⟨hn1, hn2⟩ := hp
  unfold maxLen at hl
  go_enter Tryz.func104, Tryz.ntmps104
  go_wp2_with fail
  have hU0 : UsedAt (w.alloc (.cells #[.bool false, .bool false, .bool false, .bool false] 145)) w.heap.size ps 0 := fun d hd => by
    rw [tt_false (usedBy_zero ps d)]
    refine ⟨?_, by
      have hb := heap_alloc_new w (.cells #[.bool false, .bool false, .bool false, .bool false] 145)
      unfold World.frozen?
      simp only [hb]
      simp⟩
    rw [World.cell?_alloc_mark]
    match d, hd with
    | 0, _ => rfl
    | 1, _ => rfl
    | 2, _ => rfl
    | 3, _ => rfl
  have HU0 := Lib.hid hU0
  clear hU0
  go_loopw [10] (fun i wr => ∃ k : Nat, i = .int .i64 (k : Int) ∧ k ≤ ps.length ∧ Hid (UsedAt wr w.heap.size ps k) ∧ Below w.heap.size w wr ∧ w.heap.size + 1 ≤ wr.heap.size ∧ Hid (PlacesOk n (ps.take k))) (fun i _ => ps.length - (intOf i).toNat)
  case atStart => exact ⟨0, rfl, by omega, HU0, (Below.refl _ _).alloc (Nat.le_refl _) _, by simp, fun j hj => by simp at hj⟩
  case round =>
    obtain ⟨k, rfl, hk, hU, hB, hsz, hok⟩ := hrel
    by_cases hlt : k < ps.length
    · obtain ⟨b, off, rfl, hc⟩ := (hx.out.below hB).resolve_left (fun e => by subst e; simp at hlt)
      obtain ⟨c1, c2⟩ := hc k hlt
      clear hc
      generalize hg : ps.getD k pl0 = q at c1 c2
      have Hg := Lib.hid hg
      clear hg
      obtain ⟨d, s⟩ := q
      simp only at c1 c2
      have HA : Hid (Below w.heap.size w (wr.alloc (.cells #[.int .i64 d, .int .i64 s] 53))) := hB.alloc (by omega) _
      have hUa := Lib.hid (hU.out.alloc (.cells #[.int .i64 d, .int .i64 s] 53))
      by_cases h1 : d < 0
      · have HR := Lib.hid (tt_false (P := PlacesOk n ps) (fun h => by have := (h k hlt).1.1; rw [Hg.out] at this; simp at this; omega))
        have e1 : decide (d < 0) = true := by simp; omega
        go_wp2
        go_ret
        exact ⟨ret_bool' HR.out.symm, HA.out⟩
      · have e1 : decide (d < 0) = false := by simp; omega
        obtain ⟨dn, rfl⟩ := Int.eq_ofNat_of_zero_le (show 0 ≤ d by omega)
        by_cases h2 : n ≤ (dn : Int)
        · have HR := Lib.hid (tt_false (P := PlacesOk n ps) (fun h => by have := (h k hlt).1.2.1; rw [Hg.out] at this; simp at this; omega))
          have e2 : decide (n ≤ (dn : Int)) = true := by simp; omega
          go_wp2
          go_ret
          exact ⟨ret_bool' HR.out.symm, HA.out⟩
        · have e2 : decide (n ≤ (dn : Int)) = false := by simp; omega
          by_cases h3 : s < 0
          · have HR := Lib.hid (tt_false (P := PlacesOk n ps) (fun h => by have := (h k hlt).1.2.2.1; rw [Hg.out] at this; simp at this; omega))
            have e3 : decide (s < 0) = true := by simp; omega
            go_wp2
            go_ret
            exact ⟨ret_bool' HR.out.symm, HA.out⟩
          · have e3 : decide (s < 0) = false := by simp; omega
            by_cases h4 : 12 ≤ s
            · have HR := Lib.hid (tt_false (P := PlacesOk n ps) (fun h => by have := (h k hlt).1.2.2.2; rw [Hg.out] at this; simp at this; omega))
              have e4 : decide (12 ≤ s) = true := by simp; omega
              go_wp2
              go_ret
              exact ⟨ret_bool' HR.out.symm, HA.out⟩
            · have e4 : decide (12 ≤ s) = false := by simp; omega
              have hd4 : dn < 4 := by omega
              obtain ⟨cu, fu⟩ := hUa.out dn hd4
              by_cases h5 : UsedBy ps k dn
              · have HR := Lib.hid (tt_false (P := PlacesOk n ps) (fun h => by
                  obtain ⟨j, hj, hx⟩ := h5
                  have := (h k hlt).2 j hj
                  rw [Hg.out, hx] at this
                  simp at this))
                rw [tt_true h5] at cu
                clear h5
                go_wp2
                go_ret
                exact ⟨ret_bool' HR.out.symm, HA.out⟩
              · have HN : Hid (UsedAt ((wr.alloc (.cells #[.int .i64 (dn : Int), .int .i64 s] 53)).setCell ⟨w.heap.size, dn, none⟩ (.bool true)) w.heap.size ps (k + 1)) := hUa.out.next dn hd4 (by rw [Hg.out])
                have HO : Hid (PlacesOk n (ps.take (k + 1))) := placesOk_next hlt hok.out (by rw [Hg.out]; simp; omega) (fun i hi => by
                  rw [Hg.out]
                  exact fun e => h5 ⟨i, hi, e⟩)
                have HB2 : Hid (Below w.heap.size w ((wr.alloc (.cells #[.int .i64 (dn : Int), .int .i64 s] 53)).setCell ⟨w.heap.size, dn, none⟩ (.bool true))) := HA.out.setCell (p := ⟨w.heap.size, dn, none⟩) (Nat.le_refl _) _
                rw [tt_false h5] at cu
                clear h5
                go_wp2
                exact ⟨⟨k + 1, by go_num, by omega, HN, HB2.out, by simp; omega, HO⟩, by simp [intOf]; omega⟩
    · have HR := Lib.hid (tt_true (P := PlacesOk n ps) (by have := hok.out; rw [List.take_of_length_le (by omega)] at this; exact this))
      go_wp2
      go_ret
      exact ⟨ret_bool' HR.out.symm, hB⟩

end Go.Proofs.YtcdiengbmjkglaaGreat

namespace Go.Proofs.YtcdiengbmjkglaaGreat
open Go.RowKit Go.Sort

set_option maxRecDepth 100000 in
set_option maxHeartbeats 2000000 in
theorem implPtr_any (n : Int) (p : PtrD) (a : Option Addr) (cap : Nat) (w : World) (hl : p.places.length ≤ maxLen) (hx : Hid (PlacesAt w a p.places)) :
    Calls Tryz.prog 69 #[.int .i64 n, .agg #[.int .i64 p.size, .int .i64 p.sum, .slice a p.places.length cap]] w fun e w' => e = .returned (.bool (tt (PtrOkP n p))) ∧ Below w.heap.size w w' := by
  have HN := Lib.hid (fun w' => isNothing_any p a cap w')
  have HR := Lib.hid (show ¬Pool n → tt (PtrOkP n p) = false from fun h => tt_false (fun k => h k.1))
  have HR1 := Lib.hid (show Pool n → Nothing p → tt (PtrOkP n p) = true from fun h k => tt_true ⟨h, .inl k⟩)
  have HR2 := Lib.hid (show Pool n → ¬Nothing p → tt (PtrOkP n p) = tt (Told n p) from fun h k => tt_congr ⟨fun q => q.2.resolve_left k, fun q => ⟨h, .inr q⟩⟩)
  generalize htn : tt (Nothing p) = bn at HN
  have Hn := Lib.hid (show bn = true → Nothing p from fun h => (tt_iff _).1 (htn.trans h))
  have Hn' := Lib.hid (show bn = false → ¬Nothing p from fun h k => by rw [tt_true k] at htn; rw [← htn] at h; cases h)
  clear htn
  generalize tt (PtrOkP n p) = r at HR HR1 HR2 ⊢
  obtain ⟨z, s, ps⟩ := p
  simp only at HN hx hl ⊢
  unfold maxLen at hl
  by_cases hp : Pool n
  · have HP := Lib.hid (fun w' => isPool_any n w')
    rw [tt_true hp] at HP
    have Hp := Lib.hid hp
    have hp' := hp
    obtain ⟨hn1, hn2⟩ := hp'
    clear hp
    cases bn
    · have HT : Hid (r = tt (Told n ⟨z, s, ps⟩)) := HR2.out Hp.out (Hn'.out rfl)
      have HM := Lib.hid (fun w' => sizeMax_any n w' Hp.out)
      have Told' : Hid (Told n ⟨z, s, ps⟩ ↔ 1 ≤ z ∧ z ≤ 3 * min 3 (n - 1) ∧ 0 ≤ s ∧ s ≤ 1000000000 ∧ (ps.length : Int) = (z + 2) / 3 + 1 ∧ PlacesOk n ps) := Iff.rfl
      have hM9 : 3 * min 3 (n - 1) ≤ 9 := by omega
      generalize 3 * min 3 (n - 1) = M at HM Told' hM9
      clear HR HR1 HR2 Hn Hn'
      go_enter Tryz.func69, Tryz.ntmps69
      go_wp2_with fail
      refine (HP.out _).mono ?_
      rintro e w1 ⟨rfl, rfl⟩
      go_wp2_with fail
      refine (HN.out _).mono ?_
      rintro e w1 ⟨rfl, hB1⟩
      have hB0 : Below w.heap.size w (w.alloc (.cells #[.int .i64 z, .int .i64 s, .slice a ps.length cap] 34)) := (Below.refl _ _).alloc (Nat.le_refl _) _
      have c0 : w1.cell? ⟨w.heap.size, 0, none⟩ = some (.int .i64 z) := (hB1.cell (p := ⟨w.heap.size, 0, none⟩) (by simp)).trans (by rw [World.cell?_alloc_mark]; rfl)
      have c1 : w1.cell? ⟨w.heap.size, 1, none⟩ = some (.int .i64 s) := (hB1.cell (p := ⟨w.heap.size, 1, none⟩) (by simp)).trans (by rw [World.cell?_alloc_mark]; rfl)
      have c2 : w1.cell? ⟨w.heap.size, 2, none⟩ = some (.slice a ps.length cap) := (hB1.cell (p := ⟨w.heap.size, 2, none⟩) (by simp)).trans (by rw [World.cell?_alloc_mark]; rfl)
      have HB := Lib.hid (hB0.trans (hB1.mono hB0.size))
      have hsz : w.heap.size < w1.heap.size := by have := hB1.size; simp at this; omega
      clear hB1 hB0
      have g0 := cell_regrown c0
      have g1 := cell_regrown c1
      have g2 := cell_regrown c2
      clear c0 c1 c2
      by_cases h1 : 1 ≤ z
      · have d1 : decide (1 ≤ z) = true := by simp; omega
        by_cases h2 : z ≤ M
        · have d2 : decide (z ≤ M) = true := by simp; omega
          by_cases h3 : 0 ≤ s
          · have d3 : decide (0 ≤ s) = true := by simp; omega
            by_cases h4 : s ≤ 1000000000
            · have d4 : decide (s ≤ 1000000000) = true := by simp; omega
              have HC := Lib.hid (fun w' => cols_any z s (.slice a ps.length cap) w' (by omega) (by omega))
              have hcb : 0 ≤ (z + 2) / 3 ∧ (z + 2) / 3 ≤ 10 := by omega
              generalize (z + 2) / 3 = c at HC Told' hcb
              by_cases h5 : (ps.length : Int) = c + 1
              · have d5 : ((ps.length : Int) == c + 1) = true := by simp; omega
                have HA := Lib.hid (fun w' (h : Below w.heap.size w w') => arePlaces_any n a cap ps w' Hp.out (by unfold maxLen; omega) (hx.out.below h))
                have HF : Hid (r = tt (PlacesOk n ps)) := HT.out.trans (tt_congr ⟨fun h => (Told'.out.1 h).2.2.2.2.2, fun h => Told'.out.2 ⟨h1, h2, h3, h4, h5, h⟩⟩)
                clear h5
                go_wp2_with fail
                refine wp_region_quiet_below (by kernel_rfl) (by kernel_rfl) ?_
                repeat (go_big_quiet_step (first | (go_at_call 102; exact rg_same (HM.out _)) | (go_at_call 103; exact Calls.regrown_of (HC.out _)) | (go_at_call 104; exact Calls.regrown_of (HA.out _ (rg_below HB.out _ _)))))
                refine wpQuiet_nil ?_
                intro w9 hw9
                have HB9 : Hid (Below w.heap.size w w9) := by obtain ⟨p, rfl⟩ := hw9; exact rg_below HB.out _ _
                clear hw9
                go_wp2
                go_ret
                exact ⟨ret_bool' HF.out.symm, HB9.out⟩
              · have d5 : ((ps.length : Int) == c + 1) = false := by simp; omega
                have HF := Lib.hid (HT.out.trans (tt_false (fun h => h5 (Told'.out.1 h).2.2.2.2.1)))
                clear h5
                go_wp2_with fail
                refine wp_region_quiet_below (by kernel_rfl) (by kernel_rfl) ?_
                repeat (go_big_quiet_step (first | (go_at_call 102; exact rg_same (HM.out _)) | (go_at_call 103; exact Calls.regrown_of (HC.out _))))
                refine wpQuiet_nil ?_
                intro w9 hw9
                have HB9 : Hid (Below w.heap.size w w9) := by obtain ⟨p, rfl⟩ := hw9; exact rg_below HB.out _ _
                clear hw9
                go_wp2
                go_ret
                exact ⟨ret_bool' HF.out.symm, HB9.out⟩
            · have d4 : decide (s ≤ 1000000000) = false := by simp; omega
              have HF := Lib.hid (HT.out.trans (tt_false (fun h => h4 (Told'.out.1 h).2.2.2.1)))
              go_wp2_with fail
              refine wp_region_quiet_below (by kernel_rfl) (by kernel_rfl) ?_
              repeat (go_big_quiet_step (first | (go_at_call 102; exact rg_same (HM.out _))))
              refine wpQuiet_nil ?_
              intro w9 hw9
              have HB9 : Hid (Below w.heap.size w w9) := by obtain ⟨p, rfl⟩ := hw9; exact rg_below HB.out _ _
              clear hw9
              go_wp2
              go_ret
              exact ⟨ret_bool' HF.out.symm, HB9.out⟩
          · have d3 : decide (0 ≤ s) = false := by simp; omega
            have HF := Lib.hid (HT.out.trans (tt_false (fun h => h3 (Told'.out.1 h).2.2.1)))
            go_wp2_with fail
            refine wp_region_quiet_below (by kernel_rfl) (by kernel_rfl) ?_
            repeat (go_big_quiet_step (first | (go_at_call 102; exact rg_same (HM.out _))))
            refine wpQuiet_nil ?_
            intro w9 hw9
            have HB9 : Hid (Below w.heap.size w w9) := by obtain ⟨p, rfl⟩ := hw9; exact rg_below HB.out _ _
            clear hw9
            go_wp2
            go_ret
            exact ⟨ret_bool' HF.out.symm, HB9.out⟩
        · have d2 : decide (z ≤ M) = false := by simp; omega
          have HF := Lib.hid (HT.out.trans (tt_false (fun h => h2 (Told'.out.1 h).2.1)))
          go_wp2_with fail
          refine wp_region_quiet_below (by kernel_rfl) (by kernel_rfl) ?_
          repeat (go_big_quiet_step (first | (go_at_call 102; exact rg_same (HM.out _))))
          refine wpQuiet_nil ?_
          intro w9 hw9
          have HB9 : Hid (Below w.heap.size w w9) := by obtain ⟨p, rfl⟩ := hw9; exact rg_below HB.out _ _
          clear hw9
          go_wp2
          go_ret
          exact ⟨ret_bool' HF.out.symm, HB9.out⟩
      · have d1 : decide (1 ≤ z) = false := by simp; omega
        have HF := Lib.hid (HT.out.trans (tt_false (fun h => h1 (Told'.out.1 h).1)))
        go_wp2_with fail
        refine wp_region_quiet_below (by kernel_rfl) (by kernel_rfl) ?_
        repeat (go_big_quiet_step (fail))
        refine wpQuiet_nil ?_
        intro w9 hw9
        have HB9 : Hid (Below w.heap.size w w9) := by obtain ⟨p, rfl⟩ := hw9; exact rg_below HB.out _ _
        clear hw9
        go_wp2
        go_ret
        exact ⟨ret_bool' HF.out.symm, HB9.out⟩
    · have HT : Hid (r = true) := HR1.out Hp.out (Hn.out rfl)
      go_enter Tryz.func69, Tryz.ntmps69
      go_wp2_with fail
      refine (HP.out _).mono ?_
      rintro e w1 ⟨rfl, rfl⟩
      go_wp2_with fail
      refine (HN.out _).mono ?_
      rintro e w1 ⟨rfl, hB1⟩
      have hB0 : Below w.heap.size w (w.alloc (.cells #[.int .i64 z, .int .i64 s, .slice a ps.length cap] 34)) := (Below.refl _ _).alloc (Nat.le_refl _) _
      go_wp2
      go_ret
      exact ⟨ret_bool' HT.out.symm, hB0.trans (hB1.mono hB0.size)⟩
  · have HP := Lib.hid (fun w' => isPool_any n w')
    rw [tt_false hp] at HP
    have HT : Hid (r = false) := HR.out hp
    clear hp
    go_enter Tryz.func69, Tryz.ntmps69
    go_wp2_with fail
    refine (HP.out _).mono ?_
    rintro e w1 ⟨rfl, rfl⟩
    go_wp2
    go_ret
    exact ⟨ret_bool' HT.out.symm, (Below.refl _ _).alloc (Nat.le_refl _) _⟩

end Go.Proofs.YtcdiengbmjkglaaGreat

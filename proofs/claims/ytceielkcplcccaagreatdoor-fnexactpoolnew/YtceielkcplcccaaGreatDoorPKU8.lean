/- RootOk of the program. Conditions: none but the row's own bound on sizes. -/
import Derived.Test.YtceielkcplcccaaGreatDoorPKU7
namespace Go.Proofs.YtceielkcplcccaaGreatDoor
open Go.RowKit Go.Sort

def RootFine (n : Int) (r : RootD) : Prop := (0 ≤ r.txg ∧ r.txg ≤ 100000) ∧ VolsFine n r.vols ∧ Apart (allOf r.vols)
/-- **RootOk**, as the document has it. -/
def RootOkP (n : Int) (r : RootD) : Prop := Pool n ∧ RootFine n r
theorem VolsFine.threes {n : Int} {vs : List VolD} (h : VolsFine n vs) : Threes vs := ⟨h.1, fun j hj => (h.2 j hj).2.2.1⟩
theorem maxLen_eq : maxLen = 2 ^ 63 - 1 := rfl

set_option maxRecDepth 100000 in
set_option maxHeartbeats 2000000 in
theorem implRoot_any (n : Int) (r : RootD) (a : Option Addr) (cap : Nat) (w : World) (hl : r.vols.length ≤ cap) (hnm : Hid (∀ j, j < r.vols.length → (r.vols.getD j vol0).name.size ≤ maxLen)) (hx : Hid (VolsAt w a r.vols)) :
    Calls Tryz.prog 25 #[.int .i64 n, .agg #[.int .i64 r.txg, .slice a r.vols.length cap]] w fun e w' => e = .returned (.bool (tt (RootOkP n r))) ∧ Below w.heap.size w w' := by
  have HP := Lib.hid (fun w' => isPool_any n w')
  have HO := Lib.hid (show RootOkP n r ↔ Pool n ∧ (0 ≤ r.txg ∧ r.txg ≤ 100000) ∧ VolsFine n r.vols ∧ Apart (allOf r.vols) from Iff.rfl)
  have hB : Below w.heap.size w (w.alloc (.cells #[.int .i64 r.txg, .slice a r.vols.length cap] 25)) := (Below.refl _ _).alloc (Nat.le_refl _) _
  have HB := Lib.hid hB
  have HX := Lib.hid (hx.out.below hB)
  have k1 : (w.alloc (.cells #[.int .i64 r.txg, .slice a r.vols.length cap] 25)).cell? ⟨w.heap.size, 1, none⟩ = some (.slice a r.vols.length cap) := by rw [World.cell?_alloc_mark]; rfl
  have K1 := Lib.hid k1
  clear hB k1
  by_cases hp : Pool n
  · rw [tt_true hp] at HP
    by_cases h1 : 0 ≤ r.txg
    · have d1 : decide (0 ≤ r.txg) = true := by simp; omega
      by_cases h2 : r.txg ≤ 100000
      · have d2 : decide (r.txg ≤ 100000) = true := by simp; omega
        have HV := Lib.hid (areVols_any n a cap r.vols _ hl hnm HX)
        by_cases hv : VolsFine n r.vols
        · rw [tt_true hv] at HV
          have HF : Hid (tt (RootOkP n r) = tt (Apart (allOf r.vols))) := tt_congr (HO.out.trans ⟨fun h => h.2.2.2, fun h => ⟨hp, ⟨h1, h2⟩, hv, h⟩⟩)
          have HT := Lib.hid hv.threes
          clear hp h1 h2 hv HO
          generalize tt (RootOkP n r) = res at HF ⊢
          obtain ⟨t, vs⟩ := r
          simp only at *
          go_enter Tryz.func25, Tryz.ntmps25
          go_wp2_with fail
          refine (HP.out _).mono ?_
          rintro e w1 ⟨rfl, rfl⟩
          go_wp2_with fail
          refine HV.out.mono ?_
          rintro e w2 ⟨rfl, hB2⟩
          have c1 := cell_below hB2 K1.out
          have HB2 := Lib.hid (HB.out.trans (hB2.mono HB.out.size))
          have HX2 := Lib.hid (HX.out.below hB2)
          clear hB2
          go_wp2_with fail
          refine (ptrsOf_any a cap vs _ HT HX2).mono ?_
          rintro e w3 ⟨v3, rfl, ho3, hB3⟩
          obtain ⟨a3, cap3, rfl, hc3, hm3, hx3⟩ := ho3.reads
          have HX3 := Lib.hid hx3
          have HB3 := Lib.hid (HB2.out.trans (hB3.mono HB2.out.size))
          clear ho3 hx3 hB3
          go_wp2_with fail
          refine (areApart_any a3 cap3 (allOf vs) _ hc3 hm3 HX3).mono ?_
          rintro e w4 ⟨rfl, hB4⟩
          generalize tt (Apart (allOf vs)) = ba at HF
          go_wp2
          go_ret
          exact ⟨ret_bool' HF.out.symm, HB3.out.trans (hB4.mono HB3.out.size)⟩
        · rw [tt_false hv] at HV
          have HF := Lib.hid (tt_false (fun h => hv (HO.out.1 h).2.2.1))
          clear hv h1 h2 HO
          generalize tt (RootOkP n r) = res at HF ⊢
          obtain ⟨t, vs⟩ := r
          simp only at *
          go_enter Tryz.func25, Tryz.ntmps25
          go_wp2_with fail
          refine (HP.out _).mono ?_
          rintro e w1 ⟨rfl, rfl⟩
          go_wp2_with fail
          refine HV.out.mono ?_
          rintro e w2 ⟨rfl, hB2⟩
          go_wp2
          go_ret
          exact ⟨ret_bool' HF.out.symm, HB.out.trans (hB2.mono HB.out.size)⟩
      · have d2 : decide (r.txg ≤ 100000) = false := by simp; omega
        have HF := Lib.hid (tt_false (fun h => h2 (HO.out.1 h).2.1.2))
        clear HO
        generalize tt (RootOkP n r) = res at HF ⊢
        obtain ⟨t, vs⟩ := r
        simp only at *
        go_enter Tryz.func25, Tryz.ntmps25
        go_wp2_with fail
        refine (HP.out _).mono ?_
        rintro e w1 ⟨rfl, rfl⟩
        go_wp2
        go_ret
        exact ⟨ret_bool' HF.out.symm, HB.out⟩
    · have d1 : decide (0 ≤ r.txg) = false := by simp; omega
      have HF := Lib.hid (tt_false (fun h => h1 (HO.out.1 h).2.1.1))
      clear HO
      generalize tt (RootOkP n r) = res at HF ⊢
      obtain ⟨t, vs⟩ := r
      simp only at *
      go_enter Tryz.func25, Tryz.ntmps25
      go_wp2_with fail
      refine (HP.out _).mono ?_
      rintro e w1 ⟨rfl, rfl⟩
      go_wp2
      go_ret
      exact ⟨ret_bool' HF.out.symm, HB.out⟩
  · rw [tt_false hp] at HP
    have HF := Lib.hid (tt_false (fun h => hp (HO.out.1 h).1))
    clear hp HO
    generalize tt (RootOkP n r) = res at HF ⊢
    obtain ⟨t, vs⟩ := r
    simp only at *
    go_enter Tryz.func25, Tryz.ntmps25
    go_wp2_with fail
    refine (HP.out _).mono ?_
    rintro e w1 ⟨rfl, rfl⟩
    go_wp2
    go_ret
    exact ⟨ret_bool' HF.out.symm, HB.out⟩

end Go.Proofs.YtceielkcplcccaaGreatDoor

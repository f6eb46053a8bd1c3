/- Whether a model is ok, of the program: its last step. Conditions: none but the row's own bound on sizes. -/
import Derived.Test.YtmmckpjapnkepaaI3
import Derived.Deep.RegionWith
namespace Go.Proofs.Ytmmckpjapnkepaa
open Go.RowKit Go.Sort Go.Lib Go.Maps

theorem len_is {ss : List ShD} {m : Nat} (h : m = ss.length ↔ Distinct ss) (hd : tt (MdFine ss) = tt (Distinct ss)) : ((m : Int) == (ss.length : Int)) = tt (MdFine ss) := by
  rw [hd]
  by_cases e : m = ss.length
  · rw [tt_true (h.1 e)]; simp; omega
  · rw [tt_false (fun q => e (h.2 q))]; simp; omega

set_option maxRecDepth 100000 in
set_option maxHeartbeats 2000000 in
theorem implMdOk_any (a : Option Addr) (cap : Nat) (ss : List ShD) (w : World) (hs : MdSmall ss) (hx : Hid (ShAt w a ss)) :
    Calls Try.prog 17 #[.agg #[.slice a ss.length cap]] w fun e w' => e = .returned (.bool (tt (MdFine ss))) ∧ Below w.heap.size w w' := by
  have hB : Below w.heap.size w (w.alloc (.cells #[.slice a ss.length cap] 25)) := (Below.refl _ _).alloc (Nat.le_refl _) _
  have HB := Lib.hid hB
  have c0 : (w.alloc (.cells #[.slice a ss.length cap] 25)).cell? ⟨w.heap.size, 0, none⟩ = some (.slice a ss.length cap) := by rw [World.cell?_alloc_mark]; rfl
  have HC := Lib.hid c0
  have HX := Lib.hid (hx.out.below hB)
  have hl := hs.1
  have HS := Lib.hid hs
  clear hB c0 hs
  by_cases h4 : ss.length ≤ 4
  · have d4 : decide ((ss.length : Int) ≤ 4) = true := by simp; omega
    have HA := Lib.hid (fun W (hW : Below (w.alloc (.cells #[.slice a ss.length cap] 25)).heap.size (w.alloc (.cells #[.slice a ss.length cap] 25)) W) => allSh_any a cap ss W HS.out (HX.out.below hW))
    have HP := Lib.hid (fun W (hW : Below (w.alloc (.cells #[.slice a ss.length cap] 25)).heap.size (w.alloc (.cells #[.slice a ss.length cap] 25)) W) => shelfPlaces_any a cap ss W (by omega) HS.out.2 (HX.out.below hW))
    have H4 := Lib.hid h4
    clear h4
    by_cases hf : AllSh ShFine ss
    · rw [tt_true hf] at HA
      have HD := Lib.hid (tt_congr (show MdFine ss ↔ Distinct ss from ⟨fun h => h.2.2, fun h => ⟨H4.out, hf, h⟩⟩))
      clear hf
      go_enter Try.func17, Try.ntmps17
      go_wp2_with fail
      generalize w.alloc (.cells #[.slice a ss.length cap] 25) = w1 at HB HC HX HA HP ⊢
      have hc0 := HC.out
      have hsz : w.heap.size < w1.heap.size := World.block_lt_of_cell? w1 _ hc0
      have HB0 : Hid (Below w1.heap.size w1 w1.drew) := ⟨rfl, rfl, rfl, Nat.le_refl _, fun _ _ => rfl⟩
      go_region_with (first
          | (go_at_call 49; ((with_reducible refine (HA.out _ HB0.out).mono ?_); rintro e w2 ⟨rfl, hB2⟩; have HB2 := Lib.hid (HB0.out.trans (hB2.mono HB0.out.size)); have hc2 := cell_below hB2 hc0; clear hB2))
          | (go_at_call 51; ((with_reducible refine (HP.out _ HB2.out).mono ?_); rintro e w3 ⟨rfl, hpl, hB3⟩; have HB3 := Lib.hid (HB2.out.trans (hB3.mono HB2.out.size)); have hc3 := cell_below hB3 hc2; obtain ⟨m, hrun, hm1, hm2⟩ := hpl.len 3; have HM := Lib.hid hm2; have HE := Lib.hid (len_is (m := m) hm2 HD.out); clear hpl hB3 hm2)))
      all_goals
        go_wp2
        go_ret
        exact ⟨ret_bool' HE.out, HB.out.trans (HB3.out.mono HB.out.size)⟩
    · rw [tt_false hf] at HA
      have HF := Lib.hid (tt_false (P := MdFine ss) (fun h => hf h.2.1))
      clear hf
      have hc0 := cell_regrown HC.out
      go_enter Try.func17, Try.ntmps17
      go_wp2_with fail
      generalize w.alloc (.cells #[.slice a ss.length cap] 25) = w1 at HB HC HX HA HP hc0 ⊢
      refine wp_region_quiet_below (by kernel_rfl) (by kernel_rfl) ?_
      repeat (go_big_quiet_step ((go_at_call 49; with_reducible exact Calls.regrown_of (HA.out _ (below_regrown _ _ _)))))
      refine wpQuiet_nil ?_
      intro w9 hw9
      have HB9 : Hid (Below w1.heap.size w1 w9) := by obtain ⟨p, rfl⟩ := hw9; exact below_regrown _ _ _
      clear hw9
      go_wp2
      go_ret
      exact ⟨ret_bool' HF.out.symm, HB.out.trans (HB9.out.mono HB.out.size)⟩
  · have d4 : decide ((ss.length : Int) ≤ 4) = false := by simp; omega
    have HF := Lib.hid (tt_false (P := MdFine ss) (fun h => h4 h.1))
    have hc0 := cell_regrown HC.out
    clear h4
    go_enter Try.func17, Try.ntmps17
    go_wp2_with fail
    generalize w.alloc (.cells #[.slice a ss.length cap] 25) = w1 at HB HC HX hc0 ⊢
    refine wp_region_quiet_below (by kernel_rfl) (by kernel_rfl) ?_
    repeat (go_big_quiet_step (fail))
    refine wpQuiet_nil ?_
    intro w9 hw9
    have HB9 : Hid (Below w1.heap.size w1 w9) := by obtain ⟨p, rfl⟩ := hw9; exact below_regrown _ _ _
    clear hw9
    go_wp2
    go_ret
    exact ⟨ret_bool' HF.out.symm, HB.out.trans (HB9.out.mono HB.out.size)⟩

end Go.Proofs.Ytmmckpjapnkepaa

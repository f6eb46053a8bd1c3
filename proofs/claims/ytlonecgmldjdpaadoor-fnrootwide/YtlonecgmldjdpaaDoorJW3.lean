/- 'laws.FnRootWide' returns true at every code: of a drawn root and a drawn pointer RootOk and PtrOk of the program answer as those of the specification, and what is ok with fewer disks is ok with most of them, with the same text. Conditions: the table of powers of ten is as the language has it. What the listed tables give the walks of the seat's laws; that the world in which the program has begun meets the condition. Conditions: none. 'laws.FnRootWide' returns true at every code, what the card says. Conditions: none beyond the card's. -/
import Derived.Test.YtlonecgmldjdpaaDoorQB
import Derived.Test.YtlonecgmldjdpaaDoorK
import Derived.Test.YtlonecgmldjdpaaDoorJW1
import Derived.Test.YtlonecgmldjdpaaDoorJW2
import Derived.Test.YtlonecgmldjdpaaDoorQ7
import Derived.Test.YtlonecgmldjdpaaDoorTie
import Derived.Test.YtlonecgmldjdpaaDoorCards
import Derived.LaidMore
import Derived.Stop.Joined
import Derived.Lib.LaidTab
namespace Go.Proofs.YtlonecgmldjdpaaDoor
open Go.ChangeShapes Go.WideShapes Go.ChangeAt Go.RowKit Go.Sort
namespace FnRootWide
set_option linter.unusedVariables false

set_option maxRecDepth 100000 in
set_option maxHeartbeats 4000000 in
theorem main (a : Option Addr) (len cap : Nat) (z0 : List Int) (w : World) (h0 : len ≤ 1048576) (H : Hid (IsBytes w a len cap z0)) (HTab : Hid (Tab w)) :
    Calls Tryd.prog 4 #[.slice a len cap] w fun e w' => e = .returned (.bool true) ∧ Below w.heap.size w w' := by
  have d0 : decide (1048576 < (len : Int)) = false := by simp; omega
  go_enter Tryd.func4, Tryd.ntmps4
  go_wp2_with fail
  refine (drawRootOk_any a len cap z0 _ H.out).mono ?_
  rintro e w1 ⟨n, t, a1, c1, vs, rfl, hn, hL, hv5, hB1⟩
  obtain ⟨hV, hnm⟩ := hL.reads
  obtain ⟨_, _, e1, hc1, hc2, hX⟩ := hV
  cases e1
  have HN : Hid (∀ j, j < vs.length → (vs.getD j vol0).name.size ≤ maxLen) := fun j hj => Nat.le_trans (hnm j hj) (by simp [maxLen])
  have hBa : Below w1.heap.size w1 (w1.alloc (.cells #[.int .i64 t, .slice a1 vs.length c1] 25)) := (Below.refl _ _).alloc (Nat.le_refl _) _
  have HX := Lib.hid (hX.below hBa)
  have HB := Lib.hid (hB1.trans (hBa.mono hB1.size))
  have k0 : (w1.alloc (.cells #[.int .i64 t, .slice a1 vs.length c1] 25)).cell? ⟨w1.heap.size, 0, none⟩ = some (.int .i64 t) := by rw [World.cell?_alloc_mark]; rfl
  have k1 : (w1.alloc (.cells #[.int .i64 t, .slice a1 vs.length c1] 25)).cell? ⟨w1.heap.size, 1, none⟩ = some (.slice a1 vs.length c1) := by rw [World.cell?_alloc_mark]; rfl
  have hm : vs.length ≤ maxLen := by simp [maxLen]; omega
  clear hL hX hnm hBa hB1 hn
  go_wp2_with fail
  generalize hgD : w1.heap.size = D at k0 k1 ⊢
  clear hgD
  generalize w1.alloc (.cells #[.int .i64 t, .slice a1 vs.length c1] 25) = wa at HX HB k0 k1 ⊢
  refine (drawPtr_any a len cap z0 _ (H.out.below HB.out)).mono ?_
  rintro e w2 ⟨m, ⟨z, s, ps⟩, v2, rfl, hv2, hl, hB2⟩
  obtain ⟨a2, c2, rfl, hcl, hcm, hx2⟩ := hv2
  simp only at hl hx2 hcl ⊢
  have hBb : Below w2.heap.size w2 (w2.alloc (.cells #[.int .i64 z, .int .i64 s, .slice a2 ps.length c2] 33)) := (Below.refl _ _).alloc (Nat.le_refl _) _
  have hB := hB2.trans (hBb.mono hB2.size)
  replace HX := Lib.hid (HX.out.below hB)
  replace k0 := cell_below hB k0
  replace k1 := cell_below hB k1
  replace HB := Lib.hid (HB.out.trans (hB.mono HB.out.size))
  have HP := Lib.hid (hx2.below hBb)
  have hpm : ps.length ≤ maxLen := by unfold maxLen; omega
  have k2 : (w2.alloc (.cells #[.int .i64 z, .int .i64 s, .slice a2 ps.length c2] 33)).cell? ⟨w2.heap.size, 0, none⟩ = some (.int .i64 z) := by rw [World.cell?_alloc_mark]; rfl
  have k3 : (w2.alloc (.cells #[.int .i64 z, .int .i64 s, .slice a2 ps.length c2] 33)).cell? ⟨w2.heap.size, 1, none⟩ = some (.int .i64 s) := by rw [World.cell?_alloc_mark]; rfl
  have k4 : (w2.alloc (.cells #[.int .i64 z, .int .i64 s, .slice a2 ps.length c2] 33)).cell? ⟨w2.heap.size, 2, none⟩ = some (.slice a2 ps.length c2) := by rw [World.cell?_alloc_mark]; rfl
  clear hB hB2 hBb hx2
  have HRi := Lib.hid (fun w' h => implRoot_any n ⟨t, vs⟩ a1 c1 w' hc1 HN h)
  have HRs := Lib.hid (fun w' h => specRoot_any n ⟨t, vs⟩ a1 c1 w' hm HN h)
  have HPi := Lib.hid (fun w' h => implPtr_any m ⟨z, s, ps⟩ a2 c2 w' hpm h)
  have HPs := Lib.hid (fun w' h => specPtr_any m ⟨z, s, ps⟩ a2 c2 w' hpm h)
  have HR4 := Lib.hid (fun w' h => implRoot_any 4 ⟨t, vs⟩ a1 c1 w' hc1 HN h)
  have HP4 := Lib.hid (fun w' h => implPtr_any 4 ⟨z, s, ps⟩ a2 c2 w' hpm h)
  have HT4 := Lib.hid (fun w' h hT => implText_any 4 ⟨t, vs⟩ a1 c1 w' hc1 HN h hT)
  have HTn := Lib.hid (fun w' h hT => implText_any n ⟨t, vs⟩ a1 c1 w' hc1 HN h hT)
  simp only at HRi HRs HPi HPs HR4 HP4 HT4 HTn
  go_wp2_with fail
  generalize hgE : w2.heap.size = E at k2 k3 k4 ⊢
  clear hgE
  generalize w2.alloc (.cells #[.int .i64 z, .int .i64 s, .slice a2 ps.length c2] 33) = wb at HX HB HP k0 k1 k2 k3 k4 ⊢
  by_cases hok : RootOkP n ⟨t, vs⟩
  · by_cases hone : PtrOkP m ⟨z, s, ps⟩
    · rw [tt_true hok] at HRi HRs
      rw [tt_true hone] at HPi HPs
      rw [tt_true hok.wide] at HR4
      rw [rootT_wide hok] at HT4
      generalize rootT n ⟨t, vs⟩ = T at HT4 HTn
      rw [tt_true hone.wide] at HP4
      clear hok hone
      refine (HRi.out _ HX).mono ?_
      rintro e w3 ⟨rfl, hB⟩
      replace HX := Lib.hid (HX.out.below hB)
      replace HP := Lib.hid (HP.out.below hB)
      replace k0 := cell_below hB k0
      replace k1 := cell_below hB k1
      replace k2 := cell_below hB k2
      replace k3 := cell_below hB k3
      replace k4 := cell_below hB k4
      replace HB := Lib.hid (HB.out.trans (hB.mono HB.out.size))
      clear hB
      go_wp2_with fail
      refine (HPi.out _ HP).mono ?_
      rintro e w4 ⟨rfl, hB⟩
      replace HX := Lib.hid (HX.out.below hB)
      replace HP := Lib.hid (HP.out.below hB)
      replace k0 := cell_below hB k0
      replace k1 := cell_below hB k1
      replace k2 := cell_below hB k2
      replace k3 := cell_below hB k3
      replace k4 := cell_below hB k4
      replace HB := Lib.hid (HB.out.trans (hB.mono HB.out.size))
      clear hB
      go_wp2_with fail
      refine (HRs.out _ HX).mono ?_
      rintro e w5 ⟨rfl, hB⟩
      replace HX := Lib.hid (HX.out.below hB)
      replace HP := Lib.hid (HP.out.below hB)
      replace k0 := cell_below hB k0
      replace k1 := cell_below hB k1
      replace k2 := cell_below hB k2
      replace k3 := cell_below hB k3
      replace k4 := cell_below hB k4
      replace HB := Lib.hid (HB.out.trans (hB.mono HB.out.size))
      clear hB
      go_wp2_with fail
      refine (HPs.out _ HP).mono ?_
      rintro e w6 ⟨rfl, hB⟩
      replace HX := Lib.hid (HX.out.below hB)
      replace HP := Lib.hid (HP.out.below hB)
      replace k0 := cell_below hB k0
      replace k1 := cell_below hB k1
      replace k2 := cell_below hB k2
      replace k3 := cell_below hB k3
      replace k4 := cell_below hB k4
      replace HB := Lib.hid (HB.out.trans (hB.mono HB.out.size))
      clear hB
      go_wp2_with fail
      refine (HP4.out _ HP).mono ?_
      rintro e w7 ⟨rfl, hB⟩
      replace HX := Lib.hid (HX.out.below hB)
      replace HP := Lib.hid (HP.out.below hB)
      replace k0 := cell_below hB k0
      replace k1 := cell_below hB k1
      replace k2 := cell_below hB k2
      replace k3 := cell_below hB k3
      replace k4 := cell_below hB k4
      replace HB := Lib.hid (HB.out.trans (hB.mono HB.out.size))
      clear hB
      replace HTab := Lib.hid (HTab.out.below HB.out)
      have g0 := cell_regrown k0
      have g1 := cell_regrown k1
      have HA1 := Lib.hid (fun w' (hw : Below w7.heap.size w7 w') => HR4.out w' (HX.out.below hw))
      have HA2 := Lib.hid (fun w' (hw : Below w7.heap.size w7 w') => HT4.out w' (HX.out.below hw) (HTab.out.below hw))
      have HA3 := Lib.hid (fun w' (hw : Below w7.heap.size w7 w') => HTn.out w' (HX.out.below hw) (HTab.out.below hw))
      go_wp2_with fail
      refine wp_region_quiet_below (by kernel_rfl) (by kernel_rfl) ?_
      repeat (go_big_quiet_step (first | (go_at_call 11; with_reducible exact Calls.regrown_of (HA1.out _ (below_regrown _ _ _))) | (go_at_call 6; with_reducible exact Calls.regrown_of (HA2.out _ (below_regrown _ _ _))) | (go_at_call 6; with_reducible exact Calls.regrown_of (HA3.out _ (below_regrown _ _ _)))))
      refine wpQuiet_nil ?_
      intro w9 hw9
      have HB9 : Hid (Below w.heap.size w w9) := by obtain ⟨p, rfl⟩ := hw9; exact HB.out.trans ((below_regrown _ _ _).mono HB.out.size)
      clear hw9
      go_wp2
      go_ret
      exact ⟨rfl, HB9.out⟩
    · rw [tt_true hok] at HRi HRs
      rw [tt_false hone] at HPi HPs
      rw [tt_true hok.wide] at HR4
      rw [rootT_wide hok] at HT4
      generalize rootT n ⟨t, vs⟩ = T at HT4 HTn
      clear hok hone
      refine (HRi.out _ HX).mono ?_
      rintro e w3 ⟨rfl, hB⟩
      replace HX := Lib.hid (HX.out.below hB)
      replace HP := Lib.hid (HP.out.below hB)
      replace k0 := cell_below hB k0
      replace k1 := cell_below hB k1
      replace k2 := cell_below hB k2
      replace k3 := cell_below hB k3
      replace k4 := cell_below hB k4
      replace HB := Lib.hid (HB.out.trans (hB.mono HB.out.size))
      clear hB
      go_wp2_with fail
      refine (HPi.out _ HP).mono ?_
      rintro e w4 ⟨rfl, hB⟩
      replace HX := Lib.hid (HX.out.below hB)
      replace HP := Lib.hid (HP.out.below hB)
      replace k0 := cell_below hB k0
      replace k1 := cell_below hB k1
      replace k2 := cell_below hB k2
      replace k3 := cell_below hB k3
      replace k4 := cell_below hB k4
      replace HB := Lib.hid (HB.out.trans (hB.mono HB.out.size))
      clear hB
      go_wp2_with fail
      refine (HRs.out _ HX).mono ?_
      rintro e w5 ⟨rfl, hB⟩
      replace HX := Lib.hid (HX.out.below hB)
      replace HP := Lib.hid (HP.out.below hB)
      replace k0 := cell_below hB k0
      replace k1 := cell_below hB k1
      replace k2 := cell_below hB k2
      replace k3 := cell_below hB k3
      replace k4 := cell_below hB k4
      replace HB := Lib.hid (HB.out.trans (hB.mono HB.out.size))
      clear hB
      go_wp2_with fail
      refine (HPs.out _ HP).mono ?_
      rintro e w6 ⟨rfl, hB⟩
      replace HX := Lib.hid (HX.out.below hB)
      replace HP := Lib.hid (HP.out.below hB)
      replace k0 := cell_below hB k0
      replace k1 := cell_below hB k1
      replace k2 := cell_below hB k2
      replace k3 := cell_below hB k3
      replace k4 := cell_below hB k4
      replace HB := Lib.hid (HB.out.trans (hB.mono HB.out.size))
      clear hB
      replace HTab := Lib.hid (HTab.out.below HB.out)
      have g0 := cell_regrown k0
      have g1 := cell_regrown k1
      have HA1 := Lib.hid (fun w' (hw : Below w6.heap.size w6 w') => HR4.out w' (HX.out.below hw))
      have HA2 := Lib.hid (fun w' (hw : Below w6.heap.size w6 w') => HT4.out w' (HX.out.below hw) (HTab.out.below hw))
      have HA3 := Lib.hid (fun w' (hw : Below w6.heap.size w6 w') => HTn.out w' (HX.out.below hw) (HTab.out.below hw))
      go_wp2_with fail
      refine wp_region_quiet_below (by kernel_rfl) (by kernel_rfl) ?_
      repeat (go_big_quiet_step (first | (go_at_call 11; with_reducible exact Calls.regrown_of (HA1.out _ (below_regrown _ _ _))) | (go_at_call 6; with_reducible exact Calls.regrown_of (HA2.out _ (below_regrown _ _ _))) | (go_at_call 6; with_reducible exact Calls.regrown_of (HA3.out _ (below_regrown _ _ _)))))
      refine wpQuiet_nil ?_
      intro w9 hw9
      have HB9 : Hid (Below w.heap.size w w9) := by obtain ⟨p, rfl⟩ := hw9; exact HB.out.trans ((below_regrown _ _ _).mono HB.out.size)
      clear hw9
      go_wp2
      go_ret
      exact ⟨rfl, HB9.out⟩
  · by_cases hone : PtrOkP m ⟨z, s, ps⟩
    · rw [tt_false hok] at HRi HRs
      rw [tt_true hone] at HPi HPs
      rw [tt_true hone.wide] at HP4
      clear hok hone
      refine (HRi.out _ HX).mono ?_
      rintro e w3 ⟨rfl, hB⟩
      replace HX := Lib.hid (HX.out.below hB)
      replace HP := Lib.hid (HP.out.below hB)
      replace k0 := cell_below hB k0
      replace k1 := cell_below hB k1
      replace k2 := cell_below hB k2
      replace k3 := cell_below hB k3
      replace k4 := cell_below hB k4
      replace HB := Lib.hid (HB.out.trans (hB.mono HB.out.size))
      clear hB
      go_wp2_with fail
      refine (HPi.out _ HP).mono ?_
      rintro e w4 ⟨rfl, hB⟩
      replace HX := Lib.hid (HX.out.below hB)
      replace HP := Lib.hid (HP.out.below hB)
      replace k0 := cell_below hB k0
      replace k1 := cell_below hB k1
      replace k2 := cell_below hB k2
      replace k3 := cell_below hB k3
      replace k4 := cell_below hB k4
      replace HB := Lib.hid (HB.out.trans (hB.mono HB.out.size))
      clear hB
      go_wp2_with fail
      refine (HRs.out _ HX).mono ?_
      rintro e w5 ⟨rfl, hB⟩
      replace HX := Lib.hid (HX.out.below hB)
      replace HP := Lib.hid (HP.out.below hB)
      replace k0 := cell_below hB k0
      replace k1 := cell_below hB k1
      replace k2 := cell_below hB k2
      replace k3 := cell_below hB k3
      replace k4 := cell_below hB k4
      replace HB := Lib.hid (HB.out.trans (hB.mono HB.out.size))
      clear hB
      go_wp2_with fail
      refine (HPs.out _ HP).mono ?_
      rintro e w6 ⟨rfl, hB⟩
      replace HX := Lib.hid (HX.out.below hB)
      replace HP := Lib.hid (HP.out.below hB)
      replace k0 := cell_below hB k0
      replace k1 := cell_below hB k1
      replace k2 := cell_below hB k2
      replace k3 := cell_below hB k3
      replace k4 := cell_below hB k4
      replace HB := Lib.hid (HB.out.trans (hB.mono HB.out.size))
      clear hB
      go_wp2_with fail
      refine (HP4.out _ HP).mono ?_
      rintro e w7 ⟨rfl, hB⟩
      replace HX := Lib.hid (HX.out.below hB)
      replace HP := Lib.hid (HP.out.below hB)
      replace k0 := cell_below hB k0
      replace k1 := cell_below hB k1
      replace k2 := cell_below hB k2
      replace k3 := cell_below hB k3
      replace k4 := cell_below hB k4
      replace HB := Lib.hid (HB.out.trans (hB.mono HB.out.size))
      clear hB
      replace HTab := Lib.hid (HTab.out.below HB.out)
      have g0 := cell_regrown k0
      have g1 := cell_regrown k1
      go_wp2_with fail
      refine wp_region_quiet_below (by kernel_rfl) (by kernel_rfl) ?_
      repeat (go_big_quiet_step (fail))
      refine wpQuiet_nil ?_
      intro w9 hw9
      have HB9 : Hid (Below w.heap.size w w9) := by obtain ⟨p, rfl⟩ := hw9; exact HB.out.trans ((below_regrown _ _ _).mono HB.out.size)
      clear hw9
      go_wp2
      go_ret
      exact ⟨rfl, HB9.out⟩
    · rw [tt_false hok] at HRi HRs
      rw [tt_false hone] at HPi HPs
      clear hok hone
      refine (HRi.out _ HX).mono ?_
      rintro e w3 ⟨rfl, hB⟩
      replace HX := Lib.hid (HX.out.below hB)
      replace HP := Lib.hid (HP.out.below hB)
      replace k0 := cell_below hB k0
      replace k1 := cell_below hB k1
      replace k2 := cell_below hB k2
      replace k3 := cell_below hB k3
      replace k4 := cell_below hB k4
      replace HB := Lib.hid (HB.out.trans (hB.mono HB.out.size))
      clear hB
      go_wp2_with fail
      refine (HPi.out _ HP).mono ?_
      rintro e w4 ⟨rfl, hB⟩
      replace HX := Lib.hid (HX.out.below hB)
      replace HP := Lib.hid (HP.out.below hB)
      replace k0 := cell_below hB k0
      replace k1 := cell_below hB k1
      replace k2 := cell_below hB k2
      replace k3 := cell_below hB k3
      replace k4 := cell_below hB k4
      replace HB := Lib.hid (HB.out.trans (hB.mono HB.out.size))
      clear hB
      go_wp2_with fail
      refine (HRs.out _ HX).mono ?_
      rintro e w5 ⟨rfl, hB⟩
      replace HX := Lib.hid (HX.out.below hB)
      replace HP := Lib.hid (HP.out.below hB)
      replace k0 := cell_below hB k0
      replace k1 := cell_below hB k1
      replace k2 := cell_below hB k2
      replace k3 := cell_below hB k3
      replace k4 := cell_below hB k4
      replace HB := Lib.hid (HB.out.trans (hB.mono HB.out.size))
      clear hB
      go_wp2_with fail
      refine (HPs.out _ HP).mono ?_
      rintro e w6 ⟨rfl, hB⟩
      replace HX := Lib.hid (HX.out.below hB)
      replace HP := Lib.hid (HP.out.below hB)
      replace k0 := cell_below hB k0
      replace k1 := cell_below hB k1
      replace k2 := cell_below hB k2
      replace k3 := cell_below hB k3
      replace k4 := cell_below hB k4
      replace HB := Lib.hid (HB.out.trans (hB.mono HB.out.size))
      clear hB
      replace HTab := Lib.hid (HTab.out.below HB.out)
      have g0 := cell_regrown k0
      have g1 := cell_regrown k1
      go_wp2_with fail
      refine wp_region_quiet_below (by kernel_rfl) (by kernel_rfl) ?_
      repeat (go_big_quiet_step (fail))
      refine wpQuiet_nil ?_
      intro w9 hw9
      have HB9 : Hid (Below w.heap.size w w9) := by obtain ⟨p, rfl⟩ := hw9; exact HB.out.trans ((below_regrown _ _ _).mono HB.out.size)
      clear hw9
      go_wp2
      go_ret
      exact ⟨rfl, HB9.out⟩

set_option maxRecDepth 100000 in
set_option maxHeartbeats 1000000 in
theorem walk (a0 : Option Addr) (len0 cap0 : Nat) (z0 : List Int) (w : World) (w0 : IsBytes w a0 len0 cap0 z0) (hT : Tab w) :
    Calls Tryd.prog 4 #[.slice a0 len0 cap0] w fun e w' => e = .returned (.bool true) ∧ Below w.heap.size w w' := by
  by_cases h0 : len0 ≤ 1048576
  · exact main a0 len0 cap0 z0 w h0 w0 hT
  · have hm : len0 ≤ maxLen := by have := w0.opened; omega
    have d0 : decide (1048576 < (len0 : Int)) = true := by simp; omega
    clear w0 hT
    go_enter Tryd.func4, Tryd.ntmps4
    go_wp2
    go_ret
    exact ⟨rfl, Below.refl _ _⟩

end FnRootWide
end Go.Proofs.YtlonecgmldjdpaaDoor

namespace Go.Proofs.YtlonecgmldjdpaaDoor
open Go.ChangeShapes Go.WideShapes Go.ChangeAt Go.WideMaps Go.WideElems Go.RowKit
set_option maxRecDepth 100000

def tables : List (String × DataW Unit) := [("math/bits.deBruijn32tab", Rows.laid_math_bits_deBruijn32tab), ("math/bits.deBruijn64tab", Rows.laid_math_bits_deBruijn64tab), ("internal/strconv.uint64pow10", Rows.laid_internal_strconv_uint64pow10)]

theorem door_met (os : Os) (args : Array Value) : laidMetH Tryd.prog tables ((World.doorLaid Tryd.prog 400 os).forCall (fun _ _ => 0) ⟨#[], args, []⟩).memory :=
  laidMetH_of_parts3 (fuel := 8) (laidMet_of_run' 8 (by kernel_rfl) (by kernel_rfl)) (by kernel_rfl) (by kernel_rfl)

theorem pow10_data : (Rows.laid_internal_strconv_uint64pow10 : DataW Unit) = Lib.tabData .u64 Lib.pow10Tab := rfl
theorem pow10_type (g : Nat) (h : Tryd.prog.globalNamed "internal/strconv.uint64pow10" = some g) : (Tryd.prog.globals[g]?).map (·.type) = some 116 := by
  obtain rfl := Option.some.inj ((show Tryd.prog.globalNamed "internal/strconv.uint64pow10" = some ((Tryd.prog.globalNamed "internal/strconv.uint64pow10").getD 0) by kernel_rfl).symm.trans h)
  kernel_rfl

theorem tab_of_laid {W : World} (h : laidMetH Tryd.prog tables W) : Tab W := by
  rw [MakeChecks.laidMetH_plain _ _ _ (by kernel_rfl)] at h
  obtain ⟨ps, ⟨g0, t0, cs0, f0, p0, q0, hg0, ht0, hv0, hd0, ⟨g1, t1, cs1, f1, p1, q1, hg1, ht1, hv1, hd1, ⟨g2, t2, cs2, f2, p2, q2, hg2, ht2, hv2, hd2, _, _⟩, _⟩, _⟩, _⟩ := h
  obtain rfl := Option.some.inj ((pow10_type g2 hg2).symm.trans ht2)
  rw [pow10_data] at hd2
  unfold Tab Lib.TabIs
  rw [hv2, ← Lib.cells_of_tab Tryd.underlying116 Tryd.underlying107 (by kernel_rfl) (by kernel_rfl) hd2]

end Go.Proofs.YtlonecgmldjdpaaDoor

namespace Go.Proofs.YtlonecgmldjdpaaDoor
open Go.ChangeShapes Go.WideShapes Go.ChangeAt Go.RowKit Go.Sort
namespace FnRootWide
set_option linter.unusedVariables false

set_option maxRecDepth 100000 in
theorem lifted (os : Os) (started : os.Started) (H : Type) (enc : TypeId × Value → H) :
    ReturnsInHanded {} Tryd.checked os 4 .any (fun w args => (Rows.fnRootWideSpec.pre enc Tryd.prog Tryd.f4 [] false w args ∧ laidMetH Tryd.prog tables w) ∧ sizedMet enc Tryd.prog Tryd.f4 (OpenSpec.ofChange Rows.fnRootWideSpec) false w args)
      (Rows.fnRootWideSpec.post enc Tryd.prog Tryd.f4 false true false false) := by
  refine returnsInHanded_of_change_and (C := Tryd.checked) (X := fun w _ => laidMetH Tryd.prog tables w) (fun _ _ _ hh h => h.of_heap hh) own started (by kernel_rfl) Tryd.func4
    (ChangeSpec.witness_shaped (enc := enc) (C := Tryd.checked) (os := os) (X := fun w _ => laidMetH Tryd.prog tables w) false (World.doorLaid Tryd.prog 400 os) #[.slice none 0 0] 8 rfl (World.shaped_of_RefB (by kernel_rfl) (by kernel_rfl)) (by kernel_rfl) (by kernel_rfl) (by kernel_rfl) (door_met os _)) ?_
  intro W base args ds gs before hval0 hW _ _ hLaid _
  have hval : ∀ (j : Nat) t v, Tryd.f4.params[j]? = some t → args[j]? = some v → Value.okWide Tryd.prog W .any base t v := hval0
  have hW' := hW
  obtain ⟨p, q, hA0, hV, rfl, hfz, hnd⟩ := hW
  have hA : DataW.TrodAll enc Tryd.prog W 0 (fun _ => true) true Tryd.f4.params.toList args.toList ds p := hA0
  rw [Tryd.params4] at hA hval
  obtain ⟨v0, vs0, d0, ds0, p0, q0, hargs, rfl, rfl, h0, r0⟩ := trodAll_cons hA
  obtain ⟨rfl, rfl, rfl⟩ := trodAll_nil r0
  obtain rfl : args = #[v0] := by cases args; simp_all
  obtain ⟨rfl, rfl⟩ := trodVars_none hV
  have k0 := h0
  have lt0 : ∀ x ∈ p0, x.block < W.heap.size := by obtain ⟨m, hm⟩ := k0; exact DataW.trod_lt m _ _ _ hm
  obtain ⟨a0, len0, cap0, rfl⟩ := okWide_slice Tryd.underlying22 (hval 0 22 v0 rfl rfl)
  obtain ⟨z0, w0⟩ : ∃ zs, IsBytes W a0 len0 cap0 zs := by
    obtain ⟨fuel, hf⟩ := h0
    rcases open_ints Tryd.underlying22 Tryd.underlying5 (by kernel_rfl) hf with ⟨hcs, _⟩ | ⟨x, l, c, zs, hcs, _, hl, hm, hz, _, hcell, hwz⟩
    · simp [Value.cells] at hcs
      obtain ⟨rfl, rfl, rfl⟩ := hcs
      exact ⟨[], .inl ⟨rfl, rfl, rfl, rfl⟩⟩
    · simp [Value.cells] at hcs
      obtain ⟨rfl, rfl, rfl⟩ := hcs
      exact ⟨zs, .inr ⟨_, rfl, hl, hm, by simpa using hz, hcell, hwz⟩⟩
  clear hA0 hval0
  refine (walk a0 len0 cap0 z0 W w0 (tab_of_laid hLaid)).mono fun e W' ⟨he, bel⟩ => ?_
  subst he
  exact ⟨_, rfl, _, _, _, [], _, [], hW', trodAll_mk1 (shut_bool Tryd.underlying4 _), (trodAll_cons_mk (Below.trod laidOut (by kernel_rfl) (of_decide_eq_true (by kernel_rfl)) k0 bel lt0) trodAll_mk0), rfl, bel.frame _, fun h => by cases h⟩

theorem over : Rows.fnRootWideRow.holds Tryd.pinned (OpenSpec.ofChange Rows.fnRootWideSpec) :=
  OpenClaim.holds_of_wide 4 Tryd.f4 rfl rfl rfl rfl rfl rfl rfl ⟨rfl, rfl, rfl, rfl, rfl⟩ rfl rfl rfl rfl rfl (by kernel_rfl) Tryd.func4 (by kernel_rfl)
    (of_decide_eq_true (by kernel_rfl)) (by unfold Func.isWrapper; first | (rw [if_pos (by decide +kernel)]; kernel_rfl) | (rw [if_neg (by decide +kernel)]; exact ⟨rfl, rfl⟩))
    (fun os started H enc _ => lifted os started H enc)

theorem card : Claim7.holds Tryd.pinned (.plain (OpenSpec.ofChange Rows.fnRootWideSpec)) Rows.fnRootWideCard :=
  Claim7.holds_tied_plain_at .later [] [.data, .data, .data] true Rows.fnRootWideCard.stood.harness false
    over (fun _ h => by cases h) (by kernel_rfl) (fun _ h => by cases h) fnRootWide_row_tie rfl ⟨rfl, rfl⟩ (by kernel_rfl) rfl
    (fun f fn hf hfn => by
      obtain rfl : f = 4 := Option.some.inj ((show Tryd.prog.funcNamed Rows.fnRootWideRow.func = some 4 by kernel_rfl).symm.trans hf) |>.symm
      obtain rfl : fn = Tryd.f4 := (Option.some.inj (Tryd.func4.symm.trans hfn)).symm
      exact ⟨by kernel_rfl, fun j t ht => by
        rw [Tryd.params4] at ht
        have hm : t ∈ [22] := by simpa using Array.mem_of_getElem? ht
        have hall : ([22].all fun u => !Tryd.prog.wantsStandIn u) = true := by kernel_rfl
        exact (show Tryd.prog.wantsStandIn t = false by simpa using List.all_eq_true.1 hall t hm)⟩)
    (by kernel_rfl)

end FnRootWide

theorem FnRootWide_holds : Rows.FnRootWideCardSaid := FnRootWide.card

end Go.Proofs.YtlonecgmldjdpaaDoor

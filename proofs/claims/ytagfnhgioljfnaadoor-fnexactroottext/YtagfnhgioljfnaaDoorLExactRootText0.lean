/- 'laws.FnExactRootText' returns true at every number and root: RootText of the program answers as RootText of the specification, and changes no argument. Conditions: none. -/
import Derived.Test.YtagfnhgioljfnaaDoorK
import Derived.Test.YtagfnhgioljfnaaDoorR1
import Derived.Test.YtagfnhgioljfnaaDoorQB
import Derived.Test.YtagfnhgioljfnaaDoorS8
import Derived.Deep.RegionHeld3
namespace Go.Proofs.YtagfnhgioljfnaaDoor
open Go.ChangeShapes Go.WideShapes Go.ChangeAt Go.RowKit Go.Sort
namespace FnExactRootText
set_option linter.unusedVariables false

set_option maxRecDepth 100000 in
set_option maxHeartbeats 1000000 in
theorem main (n t : Int) (a : Option Addr) (cap : Nat) (vs : List VolD) (w : World) (hl : vs.length ≤ maxLen) (hnm : Hid (∀ j, j < vs.length → (vs.getD j vol0).name.size ≤ maxLen)) (H0 : Hid (VolsAt w a vs)) (HTab : Hid (Tab w)) :
    Calls Tryd.prog 5 #[.int .i64 n, .agg #[.int .i64 t, .slice a vs.length cap]] w fun e w' => e = .returned (.bool true) ∧ Below w.heap.size w w' := by
  have HBa : Hid (Below w.heap.size w (w.alloc (.cells #[.int .i64 t, .slice a vs.length cap] 41))) := (Below.refl _ _).alloc (Nat.le_refl _) _
  go_enter Tryd.func5, Tryd.ntmps5
  go_wp2_with fail
  refine (szRoot_any t a cap vs _ hl hnm (H0.out.below HBa.out)).mono ?_
  rintro e w1 ⟨he, hB1⟩
  obtain ⟨hc1, _⟩ := bcell hB1
  have HB1 := Lib.hid (HBa.out.trans (hB1.mono HBa.out.size))
  have b0 : w1.cell? ⟨w.heap.size, 0, none⟩ = some (.int .i64 t) := by rw [hc1 _ _ (by simp), World.cell?_alloc_mark]; rfl
  have b1 : w1.cell? ⟨w.heap.size, 1, none⟩ = some (.slice a vs.length cap) := by rw [hc1 _ _ (by simp), World.cell?_alloc_mark]; rfl
  clear hc1 hB1
  rcases he with rfl | ⟨r, rfl, hr, hsm⟩
  · go_wp2
    go_ret
    exact ⟨rfl, HB1.out⟩
  · have d0 : decide ((r : Int) < 0) = false := by simp
    have HS := Lib.hid hsm
    clear hr hsm
    go_wp2_with fail
    refine (toRoot_any t a cap vs _ HS (H0.out.below HB1.out)).mono ?_
    rintro e w2 ⟨v2, rfl, ho2, hB2⟩
    obtain ⟨a2, c2, rfl, hcc2, hm2, hs2⟩ := ho2.reads
    have HS2 := Lib.hid hs2
    have HB2 := Lib.hid (HB1.out.trans (hB2.mono HB1.out.size))
    have k0 := cell_below hB2 b0
    have k1 := cell_below hB2 b1
    clear ho2 hs2 hB2 b0 b1
    go_wp2_with fail
    refine (specText_any n ⟨t, vs⟩ a2 c2 _ hl hnm HS2).mono ?_
    rintro e w3 ⟨rfl, hB3⟩
    have HB3 := Lib.hid (HB2.out.trans (hB3.mono HB2.out.size))
    have b0 := cell_below hB3 k0
    have b1 := cell_below hB3 k1
    clear hB3 k0 k1
    go_wp2_with fail
    refine (toRoot_any t a cap vs _ HS (H0.out.below HB3.out)).mono ?_
    rintro e w4 ⟨v4, rfl, ho4, hB4⟩
    obtain ⟨a4, c4, rfl, hcc4, hm4, hs4⟩ := ho4.reads
    have HB4 := Lib.hid (HB3.out.trans (hB4.mono HB3.out.size))
    have HBb : Hid (Below w4.heap.size w4 (w4.alloc (.cells #[.int .i64 t, .slice a4 vs.length c4] 25))) := (Below.refl _ _).alloc (Nat.le_refl _) _
    have HS4 := Lib.hid hs4
    have HS4' := Lib.hid (hs4.below HBb.out)
    have k0 := cell_below hB4 b0
    have k1 := cell_below hB4 b1
    have hlt4 : w.heap.size < w4.heap.size := World.block_lt_of_cell? w4 _ k0
    clear ho4 hs4 hB4 b0 b1
    go_wp2_with fail
    refine (implText_any n ⟨t, vs⟩ a4 c4 _ hcc4 hnm HS4' (HTab.out.below (HB4.out.trans (HBb.out.mono HB4.out.size)))).mono ?_
    rintro e w5 ⟨rfl, hB5⟩
    obtain ⟨hc5, _⟩ := bcell hB5
    have hB45 : Below w4.heap.size w4 w5 := HBb.out.trans (hB5.mono HBb.out.size)
    have HB5 := Lib.hid (HB4.out.trans (hB45.mono HB4.out.size))
    have HS5 := Lib.hid (HS4.out.below hB45)
    have m0 := cell_below hB45 k0
    have m1 := cell_below hB45 k1
    have x0 : w5.cell? ⟨w4.heap.size, 0, none⟩ = some (.int .i64 t) := by rw [hc5 _ _ (by simp), World.cell?_alloc_mark]; rfl
    have x1 : w5.cell? ⟨w4.heap.size, 1, none⟩ = some (.slice a4 vs.length c4) := by rw [hc5 _ _ (by simp), World.cell?_alloc_mark]; rfl
    clear hB5 hc5 hB45 k0 k1
    generalize rootT n ⟨t, vs⟩ = bb
    have HBd : Hid (Below w.heap.size w w5.drew) := HB5.out.drew
    have HSd : Hid (VolsAt w5.drew a4 vs) := HS5.out.below ((Below.refl _ _).drew)
    go_wp2_with fail
    go_region_held3 (fun w' => w'.cell? ⟨w.heap.size, 0, none⟩ = some (.int .i64 t) ∧ w'.cell? ⟨w.heap.size, 1, none⟩ = some (.slice a vs.length cap) ∧ w'.cell? ⟨w4.heap.size, 0, none⟩ = some (.int .i64 t) ∧ w'.cell? ⟨w4.heap.size, 1, none⟩ = some (.slice a4 vs.length c4)) (first | go_keep | exact hc7 | exact hc6)
      (first
        | (go_at_call 17; refine (toRoot_any t a cap vs _ HS (H0.out.below HBd.out)).mono ?_; rintro e w6 ⟨v6, rfl, ho6, hB6⟩; obtain ⟨a6, c6, rfl, _, _, hs6⟩ := ho6.reads; have HS6 := Lib.hid hs6; have HS56 := Lib.hid (HSd.out.below hB6); have HB6 := Lib.hid (HBd.out.trans (hB6.mono HBd.out.size)); have hc6 := (⟨cell_below hB6 m0, cell_below hB6 m1, cell_below hB6 x0, cell_below hB6 x1⟩ : w6.cell? ⟨w.heap.size, 0, none⟩ = some (.int .i64 t) ∧ w6.cell? ⟨w.heap.size, 1, none⟩ = some (.slice a vs.length cap) ∧ w6.cell? ⟨w4.heap.size, 0, none⟩ = some (.int .i64 t) ∧ w6.cell? ⟨w4.heap.size, 1, none⟩ = some (.slice a4 vs.length c4)); clear ho6 hs6 hB6)
        | (go_at_call 18; refine (eqRoot_same t a4 a6 c4 c6 vs _ hl HS56 HS6).mono ?_; rintro e w7 ⟨rfl, hB7⟩; have hc7 := (⟨cell_below hB7 hc6.1, cell_below hB7 hc6.2.1, cell_below hB7 hc6.2.2.1, cell_below hB7 hc6.2.2.2⟩ : w7.cell? ⟨w.heap.size, 0, none⟩ = some (.int .i64 t) ∧ w7.cell? ⟨w.heap.size, 1, none⟩ = some (.slice a vs.length cap) ∧ w7.cell? ⟨w4.heap.size, 0, none⟩ = some (.int .i64 t) ∧ w7.cell? ⟨w4.heap.size, 1, none⟩ = some (.slice a4 vs.length c4)); have HB7 := Lib.hid (HB6.out.trans (hB7.mono HB6.out.size)); clear hB7))
    all_goals
      go_wp2
      go_ret
      exact ⟨rfl, HB7.out⟩

theorem walk (a0 : Int) (x1 : RootD) (u1 : Value) (w : World) (w0 : (Lit.int .i64 a0).wf = true) (w1 : VolsV w u1 x1.vols) (wn : ∀ j, j < x1.vols.length → (x1.vols.getD j vol0).name.size ≤ maxLen) (wT : Tab w) :
    Calls Tryd.prog 5 #[.int .i64 a0, .agg #[.int .i64 x1.txg, u1]] w fun e w' => e = .returned (.bool true) ∧ Below w.heap.size w w' := by
  obtain ⟨a, cap, rfl, h1, h2, h3⟩ := w1
  exact main a0 x1.txg a cap x1.vols w (by omega) wn h3 wT

end FnExactRootText
end Go.Proofs.YtagfnhgioljfnaaDoor

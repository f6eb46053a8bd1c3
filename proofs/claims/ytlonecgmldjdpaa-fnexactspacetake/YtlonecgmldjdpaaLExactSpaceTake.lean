/- 'laws.FnExactSpaceTake' returns true at all numbers and roots: SpaceTake of the program answers as SpaceTake of the specification, changes no argument, and its answer owns its memory, behind another call too. Conditions: none. -/
import Derived.Test.YtlonecgmldjdpaaK
import Derived.Test.YtlonecgmldjdpaaR1
import Derived.Test.YtlonecgmldjdpaaFT
import Derived.Test.YtlonecgmldjdpaaE6
import Derived.Deep.RegionHeld3
namespace Go.Proofs.Ytlonecgmldjdpaa
open Go.ChangeShapes Go.WideShapes Go.ChangeAt Go.RowKit Go.Sort
namespace FnExactSpaceTake
set_option linter.unusedVariables false

set_option maxRecDepth 100000 in
set_option maxHeartbeats 8000000 in
theorem main (n ta tb : Int) (cols : Int) (aa ab : Option Addr) (ca cb : Nat) (va vb : List VolD) (w : World) (hla : va.length ≤ maxLen) (hlb : vb.length ≤ maxLen) (hna : Hid (∀ j, j < va.length → (va.getD j vol0).name.size ≤ maxLen)) (hnb : Hid (∀ j, j < vb.length → (vb.getD j vol0).name.size ≤ maxLen)) (HA0 : Hid (VolsAt w aa va)) (HB0 : Hid (VolsAt w ab vb)) :
    Calls Try.prog 9 #[.int .i64 n, .agg #[.int .i64 ta, .slice aa va.length ca], .agg #[.int .i64 tb, .slice ab vb.length cb], .int .i64 cols] w fun e w' => e = .returned (.bool true) ∧ Below w.heap.size w w' := by
  have HI := Lib.hid (fun a1 c1 a2 c2 w' h1 h2 h3 h4 => implTake_any n ta tb cols a1 a2 c1 c2 va vb w' h1 h2 hna hnb h3 h4)
  have HD := Lib.hid (fun a1 c1 a2 c2 w' h3 h4 => specTake_any n ta tb cols a1 a2 c1 c2 va vb w' hla hlb hna hnb h3 h4)
  have hp48 := tak_length n ⟨ta, va⟩ ⟨tb, vb⟩ cols
  generalize tak n ⟨ta, va⟩ ⟨tb, vb⟩ cols = ps at HI HD hp48
  generalize takB n ⟨ta, va⟩ ⟨tb, vb⟩ cols = bb at HI HD
  have ebb : (bb != bb) = false := by simp
  have HBa : Hid (Below w.heap.size w ((w.alloc (.cells #[.int .i64 ta, .slice aa va.length ca] 52)).alloc (.cells #[.int .i64 tb, .slice ab vb.length cb] 52))) := ((Below.refl _ _).alloc (Nat.le_refl _) _).alloc (by simp) _
  have HC0 : Hid (((w.alloc (.cells #[.int .i64 ta, .slice aa va.length ca] 52)).alloc (.cells #[.int .i64 tb, .slice ab vb.length cb] 52)).cell? ⟨w.heap.size, 0, none⟩ = some (.int .i64 ta) ∧ ((w.alloc (.cells #[.int .i64 ta, .slice aa va.length ca] 52)).alloc (.cells #[.int .i64 tb, .slice ab vb.length cb] 52)).cell? ⟨w.heap.size, 1, none⟩ = some (.slice aa va.length ca) ∧ ((w.alloc (.cells #[.int .i64 ta, .slice aa va.length ca] 52)).alloc (.cells #[.int .i64 tb, .slice ab vb.length cb] 52)).cell? ⟨w.heap.size + 1, 0, none⟩ = some (.int .i64 tb) ∧ ((w.alloc (.cells #[.int .i64 ta, .slice aa va.length ca] 52)).alloc (.cells #[.int .i64 tb, .slice ab vb.length cb] 52)).cell? ⟨w.heap.size + 1, 1, none⟩ = some (.slice ab vb.length cb)) := ⟨by simp [go_sem], by simp [go_sem], by simp [go_sem], by simp [go_sem]⟩
  go_enter Try.func9, Try.ntmps9
  go_wp2_with fail
  refine (szRoot_any ta aa ca va _ hla hna (HA0.out.below HBa.out)).mono ?_
  rintro e w1 ⟨he, hB1⟩
  have HB1 := Lib.hid (HBa.out.trans (hB1.mono HBa.out.size))
  have HC1 := Lib.hid (⟨cell_below hB1 HC0.out.1, cell_below hB1 HC0.out.2.1, cell_below hB1 HC0.out.2.2.1, cell_below hB1 HC0.out.2.2.2⟩ : w1.cell? ⟨w.heap.size, 0, none⟩ = some (.int .i64 ta) ∧ w1.cell? ⟨w.heap.size, 1, none⟩ = some (.slice aa va.length ca) ∧ w1.cell? ⟨w.heap.size + 1, 0, none⟩ = some (.int .i64 tb) ∧ w1.cell? ⟨w.heap.size + 1, 1, none⟩ = some (.slice ab vb.length cb))
  clear hB1
  rcases he with rfl | ⟨r, rfl, hr, hsm⟩
  · go_wp2
    go_ret
    exact ⟨rfl, HB1.out⟩
  have d0 : decide ((r : Int) < 0) = false := by simp
  have HSa := Lib.hid hsm
  have hva := hsm.1
  clear hsm
  obtain ⟨_, _, y0, y1⟩ := HC1.out
  go_wp2_with fail
  refine (szRoot_at tb ab cb r vb _ hlb hr hnb (HB0.out.below HB1.out)).mono ?_
  rintro e w2 ⟨he, hB2⟩
  have HB2 := Lib.hid (HB1.out.trans (hB2.mono HB1.out.size))
  have HC2 := Lib.hid (⟨cell_below hB2 HC1.out.1, cell_below hB2 HC1.out.2.1, cell_below hB2 HC1.out.2.2.1, cell_below hB2 HC1.out.2.2.2⟩ : w2.cell? ⟨w.heap.size, 0, none⟩ = some (.int .i64 ta) ∧ w2.cell? ⟨w.heap.size, 1, none⟩ = some (.slice aa va.length ca) ∧ w2.cell? ⟨w.heap.size + 1, 0, none⟩ = some (.int .i64 tb) ∧ w2.cell? ⟨w.heap.size + 1, 1, none⟩ = some (.slice ab vb.length cb))
  clear hB2 y0 y1
  rcases he with rfl | ⟨r2, rfl, hr2, hsm⟩
  · go_wp2
    go_ret
    exact ⟨rfl, HB2.out⟩
  have d1 : decide ((r2 : Int) < 0) = false := by simp
  have HSb := Lib.hid hsm
  have hvb := hsm.1
  clear hsm hr hr2 d0 HBa HC0 HC1 HB1
  have HTa := Lib.hid (fun w' (h : Below w.heap.size w w') => toRoot_any ta aa ca va w' HSa (HA0.out.below h))
  have HTb := Lib.hid (fun w' (h : Below w.heap.size w w') => toRoot_any tb ab cb vb w' HSb (HB0.out.below h))
  obtain ⟨x0, x1, y0, y1⟩ := HC2.out
  have HBd : Hid (Below w.heap.size w w2.drew) := HB2.out.drew
  go_wp2_with fail
  go_region_held3 (fun w' => w'.cell? ⟨w.heap.size, 0, none⟩ = some (.int .i64 ta) ∧ w'.cell? ⟨w.heap.size, 1, none⟩ = some (.slice aa va.length ca) ∧ w'.cell? ⟨w.heap.size + 1, 0, none⟩ = some (.int .i64 tb) ∧ w'.cell? ⟨w.heap.size + 1, 1, none⟩ = some (.slice ab vb.length cb)) (first | go_keep | exact hc3 | exact hcq | exact hcp)
    (first
      | (go_at_call 25; ((with_reducible refine (HTa.out _ HBd.out).mono ?_); rintro e wp ⟨vp, rfl, hop, hBp⟩; obtain ⟨ap, cp, rfl, hccp, _, hsp⟩ := hop.reads; have HSp := Lib.hid hsp; have HBp := Lib.hid (HBd.out.trans (hBp.mono HBd.out.size)); have hcp := (⟨cell_below hBp x0, cell_below hBp x1, cell_below hBp y0, cell_below hBp y1⟩ : wp.cell? ⟨w.heap.size, 0, none⟩ = some (.int .i64 ta) ∧ wp.cell? ⟨w.heap.size, 1, none⟩ = some (.slice aa va.length ca) ∧ wp.cell? ⟨w.heap.size + 1, 0, none⟩ = some (.int .i64 tb) ∧ wp.cell? ⟨w.heap.size + 1, 1, none⟩ = some (.slice ab vb.length cb)); clear hop hsp hBp))
      | (go_at_call 25; ((with_reducible refine (HTb.out _ HBp.out).mono ?_); rintro e wq ⟨vq, rfl, hoq, hBq⟩; obtain ⟨aq, cq, rfl, hccq, _, hsq⟩ := hoq.reads; have HSq := Lib.hid hsq; have HSpq := Lib.hid (HSp.out.below hBq); have HBq := Lib.hid (HBp.out.trans (hBq.mono HBp.out.size)); have hcq := (⟨cell_below hBq hcp.1, cell_below hBq hcp.2.1, cell_below hBq hcp.2.2.1, cell_below hBq hcp.2.2.2⟩ : wq.cell? ⟨w.heap.size, 0, none⟩ = some (.int .i64 ta) ∧ wq.cell? ⟨w.heap.size, 1, none⟩ = some (.slice aa va.length ca) ∧ wq.cell? ⟨w.heap.size + 1, 0, none⟩ = some (.int .i64 tb) ∧ wq.cell? ⟨w.heap.size + 1, 1, none⟩ = some (.slice ab vb.length cb)); clear hoq hsq hBq))
      | (go_at_call 22; ((with_reducible refine (HD.out _ _ _ _ _ HSpq HSq).mono ?_); rintro e w3 ⟨v3, rfl, ho3, hB3⟩; obtain ⟨a3, c3, rfl, hc3x, hm3, hs3⟩ := OwnPl.reads ho3; have HW3 := Lib.hid hs3; have HB3 := Lib.hid (HBq.out.trans (hB3.mono HBq.out.size)); have hc3 := (⟨cell_below hB3 hcq.1, cell_below hB3 hcq.2.1, cell_below hB3 hcq.2.2.1, cell_below hB3 hcq.2.2.2⟩ : w3.cell? ⟨w.heap.size, 0, none⟩ = some (.int .i64 ta) ∧ w3.cell? ⟨w.heap.size, 1, none⟩ = some (.slice aa va.length ca) ∧ w3.cell? ⟨w.heap.size + 1, 0, none⟩ = some (.int .i64 tb) ∧ w3.cell? ⟨w.heap.size + 1, 1, none⟩ = some (.slice ab vb.length cb)); clear ho3 hs3 hB3)))
  all_goals
    have HC3 := Lib.hid hc3
    have hlt3 : w.heap.size + 1 < w3.heap.size := World.block_lt_of_cell? w3 _ hc3.2.2.1
    have Hlt3 := Lib.hid hlt3
    clear hlt3 HBd HC2 HB2 HBp HBq HSp HSq HSpq hcp hcq hc3 x0 x1 y0 y1 hccp hccq
    obtain ⟨x0, x1, _, _⟩ := HC3.out
    go_wp2_with fail
    refine (HTa.out _ HB3.out).mono ?_
    rintro e w4 ⟨v4, rfl, ho4, hB4⟩
    obtain ⟨a4, c4, rfl, hcc4, hm4, hs4⟩ := ho4.reads
    have HSh4 := Lib.hid (ho4.shape HSa.out)
    have HB34 := Lib.hid hB4
    have HBb : Hid (Below w4.heap.size w4 (w4.alloc (.cells #[.int .i64 ta, .slice a4 va.length c4] 25))) := (Below.refl _ _).alloc (Nat.le_refl _) _
    have HS4 := Lib.hid (hs4.below HBb.out)
    have HB34b := Lib.hid (HB34.out.trans (HBb.out.mono HB34.out.size))
    have HBw4 := Lib.hid (HB3.out.trans (HB34b.out.mono HB3.out.size))
    have y0 := cell_below HB34b.out HC3.out.2.2.1
    have y1 := cell_below HB34b.out HC3.out.2.2.2
    have HZ9 : Hid ((w4.alloc (.cells #[.int .i64 ta, .slice a4 va.length c4] 25)).cell? ⟨w4.heap.size, 0, none⟩ = some (.int .i64 ta) ∧ (w4.alloc (.cells #[.int .i64 ta, .slice a4 va.length c4] 25)).cell? ⟨w4.heap.size, 1, none⟩ = some (.slice a4 va.length c4)) := ⟨by simp [go_sem], by simp [go_sem]⟩
    clear ho4 hs4 hB4 x0 x1
    go_wp2_with fail
    refine (HTb.out _ HBw4.out).mono ?_
    rintro e w5 ⟨v5, rfl, ho5, hB5⟩
    obtain ⟨b4, d4, rfl, hcd4, hmd4, hs5⟩ := ho5.reads
    have HSh5 := Lib.hid (ho5.shape HSb.out)
    have HB45 := Lib.hid (HBb.out.trans (hB5.mono HBb.out.size))
    have HS45 := Lib.hid (HS4.out.below hB5)
    have HB35 := Lib.hid (HB34.out.trans (HB45.out.mono HB34.out.size))
    have HBc : Hid (Below w5.heap.size w5 (w5.alloc (.cells #[.int .i64 tb, .slice b4 vb.length d4] 25))) := (Below.refl _ _).alloc (Nat.le_refl _) _
    have HZ9' := Lib.hid (And.intro (cell_below hB5 HZ9.out.1) (cell_below hB5 HZ9.out.2))
    have hl45 : w4.heap.size < w5.heap.size := World.block_lt_of_cell? w5 _ HZ9'.out.1
    have z0 := cell_below HBc.out HZ9'.out.1
    have z1 := cell_below HBc.out HZ9'.out.2
    have z2 : (w5.alloc (.cells #[.int .i64 tb, .slice b4 vb.length d4] 25)).cell? ⟨w5.heap.size, 0, none⟩ = some (.int .i64 tb) := by simp [go_sem]
    have z3 : (w5.alloc (.cells #[.int .i64 tb, .slice b4 vb.length d4] 25)).cell? ⟨w5.heap.size, 1, none⟩ = some (.slice b4 vb.length d4) := by simp [go_sem]
    have HSx1 := Lib.hid (HS45.out.below HBc.out)
    have HSx2 := Lib.hid (hs5.below HBc.out)
    have HSh1 : Hid (VoSh w5 w3.heap.size w5.heap.size a4 va.length) := (HSh4.out.mk (Mk.of_below HB45.out HB34.out.size)).wide (Nat.le_refl _) (by omega)
    have HSh2 : Hid (VoSh w5 w3.heap.size w5.heap.size b4 vb.length) := HSh5.out.wide (by have := HB34b.out.size; omega) (Nat.le_refl _)
    have HC5 : Hid ((w5.alloc (.cells #[.int .i64 tb, .slice b4 vb.length d4] 25)).cell? ⟨w.heap.size, 0, none⟩ = some (.int .i64 ta) ∧ (w5.alloc (.cells #[.int .i64 tb, .slice b4 vb.length d4] 25)).cell? ⟨w.heap.size, 1, none⟩ = some (.slice aa va.length ca) ∧ (w5.alloc (.cells #[.int .i64 tb, .slice b4 vb.length d4] 25)).cell? ⟨w.heap.size + 1, 0, none⟩ = some (.int .i64 tb) ∧ (w5.alloc (.cells #[.int .i64 tb, .slice b4 vb.length d4] 25)).cell? ⟨w.heap.size + 1, 1, none⟩ = some (.slice ab vb.length cb) ∧ (w5.alloc (.cells #[.int .i64 tb, .slice b4 vb.length d4] 25)).cell? ⟨w4.heap.size, 0, none⟩ = some (.int .i64 ta) ∧ (w5.alloc (.cells #[.int .i64 tb, .slice b4 vb.length d4] 25)).cell? ⟨w4.heap.size, 1, none⟩ = some (.slice a4 va.length c4) ∧ (w5.alloc (.cells #[.int .i64 tb, .slice b4 vb.length d4] 25)).cell? ⟨w5.heap.size, 0, none⟩ = some (.int .i64 tb) ∧ (w5.alloc (.cells #[.int .i64 tb, .slice b4 vb.length d4] 25)).cell? ⟨w5.heap.size, 1, none⟩ = some (.slice b4 vb.length d4)) := ⟨cell_below (HB35.out.trans (HBc.out.mono HB35.out.size)) HC3.out.1, cell_below (HB35.out.trans (HBc.out.mono HB35.out.size)) HC3.out.2.1, cell_below (HB35.out.trans (HBc.out.mono HB35.out.size)) HC3.out.2.2.1, cell_below (HB35.out.trans (HBc.out.mono HB35.out.size)) HC3.out.2.2.2, z0, z1, z2, z3⟩
    clear ho5 hB5 hs5 y0 y1 HZ9 HZ9' HS45 HS4 HSh4 HSh5
    go_wp2_with fail
    refine (HI.out _ _ _ _ _ hcc4 hcd4 HSx1 HSx2).mono ?_
    rintro e w6 ⟨v6, rfl, ho6, hB6⟩
    obtain ⟨a5, c5, rfl, hc6', hm6, hs6⟩ := OwnPl.reads ho6
    have HO6 : Hid (OwnPl w6 w5.heap.size (.slice a5 ps.length c5) ps) := ho6.mono (by simp)
    have HB56 := Lib.hid (HBc.out.trans (hB6.mono HBc.out.size))
    have HC6 : Hid (w6.cell? ⟨w.heap.size, 0, none⟩ = some (.int .i64 ta) ∧ w6.cell? ⟨w.heap.size, 1, none⟩ = some (.slice aa va.length ca) ∧ w6.cell? ⟨w.heap.size + 1, 0, none⟩ = some (.int .i64 tb) ∧ w6.cell? ⟨w.heap.size + 1, 1, none⟩ = some (.slice ab vb.length cb) ∧ w6.cell? ⟨w4.heap.size, 0, none⟩ = some (.int .i64 ta) ∧ w6.cell? ⟨w4.heap.size, 1, none⟩ = some (.slice a4 va.length c4) ∧ w6.cell? ⟨w5.heap.size, 0, none⟩ = some (.int .i64 tb) ∧ w6.cell? ⟨w5.heap.size, 1, none⟩ = some (.slice b4 vb.length d4)) := (⟨cell_below hB6 HC5.out.1, cell_below hB6 HC5.out.2.1, cell_below hB6 HC5.out.2.2.1, cell_below hB6 HC5.out.2.2.2.1, cell_below hB6 HC5.out.2.2.2.2.1, cell_below hB6 HC5.out.2.2.2.2.2.1, cell_below hB6 HC5.out.2.2.2.2.2.2.1, cell_below hB6 HC5.out.2.2.2.2.2.2.2⟩ : w6.cell? ⟨w.heap.size, 0, none⟩ = some (.int .i64 ta) ∧ w6.cell? ⟨w.heap.size, 1, none⟩ = some (.slice aa va.length ca) ∧ w6.cell? ⟨w.heap.size + 1, 0, none⟩ = some (.int .i64 tb) ∧ w6.cell? ⟨w.heap.size + 1, 1, none⟩ = some (.slice ab vb.length cb) ∧ w6.cell? ⟨w4.heap.size, 0, none⟩ = some (.int .i64 ta) ∧ w6.cell? ⟨w4.heap.size, 1, none⟩ = some (.slice a4 va.length c4) ∧ w6.cell? ⟨w5.heap.size, 0, none⟩ = some (.int .i64 tb) ∧ w6.cell? ⟨w5.heap.size, 1, none⟩ = some (.slice b4 vb.length d4))
    have HP6 := Lib.hid hs6
    have HW6 := Lib.hid (HW3.out.below (HB35.out.trans (HB56.out.mono HB35.out.size)))
    have HSy1 := Lib.hid (HSx1.out.below hB6)
    have HSy2 := Lib.hid (HSx2.out.below hB6)
    clear ho6 hB6 hs6 z0 z1 z2 z3 HSx1 HSx2 HC5
    go_wp2_with fail
    refine (eqPlaceS_same a5 a3 c5 c3 ps _ (by unfold maxLen; omega) HP6 HW6).mono ?_
    rintro e w7 ⟨rfl, hB7⟩
    have HO7 : Hid (OwnPl w7 w5.heap.size (.slice a5 ps.length c5) ps) := HO6.out.below hB7
    have HB57 := Lib.hid (HB56.out.trans (hB7.mono HB56.out.size))
    have HC7 := Lib.hid (⟨cell_below hB7 HC6.out.1, cell_below hB7 HC6.out.2.1, cell_below hB7 HC6.out.2.2.1, cell_below hB7 HC6.out.2.2.2.1, cell_below hB7 HC6.out.2.2.2.2.1, cell_below hB7 HC6.out.2.2.2.2.2.1, cell_below hB7 HC6.out.2.2.2.2.2.2.1, cell_below hB7 HC6.out.2.2.2.2.2.2.2⟩ : w7.cell? ⟨w.heap.size, 0, none⟩ = some (.int .i64 ta) ∧ w7.cell? ⟨w.heap.size, 1, none⟩ = some (.slice aa va.length ca) ∧ w7.cell? ⟨w.heap.size + 1, 0, none⟩ = some (.int .i64 tb) ∧ w7.cell? ⟨w.heap.size + 1, 1, none⟩ = some (.slice ab vb.length cb) ∧ w7.cell? ⟨w4.heap.size, 0, none⟩ = some (.int .i64 ta) ∧ w7.cell? ⟨w4.heap.size, 1, none⟩ = some (.slice a4 va.length c4) ∧ w7.cell? ⟨w5.heap.size, 0, none⟩ = some (.int .i64 tb) ∧ w7.cell? ⟨w5.heap.size, 1, none⟩ = some (.slice b4 vb.length d4))
    have HSz1 := Lib.hid (HSy1.out.below hB7)
    have HSz2 := Lib.hid (HSy2.out.below hB7)
    have HBw7 := Lib.hid (HB3.out.trans ((HB35.out.trans (HB57.out.mono HB35.out.size)).mono HB3.out.size))
    clear hB7 HO6 HB56 HC6 HP6 HW6 HSy1 HSy2
    obtain ⟨x0, x1, y0, y1, z0, z1, t0, t1⟩ := HC7.out
    have HBd : Hid (Below w.heap.size w w7.drew) := HBw7.out.drew
    have HSd1 : Hid (VolsAt w7.drew a4 va) := HSz1.out.below ((Below.refl _ _).drew)
    have HZd : Hid (Below w7.heap.size w7 w7.drew) := (Below.refl _ _).drew
    go_wp2_with fail
    go_region_held3 (fun w' => w'.cell? ⟨w.heap.size, 0, none⟩ = some (.int .i64 ta) ∧ w'.cell? ⟨w.heap.size, 1, none⟩ = some (.slice aa va.length ca) ∧ w'.cell? ⟨w4.heap.size, 0, none⟩ = some (.int .i64 ta) ∧ w'.cell? ⟨w4.heap.size, 1, none⟩ = some (.slice a4 va.length c4)) (first | go_keep | exact hc9 | exact hc8)
      (first
        | (go_at_call 25; ((with_reducible refine (HTa.out _ HBd.out).mono ?_); rintro e w8 ⟨v8, rfl, ho8, hB8⟩; obtain ⟨a8, c8, rfl, _, _, hs8⟩ := ho8.reads; have HS8 := Lib.hid hs8; have HS78 := Lib.hid (HSd1.out.below hB8); have HZ8 := Lib.hid (HZd.out.trans (hB8.mono HZd.out.size)); have hc8 := (⟨cell_below hB8 x0, cell_below hB8 x1, cell_below hB8 z0, cell_below hB8 z1⟩ : w8.cell? ⟨w.heap.size, 0, none⟩ = some (.int .i64 ta) ∧ w8.cell? ⟨w.heap.size, 1, none⟩ = some (.slice aa va.length ca) ∧ w8.cell? ⟨w4.heap.size, 0, none⟩ = some (.int .i64 ta) ∧ w8.cell? ⟨w4.heap.size, 1, none⟩ = some (.slice a4 va.length c4)); clear ho8 hs8 hB8))
        | (go_at_call 27; ((with_reducible refine (eqRoot_same ta a4 a8 c4 c8 va _ hla HS78 HS8).mono ?_); rintro e w9 ⟨rfl, hB9⟩; have hc9 := (⟨cell_below hB9 hc8.1, cell_below hB9 hc8.2.1, cell_below hB9 hc8.2.2.1, cell_below hB9 hc8.2.2.2⟩ : w9.cell? ⟨w.heap.size, 0, none⟩ = some (.int .i64 ta) ∧ w9.cell? ⟨w.heap.size, 1, none⟩ = some (.slice aa va.length ca) ∧ w9.cell? ⟨w4.heap.size, 0, none⟩ = some (.int .i64 ta) ∧ w9.cell? ⟨w4.heap.size, 1, none⟩ = some (.slice a4 va.length c4)); have HZ9 := Lib.hid (HZ8.out.trans (hB9.mono HZ8.out.size)); clear hB9)))
    all_goals
      have HC9 := Lib.hid (⟨hc9.1, hc9.2.1, cell_below HZ9.out y0, cell_below HZ9.out y1, hc9.2.2.1, hc9.2.2.2, cell_below HZ9.out t0, cell_below HZ9.out t1⟩ : w9.cell? ⟨w.heap.size, 0, none⟩ = some (.int .i64 ta) ∧ w9.cell? ⟨w.heap.size, 1, none⟩ = some (.slice aa va.length ca) ∧ w9.cell? ⟨w.heap.size + 1, 0, none⟩ = some (.int .i64 tb) ∧ w9.cell? ⟨w.heap.size + 1, 1, none⟩ = some (.slice ab vb.length cb) ∧ w9.cell? ⟨w4.heap.size, 0, none⟩ = some (.int .i64 ta) ∧ w9.cell? ⟨w4.heap.size, 1, none⟩ = some (.slice a4 va.length c4) ∧ w9.cell? ⟨w5.heap.size, 0, none⟩ = some (.int .i64 tb) ∧ w9.cell? ⟨w5.heap.size, 1, none⟩ = some (.slice b4 vb.length d4))
      have HSd2 : Hid (VolsAt w9.drew b4 vb) := (HSz2.out.below HZ9.out).below ((Below.refl _ _).drew)
      have HBd9 : Hid (Below w.heap.size w w9.drew) := (HBw7.out.trans (HZ9.out.mono HBw7.out.size)).drew
      have HZd9 : Hid (Below w7.heap.size w7 w9.drew) := HZ9.out.drew
      clear HBd HSd1 HZd HZ8 HS78 HS8 hc8 hc9 x0 x1 y0 y1 z0 z1 t0 t1 HSz1 HSz2 HC7
      obtain ⟨x0, x1, y0, y1, z0, z1, t0, t1⟩ := HC9.out
      go_wp2_with fail
      go_region_held3 (fun w' => w'.cell? ⟨w.heap.size + 1, 0, none⟩ = some (.int .i64 tb) ∧ w'.cell? ⟨w.heap.size + 1, 1, none⟩ = some (.slice ab vb.length cb) ∧ w'.cell? ⟨w5.heap.size, 0, none⟩ = some (.int .i64 tb) ∧ w'.cell? ⟨w5.heap.size, 1, none⟩ = some (.slice b4 vb.length d4)) (first | go_keep | exact hc11 | exact hc10)
        (first
          | (go_at_call 25; ((with_reducible refine (HTb.out _ HBd9.out).mono ?_); rintro e w10 ⟨v10, rfl, ho10, hB10⟩; obtain ⟨a10, c10, rfl, _, _, hs10⟩ := ho10.reads; have HS10 := Lib.hid hs10; have HS910 := Lib.hid (HSd2.out.below hB10); have HZ10 := Lib.hid (HZd9.out.trans (hB10.mono HZd9.out.size)); have HY10 := Lib.hid (⟨cell_below hB10 x0, cell_below hB10 x1, cell_below hB10 z0, cell_below hB10 z1⟩ : w10.cell? ⟨w.heap.size, 0, none⟩ = some (.int .i64 ta) ∧ w10.cell? ⟨w.heap.size, 1, none⟩ = some (.slice aa va.length ca) ∧ w10.cell? ⟨w4.heap.size, 0, none⟩ = some (.int .i64 ta) ∧ w10.cell? ⟨w4.heap.size, 1, none⟩ = some (.slice a4 va.length c4)); have hc10 := (⟨cell_below hB10 y0, cell_below hB10 y1, cell_below hB10 t0, cell_below hB10 t1⟩ : w10.cell? ⟨w.heap.size + 1, 0, none⟩ = some (.int .i64 tb) ∧ w10.cell? ⟨w.heap.size + 1, 1, none⟩ = some (.slice ab vb.length cb) ∧ w10.cell? ⟨w5.heap.size, 0, none⟩ = some (.int .i64 tb) ∧ w10.cell? ⟨w5.heap.size, 1, none⟩ = some (.slice b4 vb.length d4)); clear ho10 hs10 hB10))
          | (go_at_call 27; ((with_reducible refine (eqRoot_same tb b4 a10 d4 c10 vb _ hlb HS910 HS10).mono ?_); rintro e w11 ⟨rfl, hB11⟩; have HY11 := Lib.hid (⟨cell_below hB11 HY10.out.1, cell_below hB11 HY10.out.2.1, cell_below hB11 HY10.out.2.2.1, cell_below hB11 HY10.out.2.2.2⟩ : w11.cell? ⟨w.heap.size, 0, none⟩ = some (.int .i64 ta) ∧ w11.cell? ⟨w.heap.size, 1, none⟩ = some (.slice aa va.length ca) ∧ w11.cell? ⟨w4.heap.size, 0, none⟩ = some (.int .i64 ta) ∧ w11.cell? ⟨w4.heap.size, 1, none⟩ = some (.slice a4 va.length c4)); have hc11 := (⟨cell_below hB11 hc10.1, cell_below hB11 hc10.2.1, cell_below hB11 hc10.2.2.1, cell_below hB11 hc10.2.2.2⟩ : w11.cell? ⟨w.heap.size + 1, 0, none⟩ = some (.int .i64 tb) ∧ w11.cell? ⟨w.heap.size + 1, 1, none⟩ = some (.slice ab vb.length cb) ∧ w11.cell? ⟨w5.heap.size, 0, none⟩ = some (.int .i64 tb) ∧ w11.cell? ⟨w5.heap.size, 1, none⟩ = some (.slice b4 vb.length d4)); have HZ11 := Lib.hid (HZ10.out.trans (hB11.mono HZ10.out.size)); clear hB11)))
      all_goals
        have HR : Hid (Rest2 va.length vb.length ps w w3 w5 w11 a3 a4 b4 a5 c5) := ⟨HB3.out, HB35.out, HB57.out.trans (HZ11.out.mono HB57.out.size), HW3.out, HSh1.out, HSh2.out, HO7.out.below HZ11.out⟩
        have hs3 : w3.heap.size ≤ w11.heap.size := by have := HR.out.b35.size; have := HR.out.b58.size; omega
        have HCx : Hid (w11.cell? ⟨w.heap.size, 0, none⟩ = some (.int .i64 ta) ∧ w11.cell? ⟨w.heap.size, 1, none⟩ = some (.slice aa va.length ca) ∧ w11.cell? ⟨w.heap.size + 1, 0, none⟩ = some (.int .i64 tb) ∧ w11.cell? ⟨w.heap.size + 1, 1, none⟩ = some (.slice ab vb.length cb)) := ⟨HY11.out.1, HY11.out.2.1, hc11.1, hc11.2.1⟩
        have HCt := Lib.hid (And.intro hc11.2.2.1 hc11.2.2.2)
        obtain ⟨_, _, z0', z1'⟩ := HY11.out
        clear HBd9 HSd2 HZd9 HZ10 HZ11 HZ9 HS910 HS10 hc10 hc11 x0 x1 y0 y1 z0 z1 t0 t1 HC9 HY10 HY11 HBw7 HO7 HB57 HSh1 HSh2 HB45 HBw4 HB34b HBb HB34 HBc
        go_wp2_with fail
        refine (markRoot_mk w3.heap.size w5.heap.size ta a4 va.length c4 1 _ hs3 (by omega) hva (by omega) HR.out.shape1).mono ?_
        rintro e w12 ⟨⟨k1, rfl, hk1, hk2⟩, hm12⟩
        have HM12 := Lib.hid hm12
        have t0 := hm12.cellHigh HCt.out.1 (Nat.le_refl _)
        have t1 := hm12.cellHigh HCt.out.2 (Nat.le_refl _)
        have HCx12 : Hid (w12.cell? ⟨w.heap.size, 0, none⟩ = some (.int .i64 ta) ∧ w12.cell? ⟨w.heap.size, 1, none⟩ = some (.slice aa va.length ca) ∧ w12.cell? ⟨w.heap.size + 1, 0, none⟩ = some (.int .i64 tb) ∧ w12.cell? ⟨w.heap.size + 1, 1, none⟩ = some (.slice ab vb.length cb)) := ⟨hm12.cellLow HCx.out.1 (by have := Hlt3.out; omega), hm12.cellLow HCx.out.2.1 (by have := Hlt3.out; omega), hm12.cellLow HCx.out.2.2.1 Hlt3.out, hm12.cellLow HCx.out.2.2.2 Hlt3.out⟩
        have hs12 : w3.heap.size ≤ w12.heap.size := by have := hm12.low.size; omega
        clear hm12 z0' z1' HCx HCt
        go_wp2_with fail
        refine (markRoot_mk w3.heap.size w5.heap.size tb b4 vb.length d4 k1 _ hs12 (by omega) hvb (by omega) (HR.out.shape2 HM12.out)).mono ?_
        rintro e w13 ⟨⟨k2, rfl, hk3, hk4⟩, hm13⟩
        have d2 : decide ((k2 : Int) < 0) = false := by simp
        have HCx13 : Hid (w13.cell? ⟨w.heap.size, 0, none⟩ = some (.int .i64 ta) ∧ w13.cell? ⟨w.heap.size, 1, none⟩ = some (.slice aa va.length ca) ∧ w13.cell? ⟨w.heap.size + 1, 0, none⟩ = some (.int .i64 tb) ∧ w13.cell? ⟨w.heap.size + 1, 1, none⟩ = some (.slice ab vb.length cb)) := ⟨hm13.cellLow HCx12.out.1 (by have := Hlt3.out; omega), hm13.cellLow HCx12.out.2.1 (by have := Hlt3.out; omega), hm13.cellLow HCx12.out.2.2.1 Hlt3.out, hm13.cellLow HCx12.out.2.2.2 Hlt3.out⟩
        obtain ⟨Q1, Q2, Q3, Q4⟩ := HR.out.marked (HM12.out.trans hm13)
        have HQ1 := Lib.hid Q1
        have HQ2 := Lib.hid Q2
        have HQ3 := Lib.hid Q3
        obtain ⟨a', c', hv', _, _, hp13⟩ := OwnPl.reads Q3
        cases hv'
        have HP13 := Lib.hid hp13
        have HQ4 := Lib.hid Q4
        clear hm13 Q1 Q2 Q3 Q4 hp13 HR hs3 hs12 t0 t1 HCx12 HM12
        go_wp2_with fail
        refine (eqPlaceS_same a5 a3 c5 c3 ps _ (by unfold maxLen; omega) HP13 HQ4).mono ?_
        rintro e w14 ⟨rfl, hB14⟩
        have HO14 := Lib.hid (HQ3.out.below hB14)
        have HE14 := Lib.hid (HQ2.out.trans (hB14.mono HQ2.out.size))
        have HCx14 := Lib.hid (⟨cell_below hB14 HCx13.out.1, cell_below hB14 HCx13.out.2.1, cell_below hB14 HCx13.out.2.2.1, cell_below hB14 HCx13.out.2.2.2⟩ : w14.cell? ⟨w.heap.size, 0, none⟩ = some (.int .i64 ta) ∧ w14.cell? ⟨w.heap.size, 1, none⟩ = some (.slice aa va.length ca) ∧ w14.cell? ⟨w.heap.size + 1, 0, none⟩ = some (.int .i64 tb) ∧ w14.cell? ⟨w.heap.size + 1, 1, none⟩ = some (.slice ab vb.length cb))
        clear hB14
        go_wp2_with fail
        refine (markPlaceS_any w5.heap.size 1 _ ps _ (by omega) HO14.out).mono ?_
        rintro e w15 ⟨rfl, hB15, ho15⟩
        obtain ⟨a'', c'', hv'', _, _, hp15⟩ := OwnPl.reads ho15
        rw [mkPl_length] at hv''
        cases hv''
        have hl35 := HB35.out.size
        have HP15 := Lib.hid hp15
        have HE15 := Lib.hid (HE14.out.trans (hB15.mono hl35))
        have HCx15 : Hid (w15.cell? ⟨w.heap.size, 0, none⟩ = some (.int .i64 ta) ∧ w15.cell? ⟨w.heap.size, 1, none⟩ = some (.slice aa va.length ca) ∧ w15.cell? ⟨w.heap.size + 1, 0, none⟩ = some (.int .i64 tb) ∧ w15.cell? ⟨w.heap.size + 1, 1, none⟩ = some (.slice ab vb.length cb)) := ⟨(hB15.cell (p := ⟨w.heap.size, 0, none⟩) (by have := Hlt3.out; show w.heap.size < _; omega)).trans HCx14.out.1, (hB15.cell (p := ⟨w.heap.size, 1, none⟩) (by have := Hlt3.out; show w.heap.size < _; omega)).trans HCx14.out.2.1, (hB15.cell (p := ⟨w.heap.size + 1, 0, none⟩) (by have := Hlt3.out; show w.heap.size + 1 < _; omega)).trans HCx14.out.2.2.1, (hB15.cell (p := ⟨w.heap.size + 1, 1, none⟩) (by have := Hlt3.out; show w.heap.size + 1 < _; omega)).trans HCx14.out.2.2.2⟩
        clear hB15 ho15 hp15 hl35
        have HH := Lib.hid (fun w' h => heldPlaceS_marks a5 ps.length c5 1 w' (by omega) h)
        have d3 : decide (((1 + ps.length * 2 : Nat) : Int) < 0) = false := by simp; omega
        generalize 1 + ps.length * 2 = m at HH d3
        have d4' : ((m : Int) != (m : Int)) = false := by simp
        go_wp2_with fail
        refine (HH.out _ HP15).mono ?_
        rintro e w16 ⟨rfl, hB16⟩
        have HE16 := Lib.hid (HE15.out.trans (hB16.mono HE15.out.size))
        have HF16 := Lib.hid hB16
        have HCx16 := Lib.hid (⟨cell_below hB16 HCx15.out.1, cell_below hB16 HCx15.out.2.1, cell_below hB16 HCx15.out.2.2.1, cell_below hB16 HCx15.out.2.2.2⟩ : w16.cell? ⟨w.heap.size, 0, none⟩ = some (.int .i64 ta) ∧ w16.cell? ⟨w.heap.size, 1, none⟩ = some (.slice aa va.length ca) ∧ w16.cell? ⟨w.heap.size + 1, 0, none⟩ = some (.int .i64 tb) ∧ w16.cell? ⟨w.heap.size + 1, 1, none⟩ = some (.slice ab vb.length cb))
        have HBw16 := Lib.hid (HQ1.out.trans (HE16.out.mono HQ1.out.size))
        have HBd : Hid (Below w.heap.size w w16.drew) := HBw16.out.drew
        have HEd : Hid (Below w3.heap.size w3 w16.drew) := HE16.out.drew
        have HFd : Hid (Below w15.heap.size w15 w16.drew) := HF16.out.drew
        obtain ⟨x0, x1, y0, y1⟩ := HCx16.out
        clear hB16
        go_wp2_with fail
        go_region_held3 (fun w' => w'.cell? ⟨w.heap.size, 0, none⟩ = some (.int .i64 ta) ∧ w'.cell? ⟨w.heap.size, 1, none⟩ = some (.slice aa va.length ca) ∧ w'.cell? ⟨w.heap.size + 1, 0, none⟩ = some (.int .i64 tb) ∧ w'.cell? ⟨w.heap.size + 1, 1, none⟩ = some (.slice ab vb.length cb)) (first | go_keep | exact hc19 | exact hcq | exact hcp)
          (first
            | (go_at_call 25; ((with_reducible refine (HTa.out _ HBd.out).mono ?_); rintro e wp ⟨vp, rfl, hop, hBp⟩; obtain ⟨ap, cp, rfl, hccp, _, hsp⟩ := hop.reads; have HSp := Lib.hid hsp; have HBp := Lib.hid (HBd.out.trans (hBp.mono HBd.out.size)); have HEp := Lib.hid (HEd.out.trans (hBp.mono HEd.out.size)); have HFp := Lib.hid (HFd.out.trans (hBp.mono HFd.out.size)); have hcp := (⟨cell_below hBp x0, cell_below hBp x1, cell_below hBp y0, cell_below hBp y1⟩ : wp.cell? ⟨w.heap.size, 0, none⟩ = some (.int .i64 ta) ∧ wp.cell? ⟨w.heap.size, 1, none⟩ = some (.slice aa va.length ca) ∧ wp.cell? ⟨w.heap.size + 1, 0, none⟩ = some (.int .i64 tb) ∧ wp.cell? ⟨w.heap.size + 1, 1, none⟩ = some (.slice ab vb.length cb)); clear hop hsp hBp))
            | (go_at_call 25; ((with_reducible refine (HTb.out _ HBp.out).mono ?_); rintro e wq ⟨vq, rfl, hoq, hBq⟩; obtain ⟨aq, cq, rfl, hccq, _, hsq⟩ := hoq.reads; have HSq := Lib.hid hsq; have HSpq := Lib.hid (HSp.out.below hBq); have HEq := Lib.hid (HEp.out.trans (hBq.mono HEp.out.size)); have HFq := Lib.hid (HFp.out.trans (hBq.mono HFp.out.size)); have hcq := (⟨cell_below hBq hcp.1, cell_below hBq hcp.2.1, cell_below hBq hcp.2.2.1, cell_below hBq hcp.2.2.2⟩ : wq.cell? ⟨w.heap.size, 0, none⟩ = some (.int .i64 ta) ∧ wq.cell? ⟨w.heap.size, 1, none⟩ = some (.slice aa va.length ca) ∧ wq.cell? ⟨w.heap.size + 1, 0, none⟩ = some (.int .i64 tb) ∧ wq.cell? ⟨w.heap.size + 1, 1, none⟩ = some (.slice ab vb.length cb)); clear hoq hsq hBq))
            | (go_at_call 23; ((with_reducible refine (HI.out _ _ _ _ _ hccp hccq HSpq HSq).mono ?_); rintro e w19 ⟨v19, rfl, ho19, hB19⟩; obtain ⟨a19, c19, rfl, _, _, hs19⟩ := OwnPl.reads ho19; have HS19 := Lib.hid hs19; have HE19 := Lib.hid (HEq.out.trans (hB19.mono HEq.out.size)); have HF19 := Lib.hid (HFq.out.trans (hB19.mono HFq.out.size)); have hc19 := (⟨cell_below hB19 hcq.1, cell_below hB19 hcq.2.1, cell_below hB19 hcq.2.2.1, cell_below hB19 hcq.2.2.2⟩ : w19.cell? ⟨w.heap.size, 0, none⟩ = some (.int .i64 ta) ∧ w19.cell? ⟨w.heap.size, 1, none⟩ = some (.slice aa va.length ca) ∧ w19.cell? ⟨w.heap.size + 1, 0, none⟩ = some (.int .i64 tb) ∧ w19.cell? ⟨w.heap.size + 1, 1, none⟩ = some (.slice ab vb.length cb)); clear ho19 hs19 hB19)))
        all_goals
          have HW19 := Lib.hid (HW3.out.below HE19.out)
          clear hcp hcq hc19 x0 x1 y0 y1 HBd HEd HFd HBp HEp HFp HEq HFq HSp HSq HSpq
          go_wp2_with fail
          refine (eqPlaceS_same a19 a3 c19 c3 ps _ (by unfold maxLen; omega) HS19 HW19).mono ?_
          rintro e w20 ⟨rfl, hB20⟩
          have HE20 := Lib.hid (HE19.out.trans (hB20.mono HE19.out.size))
          have HP20 := Lib.hid (HP15.out.below (HF19.out.trans (hB20.mono HF19.out.size)))
          clear hB20
          go_wp2_with fail
          refine (HH.out _ HP20).mono ?_
          rintro e w21 ⟨rfl, hB21⟩
          have HE21 := Lib.hid (HQ1.out.trans ((HE20.out.trans (hB21.mono HE20.out.size)).mono HQ1.out.size))
          clear hB21
          go_wp2
          go_ret
          exact ⟨rfl, HE21.out⟩

theorem walk (a0 : Int) (x1 : RootD) (u1 : Value) (x2 : RootD) (u2 : Value) (a3 : Int) (w : World) (w0 : (Lit.int .i64 a0).wf = true) (w1 : VolsV w u1 x1.vols) (wn1 : ∀ j, j < x1.vols.length → (x1.vols.getD j vol0).name.size ≤ maxLen) (w2 : VolsV w u2 x2.vols) (wn2 : ∀ j, j < x2.vols.length → (x2.vols.getD j vol0).name.size ≤ maxLen) (w3 : (Lit.int .i64 a3).wf = true) :
    Calls Try.prog 9 #[.int .i64 a0, .agg #[.int .i64 x1.txg, u1], .agg #[.int .i64 x2.txg, u2], .int .i64 a3] w fun e w' => e = .returned (.bool true) ∧ Below w.heap.size w w' := by
  obtain ⟨a, cap, rfl, h1, h2, h3⟩ := w1
  obtain ⟨a', cap', rfl, h1', h2', h3'⟩ := w2
  exact main a0 x1.txg x2.txg a3 a a' cap cap' x1.vols x2.vols w (by omega) (by omega) wn1 wn2 h3 h3'

set_option maxRecDepth 100000 in
theorem lifted (os : Os) (started : os.Started) (H : Type) (enc : TypeId × Value → H) :
    ReturnsInHanded {} Try.checked os 9 .any (Rows.fnExactSpaceTakeSpec.pre6 enc Try.prog Try.f9 Rows.fnExactSpaceTakeRow.domain false) (Rows.fnExactSpaceTakeSpec.post enc Try.prog Try.f9 false true false false) := by
  refine returnsInHanded_of_change (C := Try.checked) own started (by kernel_rfl) Try.func9
    (ChangeSpec.witness6 (enc := enc) (C := Try.checked) false ⟨#[], #[.int .i64 0, .agg #[.int .i64 0, .slice none 0 0], .agg #[.int .i64 0, .slice none 0 0], .int .i64 0], []⟩ 8 (by kernel_rfl) (by kernel_rfl) (by kernel_rfl) (by kernel_rfl)) ?_
  intro W base args ds gs before hval0 hW hcnd _
  have hval : ∀ (j : Nat) t v, Try.f9.params[j]? = some t → args[j]? = some v → Value.okWide Try.prog W .any base t v := hval0
  have hW' := hW
  obtain ⟨p, q, hA0, hV, rfl, hfz, hnd⟩ := hW
  have hA : DataW.TrodAll enc Try.prog W 0 (fun _ => true) true Try.f9.params.toList args.toList ds p := hA0
  rw [Try.params9] at hA hval
  obtain ⟨v0, vs0, d0, ds0, p0, q0, hargs, rfl, rfl, h0, r0⟩ := trodAll_cons hA
  obtain ⟨v1, vs1, d1, ds1, p1, q1, rfl, rfl, rfl, h1, r1⟩ := trodAll_cons r0
  obtain ⟨v2, vs2, d2, ds2, p2, q2, rfl, rfl, rfl, h2, r2⟩ := trodAll_cons r1
  obtain ⟨v3, vs3, d3, ds3, p3, q3, rfl, rfl, rfl, h3, r3⟩ := trodAll_cons r2
  obtain ⟨rfl, rfl, rfl⟩ := trodAll_nil r3
  obtain rfl : args = #[v0, v1, v2, v3] := by cases args; simp_all
  obtain ⟨rfl, rfl⟩ := trodVars_none hV
  have k0 := h0
  have lt0 : ∀ x ∈ p0, x.block < W.heap.size := by obtain ⟨m, hm⟩ := k0; exact DataW.trod_lt m _ _ _ hm
  obtain ⟨a0, rfl, rfl, e0, w0⟩ := open_int Try.underlying3 (hval 0 3 v0 rfl rfl) h0
  have k1 := h1
  have lt1 : ∀ x ∈ p1, x.block < W.heap.size := by obtain ⟨m, hm⟩ := k1; exact DataW.trod_lt m _ _ _ hm
  obtain ⟨x1, u1, rfl, w1, wn1⟩ := in_root (hval 1 52 v1 rfl rfl) h1
  have k2 := h2
  have lt2 : ∀ x ∈ p2, x.block < W.heap.size := by obtain ⟨m, hm⟩ := k2; exact DataW.trod_lt m _ _ _ hm
  obtain ⟨x2, u2, rfl, w2, wn2⟩ := in_root (hval 2 52 v2 rfl rfl) h2
  have k3 := h3
  have lt3 : ∀ x ∈ p3, x.block < W.heap.size := by obtain ⟨m, hm⟩ := k3; exact DataW.trod_lt m _ _ _ hm
  obtain ⟨a3, rfl, rfl, e3, w3⟩ := open_int Try.underlying3 (hval 3 3 v3 rfl rfl) h3
  clear hA0 hval0
  refine (walk a0 x1 u1 x2 u2 a3 W w0 w1 wn1 w2 wn2 w3).mono fun e W' ⟨he, bel⟩ => ?_
  subst he
  exact ⟨_, rfl, _, _, _, [], _, [], hW', trodAll_mk1 (shut_bool Try.underlying4 _), (trodAll_cons_mk (Below.trod laidOut (by kernel_rfl) (of_decide_eq_true (by kernel_rfl)) k0 bel lt0) (trodAll_cons_mk (Below.trod laidOut (by kernel_rfl) (of_decide_eq_true (by kernel_rfl)) k1 bel lt1) (trodAll_cons_mk (Below.trod laidOut (by kernel_rfl) (of_decide_eq_true (by kernel_rfl)) k2 bel lt2) (trodAll_cons_mk (Below.trod laidOut (by kernel_rfl) (of_decide_eq_true (by kernel_rfl)) k3 bel lt3) trodAll_mk0)))), rfl, bel.frame _, fun h => by cases h⟩

theorem over : Rows.fnExactSpaceTakeRow.holds Try.pinned (OpenSpec.ofChange Rows.fnExactSpaceTakeSpec) :=
  OpenClaim.holds_of_wide 9 Try.f9 rfl rfl rfl rfl rfl rfl rfl ⟨rfl, rfl, rfl, rfl, rfl⟩ rfl rfl rfl rfl rfl (by kernel_rfl) Try.func9 (by kernel_rfl)
    (of_decide_eq_true (by kernel_rfl)) (by unfold Func.isWrapper; first | (rw [if_pos (by decide +kernel)]; kernel_rfl) | (rw [if_neg (by decide +kernel)]; exact ⟨rfl, rfl⟩))
    (fun os started H enc _ => lifted os started H enc)

end FnExactSpaceTake

theorem FnExactSpaceTake_holds : Rows.FnExactSpaceTakeSaid := FnExactSpaceTake.over

end Go.Proofs.Ytlonecgmldjdpaa

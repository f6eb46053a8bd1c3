/- 'laws.FnExactRootPlaces' returns true at every number and root: RootPlaces of the program answers as RootPlaces of the specification, changes no argument, and its answer owns its memory, behind another call too. Conditions: none. -/
import Derived.Test.YtpbdhpomlakinaaK
import Derived.Test.YtpbdhpomlakinaaR1
import Derived.Test.YtpbdhpomlakinaaZ6
import Derived.Test.YtpbdhpomlakinaaE5
import Derived.Deep.RegionHeld3
namespace Go.Proofs.Ytpbdhpomlakinaa
open Go.ChangeShapes Go.WideShapes Go.ChangeAt Go.RowKit Go.Sort
namespace FnExactRootPlaces
set_option linter.unusedVariables false

/-- WHAT IS KNOWN ahead of the marks. -/
structure Rest8 (n t : Int) (a : Option Addr) (cap : Nat) (vs : List VolD) (ps : List PlD) (w w3 w4 w8 : World) (a3 : Option Addr) (c3 : Nat) (a4 : Option Addr) (c4 : Nat) (a5 : Option Addr) (c5 : Nat) : Prop where
  b3 : Below w.heap.size w w3
  b34 : Below w3.heap.size w3 w4
  b48 : Below w4.heap.size w4 w8
  w0 : PlacesAt w3 a3 ps
  sh : VoSh w4 w3.heap.size w4.heap.size a4 vs.length
  own : OwnPl w8 w4.heap.size (.slice a5 ps.length c5) ps
theorem Rest8.shape {n t : Int} {a : Option Addr} {cap : Nat} {vs : List VolD} {ps : List PlD} {w w3 w4 w8 : World} {a3 : Option Addr} {c3 : Nat} {a4 : Option Addr} {c4 : Nat} {a5 : Option Addr} {c5 : Nat} (h : Rest8 n t a cap vs ps w w3 w4 w8 a3 c3 a4 c4 a5 c5) : VoSh w8 w3.heap.size w4.heap.size a4 vs.length :=
  h.sh.mk (Mk.of_below h.b48 h.b34.size)
theorem Rest8.marked {n t : Int} {a : Option Addr} {cap : Nat} {vs : List VolD} {ps : List PlD} {w w3 w4 w8 w9 : World} {a3 : Option Addr} {c3 : Nat} {a4 : Option Addr} {c4 : Nat} {a5 : Option Addr} {c5 : Nat} (h : Rest8 n t a cap vs ps w w3 w4 w8 a3 c3 a4 c4 a5 c5) (hm : Mk w3.heap.size w4.heap.size w8 w9) :
    Below w.heap.size w w3 ∧ Below w3.heap.size w3 w9 ∧ OwnPl w9 w4.heap.size (.slice a5 ps.length c5) ps ∧ PlacesAt w9 a3 ps := by
  have hB : Below w3.heap.size w3 w9 := (h.b34.trans (h.b48.mono h.b34.size)).trans hm.low
  exact ⟨h.b3, hB, hm.own h.own (Nat.le_refl _), h.w0.below hB⟩

set_option maxRecDepth 100000 in
set_option maxHeartbeats 4000000 in
theorem main (n t : Int) (a : Option Addr) (cap : Nat) (vs : List VolD) (w : World) (hl : vs.length ≤ maxLen) (hnm : Hid (∀ j, j < vs.length → (vs.getD j vol0).name.size ≤ maxLen)) (H0 : Hid (VolsAt w a vs)) :
    Calls Try.prog 3 #[.int .i64 n, .agg #[.int .i64 t, .slice a vs.length cap]] w fun e w' => e = .returned (.bool true) ∧ Below w.heap.size w w' := by
  have HBa : Hid (Below w.heap.size w (w.alloc (.cells #[.int .i64 t, .slice a vs.length cap] 24))) := (Below.refl _ _).alloc (Nat.le_refl _) _
  have HI := Lib.hid (fun a' c' w' hc h => implPlaces_any n t a' c' vs w' hc hnm h)
  have HD := Lib.hid (fun a' c' w' h => specPlaces_any n t a' c' vs w' hl hnm h)
  have hp48 := rpl_length n ⟨t, vs⟩
  generalize rpl n ⟨t, vs⟩ = ps at HI HD hp48
  go_enter Try.func3, Try.ntmps3
  go_wp2_with fail
  refine (szRoot_any t a cap vs _ hl hnm (H0.out.below HBa.out)).mono ?_
  rintro e w1 ⟨he, hB1⟩
  obtain ⟨hc1, _⟩ := bcell hB1
  have HB1 := Lib.hid (HBa.out.trans (hB1.mono HBa.out.size))
  have b0 : w1.cell? ⟨w.heap.size, 0, none⟩ = some (.int .i64 t) := by rw [hc1 _ _ (by simp), World.cell?_alloc_mark]; rfl
  have b1 : w1.cell? ⟨w.heap.size, 1, none⟩ = some (.slice a vs.length cap) := by rw [hc1 _ _ (by simp), World.cell?_alloc_mark]; rfl
  clear hc1 hB1
  rcases he with rfl | ⟨r, rfl, hr, hsm⟩
  · go_wp2
    go_ret
    exact ⟨rfl, HB1.out⟩
  · have d0 : decide ((r : Int) < 0) = false := by simp
    have HS := Lib.hid hsm
    have hvl := hsm.1
    clear hr hsm
    go_wp2_with fail
    refine (toRoot_any t a cap vs _ HS (H0.out.below HB1.out)).mono ?_
    rintro e w2 ⟨v2, rfl, ho2, hB2⟩
    obtain ⟨a2, c2, rfl, hcc2, hm2, hs2⟩ := ho2.reads
    have HS2 := Lib.hid hs2
    have HB2 := Lib.hid (HB1.out.trans (hB2.mono HB1.out.size))
    have k0 := cell_below hB2 b0
    have k1 := cell_below hB2 b1
    clear ho2 hs2 hB2 b0 b1
    go_wp2_with fail
    refine (HD.out _ _ _ HS2).mono ?_
    rintro e w3 ⟨v3, rfl, ho3, hB3⟩
    obtain ⟨a3, c3, rfl, hc3, hm3, hs3⟩ := OwnPl.reads ho3
    have HW3 := Lib.hid hs3
    have HB3 := Lib.hid (HB2.out.trans (hB3.mono HB2.out.size))
    have b0 := cell_below hB3 k0
    have b1 := cell_below hB3 k1
    have Hlt3 : Hid (w.heap.size < w3.heap.size) := World.block_lt_of_cell? w3 _ b0
    clear hB3 k0 k1 ho3 hs3
    go_wp2_with fail
    refine (toRoot_any t a cap vs _ HS (H0.out.below HB3.out)).mono ?_
    rintro e w4 ⟨v4, rfl, ho4, hB4⟩
    obtain ⟨a4, c4, rfl, hcc4, hm4, hs4⟩ := ho4.reads
    have HSh4 := Lib.hid (ho4.shape HS.out)
    have HB34 := Lib.hid hB4
    have HB4 := Lib.hid (HB3.out.trans (hB4.mono HB3.out.size))
    have HBb : Hid (Below w4.heap.size w4 (w4.alloc (.cells #[.int .i64 t, .slice a4 vs.length c4] 30))) := (Below.refl _ _).alloc (Nat.le_refl _) _
    have HS4 := Lib.hid hs4
    have HS4' := Lib.hid (hs4.below HBb.out)
    have k0 := cell_below hB4 b0
    have k1 := cell_below hB4 b1
    have hlt4 : w.heap.size < w4.heap.size := World.block_lt_of_cell? w4 _ k0
    have Hlt4 : Hid (w.heap.size < w4.heap.size ∧ w3.heap.size ≤ w4.heap.size) := ⟨hlt4, HB34.out.size⟩
    clear ho4 hs4 hB4 b0 b1
    go_wp2_with fail
    refine (HI.out _ _ _ hcc4 HS4').mono ?_
    rintro e w5 ⟨v5, rfl, ho5, hB5⟩
    obtain ⟨a5, c5, rfl, hc5', hm5, hs5⟩ := OwnPl.reads ho5
    have HO5 : Hid (OwnPl w5 w4.heap.size (.slice a5 ps.length c5) ps) := ho5.mono (by simp)
    obtain ⟨hc5, _⟩ := bcell hB5
    have hB45 : Below w4.heap.size w4 w5 := HBb.out.trans (hB5.mono HBb.out.size)
    have HB45 := Lib.hid hB45
    have HB5 := Lib.hid (HB4.out.trans (hB45.mono HB4.out.size))
    have HP5 := Lib.hid hs5
    have HW5 := Lib.hid (HW3.out.below (HB34.out.trans (hB45.mono HB34.out.size)))
    have m0 := cell_below hB45 k0
    have m1 := cell_below hB45 k1
    have x0 : w5.cell? ⟨w4.heap.size, 0, none⟩ = some (.int .i64 t) := by rw [hc5 _ _ (by simp), World.cell?_alloc_mark]; rfl
    have x1 : w5.cell? ⟨w4.heap.size, 1, none⟩ = some (.slice a4 vs.length c4) := by rw [hc5 _ _ (by simp), World.cell?_alloc_mark]; rfl
    clear hB5 hc5 hB45 k0 k1 ho5 hs5
    go_wp2_with fail
    refine (eqPlaceS_same a5 a3 c5 c3 ps _ (by unfold maxLen; omega) HP5 HW5).mono ?_
    rintro e w6 ⟨rfl, hB6⟩
    have HO6 : Hid (OwnPl w6 w4.heap.size (.slice a5 ps.length c5) ps) := HO5.out.below hB6
    have HB46 := Lib.hid (HB45.out.trans (hB6.mono HB45.out.size))
    have HB6 := Lib.hid (HB5.out.trans (hB6.mono HB5.out.size))
    have y0 := cell_below hB6 m0
    have y1 := cell_below hB6 m1
    have y2 := cell_below hB6 x0
    have y3 := cell_below hB6 x1
    have HS6 := Lib.hid (HS4.out.below HB46.out)
    have HBd : Hid (Below w.heap.size w w6.drew) := HB6.out.drew
    have HSd : Hid (VolsAt w6.drew a4 vs) := HS6.out.below ((Below.refl _ _).drew)
    have HZd : Hid (Below w6.heap.size w6 w6.drew) := (Below.refl _ _).drew
    clear hB6 m0 m1 x0 x1
    go_wp2_with fail
    go_region_held3 (fun w' => w'.cell? ⟨w.heap.size, 0, none⟩ = some (.int .i64 t) ∧ w'.cell? ⟨w.heap.size, 1, none⟩ = some (.slice a vs.length cap) ∧ w'.cell? ⟨w4.heap.size, 0, none⟩ = some (.int .i64 t) ∧ w'.cell? ⟨w4.heap.size, 1, none⟩ = some (.slice a4 vs.length c4)) (first | go_keep | exact hc8 | exact hc7)
      (first
        | (go_at_call 17; refine (toRoot_any t a cap vs _ HS (H0.out.below HBd.out)).mono ?_; rintro e w7 ⟨v7, rfl, ho7, hB7⟩; obtain ⟨a7, c7, rfl, _, _, hs7⟩ := ho7.reads; have HS7 := Lib.hid hs7; have HS67 := Lib.hid (HSd.out.below hB7); have HZ7 := Lib.hid (HZd.out.trans (hB7.mono HZd.out.size)); have hc7 := (⟨cell_below hB7 y0, cell_below hB7 y1, cell_below hB7 y2, cell_below hB7 y3⟩ : w7.cell? ⟨w.heap.size, 0, none⟩ = some (.int .i64 t) ∧ w7.cell? ⟨w.heap.size, 1, none⟩ = some (.slice a vs.length cap) ∧ w7.cell? ⟨w4.heap.size, 0, none⟩ = some (.int .i64 t) ∧ w7.cell? ⟨w4.heap.size, 1, none⟩ = some (.slice a4 vs.length c4)); clear ho7 hs7 hB7)
        | (go_at_call 20; refine (eqRoot_same t a4 a7 c4 c7 vs _ hl HS67 HS7).mono ?_; rintro e w8 ⟨rfl, hB8⟩; have hc8 := (⟨cell_below hB8 hc7.1, cell_below hB8 hc7.2.1, cell_below hB8 hc7.2.2.1, cell_below hB8 hc7.2.2.2⟩ : w8.cell? ⟨w.heap.size, 0, none⟩ = some (.int .i64 t) ∧ w8.cell? ⟨w.heap.size, 1, none⟩ = some (.slice a vs.length cap) ∧ w8.cell? ⟨w4.heap.size, 0, none⟩ = some (.int .i64 t) ∧ w8.cell? ⟨w4.heap.size, 1, none⟩ = some (.slice a4 vs.length c4)); have HZ8 := Lib.hid (HZ7.out.trans (hB8.mono HZ7.out.size)); clear hB8))
    all_goals
      have HR8 : Hid (Rest8 n t a cap vs ps w w3 w4 w8 a3 c3 a4 c4 a5 c5) := ⟨HB3.out, HB34.out, HB46.out.trans (HZ8.out.mono HB46.out.size), HW3.out, HSh4.out, HO6.out.below HZ8.out⟩
      have hs38 : w3.heap.size ≤ w8.heap.size := by have := HB34.out.size; have := HB46.out.size; have := HZ8.out.size; omega
      have hlt3 : w.heap.size < w3.heap.size := Hlt3.out
      obtain ⟨z0, z1, z2, z3⟩ := hc8
      have HZc := Lib.hid (And.intro z0 z1)
      clear HBd HSd HZd HZ7 HZ8 HS6 HS67 HS7 HB6 HB46 HO6 HO5 HB5 HB45 HP5 HW5 HS4 HS4' HBb HB34 HB4 HB3 HB2 HB1 HBa HS2 hc7 y0 y1 y2 y3 z0 z1
      go_wp2_with fail
      refine (markRoot_mk w3.heap.size w4.heap.size t a4 vs.length c4 1 _ hs38 (by omega) hvl (by omega) (HR8.out.shape)).mono ?_
      rintro e w9 ⟨⟨kk, rfl, hk1, hk2⟩, hm9⟩
      have d9 : decide ((kk : Int) < 0) = false := by simp
      obtain ⟨Q1, Q2, Q3, Q4⟩ := HR8.out.marked hm9
      have HQ1 := Lib.hid Q1
      have HQ2 := Lib.hid Q2
      have HQ3 := Lib.hid Q3
      obtain ⟨a', c', hv', _, _, hp9⟩ := OwnPl.reads Q3
      cases hv'
      have HP9 := Lib.hid hp9
      have HQ4 := Lib.hid Q4
      have HY9 := Lib.hid (And.intro (hm9.cellLow HZc.out.1 hlt3) (hm9.cellLow HZc.out.2 hlt3))
      clear hm9 Q1 Q2 Q3 Q4 hp9 HZc HR8 hs38 z2 z3
      go_wp2_with fail
      refine (eqPlaceS_same a5 a3 c5 c3 ps _ (by unfold maxLen; omega) HP9 HQ4).mono ?_
      rintro e w10 ⟨rfl, hB10⟩
      have HO10 := Lib.hid (HQ3.out.below hB10)
      have HE10 := Lib.hid (HQ2.out.trans (hB10.mono HQ2.out.size))
      have HY10 := Lib.hid (And.intro (cell_below hB10 HY9.out.1) (cell_below hB10 HY9.out.2))
      clear hB10
      go_wp2_with fail
      refine (markPlaceS_any w4.heap.size 1 _ ps _ (by omega) HO10.out).mono ?_
      rintro e w11 ⟨rfl, hB11, ho11⟩
      obtain ⟨a'', c'', hv'', _, _, hp11⟩ := OwnPl.reads ho11
      rw [mkPl_length] at hv''
      cases hv''
      have hlt4' := Hlt4.out
      have HP11 := Lib.hid hp11
      have HE11 := Lib.hid (HE10.out.trans (hB11.mono hlt4'.2))
      have HY11 := Lib.hid (And.intro ((hB11.cell (p := ⟨w.heap.size, 0, none⟩) hlt4'.1).trans HY10.out.1) ((hB11.cell (p := ⟨w.heap.size, 1, none⟩) hlt4'.1).trans HY10.out.2))
      clear hB11 ho11 hp11 hlt4'
      have HH := Lib.hid (fun w' h => heldPlaceS_marks a5 ps.length c5 1 w' (by omega) h)
      have d1 : decide (((1 + ps.length * 2 : Nat) : Int) < 0) = false := by simp; omega
      generalize 1 + ps.length * 2 = m at HH d1
      have d2 : ((m : Int) != (m : Int)) = false := by simp
      go_wp2_with fail
      refine (HH.out _ HP11).mono ?_
      rintro e w12 ⟨rfl, hB12⟩
      have HE12 := Lib.hid (HE11.out.trans (hB12.mono HE11.out.size))
      have HF12 := Lib.hid hB12
      obtain ⟨p0, p1⟩ := (And.intro (cell_below hB12 HY11.out.1) (cell_below hB12 HY11.out.2))
      have HBw12 := Lib.hid (HQ1.out.trans (HE12.out.mono HQ1.out.size))
      clear hB12
      go_wp2_with fail
      refine (toRoot_any t a cap vs _ HS (H0.out.below HBw12.out)).mono ?_
      rintro e w13 ⟨v13, rfl, ho13, hB13⟩
      obtain ⟨a13, c13, rfl, hcc13, hm13, hs13⟩ := ho13.reads
      have HS13 := Lib.hid hs13
      have HE13 := Lib.hid (HE12.out.trans (hB13.mono HE12.out.size))
      have HF13 := Lib.hid (HF12.out.trans (hB13.mono HF12.out.size))
      clear ho13 hs13 hB13 p0 p1
      go_wp2_with fail
      refine (HI.out _ _ _ hcc13 HS13).mono ?_
      rintro e w14 ⟨v14, rfl, ho14, hB14⟩
      obtain ⟨a14, c14, rfl, _, _, hs14⟩ := OwnPl.reads ho14
      have HS14 := Lib.hid hs14
      have HE14 := Lib.hid (HE13.out.trans (hB14.mono HE13.out.size))
      have HF14 := Lib.hid (HF13.out.trans (hB14.mono HF13.out.size))
      have HW14 := Lib.hid (HW3.out.below HE14.out)
      clear ho14 hs14 hB14
      go_wp2_with fail
      refine (eqPlaceS_same a14 a3 c14 c3 ps _ (by unfold maxLen; omega) HS14 HW14).mono ?_
      rintro e w15 ⟨rfl, hB15⟩
      have HE15 := Lib.hid (HE14.out.trans (hB15.mono HE14.out.size))
      have HF15 := Lib.hid (HF14.out.trans (hB15.mono HF14.out.size))
      have HP15 := Lib.hid (HP11.out.below HF15.out)
      clear hB15
      go_wp2_with fail
      refine (HH.out _ HP15).mono ?_
      rintro e w16 ⟨rfl, hB16⟩
      have HE16 := Lib.hid (HQ1.out.trans ((HE15.out.trans (hB16.mono HE15.out.size)).mono HQ1.out.size))
      clear hB16
      go_wp2
      go_ret
      exact ⟨rfl, HE16.out⟩

theorem walk (a0 : Int) (x1 : RootD) (u1 : Value) (w : World) (w0 : (Lit.int .i64 a0).wf = true) (w1 : VolsV w u1 x1.vols) (wn : ∀ j, j < x1.vols.length → (x1.vols.getD j vol0).name.size ≤ maxLen) :
    Calls Try.prog 3 #[.int .i64 a0, .agg #[.int .i64 x1.txg, u1]] w fun e w' => e = .returned (.bool true) ∧ Below w.heap.size w w' := by
  obtain ⟨a, cap, rfl, h1, h2, h3⟩ := w1
  exact main a0 x1.txg a cap x1.vols w (by omega) wn h3

set_option maxRecDepth 100000 in
theorem lifted (os : Os) (started : os.Started) (H : Type) (enc : TypeId × Value → H) :
    ReturnsInHanded {} Try.checked os 3 .any (Rows.fnExactRootPlacesSpec.pre6 enc Try.prog Try.f3 Rows.fnExactRootPlacesRow.domain false) (Rows.fnExactRootPlacesSpec.post enc Try.prog Try.f3 false true false false) := by
  refine returnsInHanded_of_change (C := Try.checked) own started (by kernel_rfl) Try.func3
    (ChangeSpec.witness6 (enc := enc) (C := Try.checked) false ⟨#[], #[.int .i64 0, .agg #[.int .i64 0, .slice none 0 0]], []⟩ 8 (by kernel_rfl) (by kernel_rfl) (by kernel_rfl) (by kernel_rfl)) ?_
  intro W base args ds gs before hval0 hW hcnd _
  have hval : ∀ (j : Nat) t v, Try.f3.params[j]? = some t → args[j]? = some v → Value.okWide Try.prog W .any base t v := hval0
  have hW' := hW
  obtain ⟨p, q, hA0, hV, rfl, hfz, hnd⟩ := hW
  have hA : DataW.TrodAll enc Try.prog W 0 (fun _ => true) true Try.f3.params.toList args.toList ds p := hA0
  rw [Try.params3] at hA hval
  obtain ⟨v0, vs0, d0, ds0, p0, q0, hargs, rfl, rfl, h0, r0⟩ := trodAll_cons hA
  obtain ⟨v1, vs1, d1, ds1, p1, q1, rfl, rfl, rfl, h1, r1⟩ := trodAll_cons r0
  obtain ⟨rfl, rfl, rfl⟩ := trodAll_nil r1
  obtain rfl : args = #[v0, v1] := by cases args; simp_all
  obtain ⟨rfl, rfl⟩ := trodVars_none hV
  have k0 := h0
  have lt0 : ∀ x ∈ p0, x.block < W.heap.size := by obtain ⟨m, hm⟩ := k0; exact DataW.trod_lt m _ _ _ hm
  obtain ⟨a0, rfl, rfl, e0, w0⟩ := open_int Try.underlying3 (hval 0 3 v0 rfl rfl) h0
  have k1 := h1
  have lt1 : ∀ x ∈ p1, x.block < W.heap.size := by obtain ⟨m, hm⟩ := k1; exact DataW.trod_lt m _ _ _ hm
  obtain ⟨x1, u1, rfl, w1, wn1⟩ := in_root (hval 1 24 v1 rfl rfl) h1
  clear hA0 hval0
  refine (walk a0 x1 u1 W w0 w1 wn1).mono fun e W' ⟨he, bel⟩ => ?_
  subst he
  exact ⟨_, rfl, _, _, _, [], _, [], hW', trodAll_mk1 (shut_bool Try.underlying4 _), (trodAll_cons_mk (Below.trod laidOut (by kernel_rfl) (of_decide_eq_true (by kernel_rfl)) k0 bel lt0) (trodAll_cons_mk (Below.trod laidOut (by kernel_rfl) (of_decide_eq_true (by kernel_rfl)) k1 bel lt1) trodAll_mk0)), rfl, bel.frame _, fun h => by cases h⟩

theorem over : Rows.fnExactRootPlacesRow.holds Try.pinned (OpenSpec.ofChange Rows.fnExactRootPlacesSpec) :=
  OpenClaim.holds_of_wide 3 Try.f3 rfl rfl rfl rfl rfl rfl rfl ⟨rfl, rfl, rfl, rfl, rfl⟩ rfl rfl rfl rfl rfl (by kernel_rfl) Try.func3 (by kernel_rfl)
    (of_decide_eq_true (by kernel_rfl)) (by unfold Func.isWrapper; first | (rw [if_pos (by decide +kernel)]; kernel_rfl) | (rw [if_neg (by decide +kernel)]; exact ⟨rfl, rfl⟩))
    (fun os started H enc _ => lifted os started H enc)

end FnExactRootPlaces

theorem FnExactRootPlaces_holds : Rows.FnExactRootPlacesSaid := FnExactRootPlaces.over

end Go.Proofs.Ytpbdhpomlakinaa

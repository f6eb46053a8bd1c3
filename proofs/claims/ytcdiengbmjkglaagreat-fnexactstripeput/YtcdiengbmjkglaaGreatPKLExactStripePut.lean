/- 'laws.FnExactStripePut' returns true at all disks, pointers and texts: StripePut of the program answers as StripePut of the specification, changes no argument, and its answer owns its memory, behind another call too. Conditions: none. -/
import Derived.Test.YtcdiengbmjkglaaGreatPKK
import Derived.Test.YtcdiengbmjkglaaGreatPKMX1
import Derived.Deep.RegionHeld3
namespace Go.Proofs.YtcdiengbmjkglaaGreat
open Go.ChangeShapes Go.WideShapes Go.ChangeAt Go.RowKit Go.Sort
open Go.ChangeMaps (open_string shut_string)
namespace FnExactStripePut
set_option linter.unusedVariables false

theorem PlSh.mk2 {lo hi l h : Nat} {w w' : World} {a : Option Addr} {n : Nat} (hs : PlSh w lo hi a n) (m : Mk l h w w') : PlSh w' lo hi a n := by
  rcases hs with e | ⟨b, off, e, h1, h2, hc⟩
  · exact .inl e
  · exact .inr ⟨b, off, e, h1, h2, fun j hj => ⟨(hc j hj).1.mk m, (hc j hj).2.mk m⟩⟩
theorem own_at {w : World} {base : Nat} {a : Option Addr} {n c : Nat} {ds : List DiskD} (h : OwnDks w base (.slice a n c) ds) : DksAt w a ds := by
  obtain ⟨a', c', he, _, _, hx⟩ := h.reads
  injection he with he _ _
  rw [he]; exact hx

set_option maxRecDepth 100000 in
set_option maxHeartbeats 8000000 in
theorem main (a pa : Option Addr) (cap pc : Nat) (z s : Int) (ds : List DiskD) (ps : List PlD) (t : ByteArray) (w : World) (ht : t.size ≤ 1048576) (hl : ds.length ≤ maxLen) (hpl : ps.length ≤ maxLen) (hb : Hid (∀ j, j < ds.length → DiskBd (ds.getD j disk0))) (H0 : Hid (DksAt w a ds)) (P0 : Hid (PlacesAt w pa ps)) :
    Calls Tryz.prog 3 #[.slice a ds.length cap, .agg #[.int .i64 z, .int .i64 s, .slice pa ps.length pc], .string t] w fun e w' => e = .returned (.bool true) ∧ Below w.heap.size w w' := by
  have dt : decide ((t.size : Int) ≤ 1048576) = true := by simp; omega
  have hBa : Below w.heap.size w (w.alloc (.cells #[.int .i64 z, .int .i64 s, .slice pa ps.length pc] 25)) := (Below.refl _ _).alloc (Nat.le_refl _) _
  have HBa := Lib.hid hBa
  have HKa := Lib.hid (Blk.new w #[.int .i64 z, .int .i64 s, .slice pa ps.length pc] 25)
  clear hBa
  go_enter Tryz.func3, Tryz.ntmps3
  go_wp2_with fail
  generalize w.alloc (.cells #[.int .i64 z, .int .i64 s, .slice pa ps.length pc] 25) = wa at HBa HKa ⊢
  refine (szDiskS_any a cap ds _ hl hb (H0.out.below HBa.out)).mono ?_
  rintro e w1 ⟨he, hB1⟩
  have HK1 := Lib.hid (HKa.out.below hB1 HKa.out.lt)
  have HB1 := Lib.hid (HBa.out.trans (hB1.mono HBa.out.size))
  clear hB1 HKa HBa
  rcases he with rfl | ⟨r, rfl, hr, hsm⟩
  · go_wp2
    go_ret
    exact ⟨rfl, HB1.out⟩
  have d0 : decide ((r : Int) < 0) = false := by simp
  have HSM := Lib.hid hsm
  have hld : ds.length ≤ 1048576 := hsm.1
  have b0 : w1.cell? ⟨w.heap.size, 0, none⟩ = some (.int .i64 z) := HK1.out.cell 0
  have b1 : w1.cell? ⟨w.heap.size, 1, none⟩ = some (.int .i64 s) := HK1.out.cell 1
  have b2 : w1.cell? ⟨w.heap.size, 2, none⟩ = some (.slice pa ps.length pc) := HK1.out.cell 2
  clear hsm
  go_wp2_with fail
  refine (szPtr_any z s pa ps.length pc r _ hpl hr).mono ?_
  rintro e w2 ⟨he, hB2⟩
  have HK2 := Lib.hid (HK1.out.below hB2 HK1.out.lt)
  have HB2 := Lib.hid (HB1.out.trans (hB2.mono HB1.out.size))
  clear hB2 HK1 HB1 b0 b1 b2
  rcases he with rfl | ⟨r2, rfl, hr2⟩
  · go_wp2
    go_ret
    exact ⟨rfl, HB2.out⟩
  have d02 : decide ((r2 : Int) < 0) = false := by simp
  have hl20 : ps.length ≤ 1048576 := by omega
  clear hr hr2
  obtain ⟨R, bb, hR4, hRf, HSp, HIm⟩ := both_put ds ⟨z, s, ps⟩ t hl (by unfold maxLen; omega) hpl
  simp only at HSp HIm
  have HTD := Lib.hid (fun W (h : Below w.heap.size w W) => toDiskS_own a cap ds W HSM (H0.out.below h))
  have HTP := Lib.hid (fun W (h : Below w.heap.size w W) => toPtr_any z s pa pc ps W hl20 (P0.out.below h))
  have ebb : (bb != bb) = false := by simp
  have HRN := Lib.hid (dkFine_few hRf)
  have hRm : R.length ≤ maxLen := by unfold maxLen; omega
  clear hRf ht dt
  go_upto_region 10 with (fail)
  go_cut [8, 9] (fun s8 s9 wx => ∃ av c, s8 = .slice av R.length c ∧ s9 = .bool bb ∧ Hid (DksAt wx av R) ∧ Hid (Blk wx w.heap.size #[.int .i64 z, .int .i64 s, .slice pa ps.length pc] 25) ∧ Hid (Below w.heap.size w wx))
  case first =>
    have cur : Hid (Below w.heap.size w w2.drew) := HB2.out.drew
    have kb : Hid (Blk w2.drew w.heap.size #[.int .i64 z, .int .i64 s, .slice pa ps.length pc] 25) := HK2.out
    have mm : w2.drew.cell? ⟨w.heap.size, 0, none⟩ = some (.int .i64 z) ∧ w2.drew.cell? ⟨w.heap.size, 1, none⟩ = some (.int .i64 s) ∧ w2.drew.cell? ⟨w.heap.size, 2, none⟩ = some (.slice pa ps.length pc) := ⟨kb.out.cell 0, kb.out.cell 1, kb.out.cell 2⟩
    go_region_held3 (fun w' => w'.cell? ⟨w.heap.size, 0, none⟩ = some (.int .i64 z) ∧ w'.cell? ⟨w.heap.size, 1, none⟩ = some (.int .i64 s) ∧ w'.cell? ⟨w.heap.size, 2, none⟩ = some (.slice pa ps.length pc)) (first | with_reducible exact mm | go_keep)
      (first
        | (go_at_call 8; refine (HTD.out _ cur.out).mono ?_; rintro e wX ⟨gd, cd, rfl, hoX, hBX⟩; have hdX := Lib.hid (own_at hoX); (try (have hpX := Lib.hid (hpX.out.below hBX))); have kb := Lib.hid (kb.out.below hBX kb.out.lt); have cur := Lib.hid (cur.out.trans (hBX.mono cur.out.size)); have mm := (⟨kb.out.cell 0, kb.out.cell 1, kb.out.cell 2⟩ : wX.cell? ⟨w.heap.size, 0, none⟩ = some (.int .i64 z) ∧ wX.cell? ⟨w.heap.size, 1, none⟩ = some (.int .i64 s) ∧ wX.cell? ⟨w.heap.size, 2, none⟩ = some (.slice pa ps.length pc)); clear hoX hBX)
        | (go_at_call 9; refine (HTP.out _ cur.out).mono ?_; rintro e wY ⟨vY, rfl, hoY, hBY⟩; obtain ⟨pd, qd, rfl, _, _, hpr⟩ := OwnPl.reads hoY; have hpX := Lib.hid hpr; (try (have hdX := Lib.hid (hdX.out.below hBY))); have kb := Lib.hid (kb.out.below hBY kb.out.lt); have cur := Lib.hid (cur.out.trans (hBY.mono cur.out.size)); have mm := (⟨kb.out.cell 0, kb.out.cell 1, kb.out.cell 2⟩ : wY.cell? ⟨w.heap.size, 0, none⟩ = some (.int .i64 z) ∧ wY.cell? ⟨w.heap.size, 1, none⟩ = some (.int .i64 s) ∧ wY.cell? ⟨w.heap.size, 2, none⟩ = some (.slice pa ps.length pc)); clear hoY hBY hpr)
        | (go_at_call 7; refine (HSp.out _ _ _ _ _ hdX hpX).mono ?_; rintro e wZ ⟨av, cv, rfl, hrZ, hBZ⟩; have hwX := Lib.hid hrZ; clear hrZ; have kb := Lib.hid (kb.out.below hBZ kb.out.lt); have cur := Lib.hid (cur.out.trans (hBZ.mono cur.out.size)); have mm := (⟨kb.out.cell 0, kb.out.cell 1, kb.out.cell 2⟩ : wZ.cell? ⟨w.heap.size, 0, none⟩ = some (.int .i64 z) ∧ wZ.cell? ⟨w.heap.size, 1, none⟩ = some (.int .i64 s) ∧ wZ.cell? ⟨w.heap.size, 2, none⟩ = some (.slice pa ps.length pc)); clear hBZ))
    all_goals
      go_wp2
      go_meet
      exact ⟨_, _, rfl, rfl, hwX, kb, cur⟩
  case rest =>
    obtain ⟨wx, e0⟩ : ∃ x, x = wc := ⟨_, rfl⟩
    subst e0
    obtain ⟨av3, c3, rfl, rfl, HX3, HKx, HBx⟩ := hcut
    clear HK2 HB2 HSp
    have Hx_3 := Lib.hid (Below.refl wx.heap.size wx)
    go_wp2_with fail
    refine (HTD.out _ HBx.out).mono ?_
    rintro e w4 ⟨g4, c4, rfl, ho4, hB4⟩
    have Hx_4 := Lib.hid (Hx_3.out.trans (hB4.mono Hx_3.out.size))
    have HSh4 := Lib.hid (OwnDks.shape ho4 HSM.out rfl)
    have HD4 := Lib.hid (own_at ho4)
    have H4_4 := Lib.hid (Below.refl w4.heap.size w4)
    have HK4 := HKx.out.below Hx_4.out HKx.out.lt
    have b0 : w4.cell? ⟨w.heap.size, 0, none⟩ = some (.int .i64 z) := HK4.cell 0
    have b1 : w4.cell? ⟨w.heap.size, 1, none⟩ = some (.int .i64 s) := HK4.cell 1
    have b2 : w4.cell? ⟨w.heap.size, 2, none⟩ = some (.slice pa ps.length pc) := HK4.cell 2
    have hx4 : wx.heap.size ≤ w4.heap.size := hB4.size
    have hwx : w.heap.size < wx.heap.size := HKx.out.lt
    clear ho4 hB4 HK4
    go_wp2_with fail
    refine (HTP.out _ (HBx.out.trans (Hx_4.out.mono HBx.out.size))).mono ?_
    rintro e w5 ⟨v5, rfl, ho5, hB5⟩
    have Hx_5 := Lib.hid (Hx_4.out.trans (hB5.mono Hx_4.out.size))
    have H4_5 := Lib.hid (H4_4.out.trans (hB5.mono H4_4.out.size))
    obtain ⟨p5, q5, rfl, _, _, hp5⟩ := OwnPl.reads ho5
    have HSh5 := Lib.hid (OwnPl.shape ho5)
    have hBb : Below w5.heap.size w5 (w5.alloc (.cells #[.int .i64 z, .int .i64 s, .slice p5 ps.length q5] 34)) := (Below.refl _ _).alloc (Nat.le_refl _) _
    have HKb := Lib.hid (Blk.new w5 #[.int .i64 z, .int .i64 s, .slice p5 ps.length q5] 34)
    have HPb := Lib.hid (hp5.below hBb)
    have H5_5 := Lib.hid (Below.refl w5.heap.size w5)
    have Hx_b := Lib.hid (Hx_5.out.trans (hBb.mono Hx_5.out.size))
    have H4_b := Lib.hid (H4_5.out.trans (hBb.mono H4_5.out.size))
    have H5_b := Lib.hid (H5_5.out.trans (hBb.mono H5_5.out.size))
    have h45 : w4.heap.size ≤ w5.heap.size := hB5.size
    have h5b : (w5.alloc (.cells #[.int .i64 z, .int .i64 s, .slice p5 ps.length q5] 34)).heap.size = w5.heap.size + 1 := by simp
    have H5b := Lib.hid h5b
    clear ho5 hB5 hp5 hBb h5b b0 b1 b2
    go_wp2_with fail
    generalize w5.alloc (.cells #[.int .i64 z, .int .i64 s, .slice p5 ps.length q5] 34) = wb at HKb HPb H5b Hx_b H4_b H5_b ⊢
    have k0 : wb.cell? ⟨w5.heap.size, 0, none⟩ = some (.int .i64 z) := HKb.out.cell 0
    have k1 : wb.cell? ⟨w5.heap.size, 1, none⟩ = some (.int .i64 s) := HKb.out.cell 1
    have k2 : wb.cell? ⟨w5.heap.size, 2, none⟩ = some (.slice p5 ps.length q5) := HKb.out.cell 2
    have Hb_b := Lib.hid (Below.refl wb.heap.size wb)
    go_wp2_with fail
    refine (HIm.out _ _ _ _ _ (show Hid (DksAt wb (some ⟨g4, 0, none⟩) ds) from HD4.out.below H4_b.out) HPb).mono ?_
    rintro e w6 ⟨av6, c6, rfl, ho6, hB6⟩
    have Hx_6 := Lib.hid (Hx_b.out.trans (hB6.mono Hx_b.out.size))
    have H4_6 := Lib.hid (H4_b.out.trans (hB6.mono H4_b.out.size))
    have H5_6 := Lib.hid (H5_b.out.trans (hB6.mono H5_b.out.size))
    have Hb_6 := Lib.hid (Hb_b.out.trans (hB6.mono Hb_b.out.size))
    have HO6 := Lib.hid ho6
    have H6_6 := Lib.hid (Below.refl w6.heap.size w6)
    have hx6 := Lib.hid (own_at ho6)
    have hx3 := Lib.hid (HX3.out.below Hx_6.out)
    clear ho6 hB6 k0 k1 k2
    go_wp2_with fail
    refine (eqDiskS_same av6 av3 c6 c3 R _ hRm hx6 hx3).mono ?_
    rintro e w7 ⟨rfl, hB7⟩
    have Hx_7 := Lib.hid (Hx_6.out.trans (hB7.mono Hx_6.out.size))
    have H4_7 := Lib.hid (H4_6.out.trans (hB7.mono H4_6.out.size))
    have H5_7 := Lib.hid (H5_6.out.trans (hB7.mono H5_6.out.size))
    have Hb_7 := Lib.hid (Hb_6.out.trans (hB7.mono Hb_6.out.size))
    have H6_7 := Lib.hid (H6_6.out.trans (hB7.mono H6_6.out.size))
    clear hB7 hx6 hx3
    go_wp2_with fail
    refine (HTD.out _ (HBx.out.trans (Hx_7.out.mono HBx.out.size))).mono ?_
    rintro e w8 ⟨g8, c8, rfl, ho8, hB8⟩
    have Hx_8 := Lib.hid (Hx_7.out.trans (hB8.mono Hx_7.out.size))
    have H4_8 := Lib.hid (H4_7.out.trans (hB8.mono H4_7.out.size))
    have H5_8 := Lib.hid (H5_7.out.trans (hB8.mono H5_7.out.size))
    have Hb_8 := Lib.hid (Hb_7.out.trans (hB8.mono Hb_7.out.size))
    have H6_8 := Lib.hid (H6_7.out.trans (hB8.mono H6_7.out.size))
    have hx8 := Lib.hid (own_at ho8)
    have hx4 := Lib.hid (HD4.out.below H4_8.out)
    clear ho8 hB8
    go_wp2_with fail
    refine (eqDiskS_same (some ⟨g4, 0, none⟩) (some ⟨g8, 0, none⟩) c4 c8 ds _ hl hx4 hx8).mono ?_
    rintro e w9 ⟨rfl, hB9⟩
    have Hx_9 := Lib.hid (Hx_8.out.trans (hB9.mono Hx_8.out.size))
    have H4_9 := Lib.hid (H4_8.out.trans (hB9.mono H4_8.out.size))
    have H5_9 := Lib.hid (H5_8.out.trans (hB9.mono H5_8.out.size))
    have Hb_9 := Lib.hid (Hb_8.out.trans (hB9.mono Hb_8.out.size))
    have H6_9 := Lib.hid (H6_8.out.trans (hB9.mono H6_8.out.size))
    clear hB9 hx4 hx8
    have cur : Hid (Below w.heap.size w w9.drew) := (HBx.out.trans (Hx_9.out.mono HBx.out.size)).drew
    have kb : Hid (Blk w9.drew w.heap.size #[.int .i64 z, .int .i64 s, .slice pa ps.length pc] 25) := HKx.out.below Hx_9.out.drew HKx.out.lt
    have kx : Hid (Blk w9.drew w5.heap.size #[.int .i64 z, .int .i64 s, .slice p5 ps.length q5] 34) := HKb.out.below Hb_9.out.drew HKb.out.lt
    have hpx : Hid (PlacesAt w9.drew p5 ps) := HPb.out.below (show Below wb.heap.size wb w9.drew from Hb_9.out.drew)
    have mm : w9.drew.cell? ⟨w.heap.size, 0, none⟩ = some (.int .i64 z) ∧ w9.drew.cell? ⟨w.heap.size, 1, none⟩ = some (.int .i64 s) ∧ w9.drew.cell? ⟨w.heap.size, 2, none⟩ = some (.slice pa ps.length pc) ∧ w9.drew.cell? ⟨w5.heap.size, 0, none⟩ = some (.int .i64 z) ∧ w9.drew.cell? ⟨w5.heap.size, 1, none⟩ = some (.int .i64 s) ∧ w9.drew.cell? ⟨w5.heap.size, 2, none⟩ = some (.slice p5 ps.length q5) := ⟨kb.out.cell 0, kb.out.cell 1, kb.out.cell 2, kx.out.cell 0, kx.out.cell 1, kx.out.cell 2⟩
    have hdr : Hid (Below w9.heap.size w9 w9.drew) := (Below.refl _ _).drew
    go_wp2_with fail
    go_region_held3 (fun w' => w'.cell? ⟨w.heap.size, 0, none⟩ = some (.int .i64 z) ∧ w'.cell? ⟨w.heap.size, 1, none⟩ = some (.int .i64 s) ∧ w'.cell? ⟨w.heap.size, 2, none⟩ = some (.slice pa ps.length pc) ∧ w'.cell? ⟨w5.heap.size, 0, none⟩ = some (.int .i64 z) ∧ w'.cell? ⟨w5.heap.size, 1, none⟩ = some (.int .i64 s) ∧ w'.cell? ⟨w5.heap.size, 2, none⟩ = some (.slice p5 ps.length q5)) (first | with_reducible exact mm | go_keep)
      (first
        | (go_at_call 9; refine (HTP.out _ cur.out).mono ?_; rintro e wY ⟨vY, rfl, hoY, hBY⟩; obtain ⟨pd, qd, rfl, _, _, hpr⟩ := OwnPl.reads hoY; have hpY := Lib.hid hpr; have hpx := Lib.hid (hpx.out.below hBY); have kb := Lib.hid (kb.out.below hBY kb.out.lt); have kx := Lib.hid (kx.out.below hBY kx.out.lt); have cur := Lib.hid (cur.out.trans (hBY.mono cur.out.size)); have hdr := Lib.hid (hdr.out.trans (hBY.mono hdr.out.size)); have mm := (⟨kb.out.cell 0, kb.out.cell 1, kb.out.cell 2, kx.out.cell 0, kx.out.cell 1, kx.out.cell 2⟩ : wY.cell? ⟨w.heap.size, 0, none⟩ = some (.int .i64 z) ∧ wY.cell? ⟨w.heap.size, 1, none⟩ = some (.int .i64 s) ∧ wY.cell? ⟨w.heap.size, 2, none⟩ = some (.slice pa ps.length pc) ∧ wY.cell? ⟨w5.heap.size, 0, none⟩ = some (.int .i64 z) ∧ wY.cell? ⟨w5.heap.size, 1, none⟩ = some (.int .i64 s) ∧ wY.cell? ⟨w5.heap.size, 2, none⟩ = some (.slice p5 ps.length q5)); clear hoY hBY hpr)
        | (go_at_call 12; refine (eqPtr_same z s p5 pd q5 qd ps _ hpl hpx hpY).mono ?_; rintro e w11 ⟨rfl, hBZ⟩; have kb := Lib.hid (kb.out.below hBZ kb.out.lt); have kx := Lib.hid (kx.out.below hBZ kx.out.lt); have cur := Lib.hid (cur.out.trans (hBZ.mono cur.out.size)); have hdr := Lib.hid (hdr.out.trans (hBZ.mono hdr.out.size)); have mm := (⟨kb.out.cell 0, kb.out.cell 1, kb.out.cell 2, kx.out.cell 0, kx.out.cell 1, kx.out.cell 2⟩ : w11.cell? ⟨w.heap.size, 0, none⟩ = some (.int .i64 z) ∧ w11.cell? ⟨w.heap.size, 1, none⟩ = some (.int .i64 s) ∧ w11.cell? ⟨w.heap.size, 2, none⟩ = some (.slice pa ps.length pc) ∧ w11.cell? ⟨w5.heap.size, 0, none⟩ = some (.int .i64 z) ∧ w11.cell? ⟨w5.heap.size, 1, none⟩ = some (.int .i64 s) ∧ w11.cell? ⟨w5.heap.size, 2, none⟩ = some (.slice p5 ps.length q5)); clear hBZ))
    all_goals
      have hB11 := hdr.out
      have Hx_11 := Lib.hid (Hx_9.out.trans (hB11.mono Hx_9.out.size))
      have H4_11 := Lib.hid (H4_9.out.trans (hB11.mono H4_9.out.size))
      have H5_11 := Lib.hid (H5_9.out.trans (hB11.mono H5_9.out.size))
      have Hb_11 := Lib.hid (Hb_9.out.trans (hB11.mono Hb_9.out.size))
      have H6_11 := Lib.hid (H6_9.out.trans (hB11.mono H6_9.out.size))
      have HO11 := Lib.hid (OwnDk.below HO6.out H6_11.out)
      have HS11 := Lib.hid (HSh4.out.mk (Mk.of_below H4_11.out (show wx.heap.size ≤ w4.heap.size by have := Hx_4.out.size; omega)))
      have HT11 := Lib.hid (HSh5.out.mk (Mk.of_below H5_11.out h45))
      have hlo : wx.heap.size ≤ w11.heap.size := Hx_11.out.size
      have hs5 : w5.heap.size < w11.heap.size := kx.out.lt
      clear hB11 mm cur kb hdr hpx
      go_wp2_with fail
      refine (markDkS_mk wx.heap.size w4.heap.size (some ⟨g4, 0, none⟩) ds.length c4 1 _ hlo (by omega) (by omega) HS11).mono ?_
      rintro e w12 ⟨⟨r1, rfl, hr1, hr2⟩, hm12⟩
      have Hx_12 := Lib.hid (Hx_11.out.trans hm12.low)
      have KX12 : Blk w12 w5.heap.size #[.int .i64 z, .int .i64 s, .slice p5 ps.length q5] 34 := (hm12.high w5.heap.size h45 hs5).trans kx.out
      have x0 : w12.cell? ⟨w5.heap.size, 0, none⟩ = some (.int .i64 z) := KX12.cell 0
      have x1 : w12.cell? ⟨w5.heap.size, 1, none⟩ = some (.int .i64 s) := KX12.cell 1
      have x2 : w12.cell? ⟨w5.heap.size, 2, none⟩ = some (.slice p5 ps.length q5) := KX12.cell 2
      have HT12 := Lib.hid (PlSh.mk2 HT11.out hm12)
      have HO12 := Lib.hid (OwnDks.mkLow HO11.out hm12 (fun i _ _ _ hi _ => .inr (by have := H5b.out; omega)))
      have hbb : wb.heap.size ≤ w12.heap.size := by have := hm12.low.size; have := Hb_11.out.size; omega
      have h12 : w4.heap.size ≤ w12.heap.size := by have := hm12.low.size; omega
      clear hm12 KX12 HO11 HT11 HS11
      go_wp2_with fail
      refine (markPtr_mk w4.heap.size w5.heap.size z s p5 ps.length q5 r1 _ h12 (by omega) HT12).mono ?_
      rintro e w13 ⟨rfl, hm13⟩
      have Hx_13 := Lib.hid (Hx_12.out.trans (hm13.low.mono (show wx.heap.size ≤ w4.heap.size by have := Hx_4.out.size; omega)))
      have HO13 := Lib.hid (OwnDks.mkLow HO12.out hm13 (fun i _ _ _ hi _ => .inr (by have := H5b.out; omega)))
      have hbc : wb.heap.size ≤ w13.heap.size := by have := hm13.low.size; omega
      have d13 : decide (((r1 + ps.length * 2 : Nat) : Int) < 0) = false := decide_eq_false (by omega)
      generalize r1 + ps.length * 2 = r13 at d13
      have hx13 := Lib.hid (own_at HO13.out)
      have hy13 := Lib.hid (HX3.out.below Hx_13.out)
      clear hm13 HO12 HT12 x0 x1 x2
      go_wp2_with fail
      refine (eqDiskS_same av6 av3 c6 c3 R _ hRm hx13 hy13).mono ?_
      rintro e w14 ⟨rfl, hB14⟩
      have Hx_14 := Lib.hid (Hx_13.out.trans (hB14.mono Hx_13.out.size))
      have HO14 := Lib.hid (OwnDk.below HO13.out hB14)
      have hbs : wb.heap.size ≤ w14.heap.size := by have := hB14.size; omega
      clear hB14 HO13 hx13 hy13
      go_wp2_with fail
      refine (markDk_any wb.heap.size c6 1 av6 R _ hbs (by omega) HRN (by omega) HO14.out).mono ?_
      rintro e w15 ⟨rfl, hB15, hd15⟩
      have Hx_15 := Lib.hid (Hx_14.out.trans (hB15.mono (by have := Hx_b.out.size; omega)))
      have HD15 := Lib.hid hd15
      have HH := Lib.hid (fun W h => heldDkS_any av6 c6 1 R W (by omega) HRN (by omega) h)
      have dm : decide (((dkAt 1 R R.length : Nat) : Int) < 0) = false := decide_eq_false (by omega)
      generalize dkAt 1 R R.length = m at HH dm
      generalize mkDkTo 1 R R.length = Q at HH HD15
      have dq : ((m : Int) != (m : Int)) = false := by simp
      clear hB15 hd15 HO14
      go_wp2_with fail
      refine (HH.out _ HD15).mono ?_
      rintro e w16 ⟨rfl, hB16⟩
      have Hx_16 := Lib.hid (Hx_15.out.trans (hB16.mono Hx_15.out.size))
      have HD16 := Lib.hid (HD15.out.below hB16)
      clear hB16 HD15
      have cur : Hid (Below w.heap.size w w16.drew) := (HBx.out.trans (Hx_16.out.mono HBx.out.size)).drew
      have kb : Hid (Blk w16.drew w.heap.size #[.int .i64 z, .int .i64 s, .slice pa ps.length pc] 25) := HKx.out.below Hx_16.out.drew HKx.out.lt
      have mm : w16.drew.cell? ⟨w.heap.size, 0, none⟩ = some (.int .i64 z) ∧ w16.drew.cell? ⟨w.heap.size, 1, none⟩ = some (.int .i64 s) ∧ w16.drew.cell? ⟨w.heap.size, 2, none⟩ = some (.slice pa ps.length pc) := ⟨kb.out.cell 0, kb.out.cell 1, kb.out.cell 2⟩
      have hdr : Hid (Below w16.heap.size w16 w16.drew) := (Below.refl _ _).drew
      go_wp2_with fail
      go_region_held3 (fun w' => w'.cell? ⟨w.heap.size, 0, none⟩ = some (.int .i64 z) ∧ w'.cell? ⟨w.heap.size, 1, none⟩ = some (.int .i64 s) ∧ w'.cell? ⟨w.heap.size, 2, none⟩ = some (.slice pa ps.length pc)) (first | with_reducible exact mm | go_keep)
        (first
          | (go_at_call 8; refine (HTD.out _ cur.out).mono ?_; rintro e wX ⟨gd, cd, rfl, hoX, hBX⟩; have hdX := Lib.hid (own_at hoX); (try (have hpX := Lib.hid (hpX.out.below hBX))); have kb := Lib.hid (kb.out.below hBX kb.out.lt); have cur := Lib.hid (cur.out.trans (hBX.mono cur.out.size)); have mm := (⟨kb.out.cell 0, kb.out.cell 1, kb.out.cell 2⟩ : wX.cell? ⟨w.heap.size, 0, none⟩ = some (.int .i64 z) ∧ wX.cell? ⟨w.heap.size, 1, none⟩ = some (.int .i64 s) ∧ wX.cell? ⟨w.heap.size, 2, none⟩ = some (.slice pa ps.length pc)); have hdr := Lib.hid (hdr.out.trans (hBX.mono hdr.out.size)); clear hoX hBX)
          | (go_at_call 9; refine (HTP.out _ cur.out).mono ?_; rintro e wY ⟨vY, rfl, hoY, hBY⟩; obtain ⟨pd, qd, rfl, _, _, hpr⟩ := OwnPl.reads hoY; have hpX := Lib.hid hpr; (try (have hdX := Lib.hid (hdX.out.below hBY))); have kb := Lib.hid (kb.out.below hBY kb.out.lt); have cur := Lib.hid (cur.out.trans (hBY.mono cur.out.size)); have mm := (⟨kb.out.cell 0, kb.out.cell 1, kb.out.cell 2⟩ : wY.cell? ⟨w.heap.size, 0, none⟩ = some (.int .i64 z) ∧ wY.cell? ⟨w.heap.size, 1, none⟩ = some (.int .i64 s) ∧ wY.cell? ⟨w.heap.size, 2, none⟩ = some (.slice pa ps.length pc)); have hdr := Lib.hid (hdr.out.trans (hBY.mono hdr.out.size)); clear hoY hBY hpr)
          | (go_at_call 10; refine (HIm.out _ _ _ _ _ hdX hpX).mono ?_; rintro e wZ ⟨av, cv, rfl, hrZ, hBZ⟩; have hwX := Lib.hid (own_at hrZ); clear hrZ; have kb := Lib.hid (kb.out.below hBZ kb.out.lt); have cur := Lib.hid (cur.out.trans (hBZ.mono cur.out.size)); have mm := (⟨kb.out.cell 0, kb.out.cell 1, kb.out.cell 2⟩ : wZ.cell? ⟨w.heap.size, 0, none⟩ = some (.int .i64 z) ∧ wZ.cell? ⟨w.heap.size, 1, none⟩ = some (.int .i64 s) ∧ wZ.cell? ⟨w.heap.size, 2, none⟩ = some (.slice pa ps.length pc)); have hdr := Lib.hid (hdr.out.trans (hBZ.mono hdr.out.size)); clear hBZ))
      all_goals
        have Hx_19 := Lib.hid (Hx_16.out.trans (hdr.out.mono Hx_16.out.size))
        have HD19 := Lib.hid (HD16.out.below hdr.out)
        have hy19 := Lib.hid (HX3.out.below Hx_19.out)
        go_wp2_with fail
        refine (eqDiskS_same av av3 cv c3 R _ hRm hwX hy19).mono ?_
        rintro e w20 ⟨rfl, hB20⟩
        have HD20 := Lib.hid (HD19.out.below hB20)
        have Hx_20 := Lib.hid (Hx_19.out.trans (hB20.mono Hx_19.out.size))
        clear hB20 hy19 HD19 hwX
        go_wp2_with fail
        refine (HH.out _ HD20).mono ?_
        rintro e w21 ⟨rfl, hB21⟩
        have HE := Lib.hid (HBx.out.trans ((Hx_20.out.trans (hB21.mono Hx_20.out.size)).mono HBx.out.size))
        clear hB21
        go_wp2
        go_ret
        exact ⟨rfl, HE.out⟩

theorem walk (u0 : Value) (x0 : List DiskD) (x1 : PtrD) (u1 : Value) (a2 : ByteArray) (w : World) (w0 : DksV w u0 x0) (wn0 : ∀ j, j < x0.length → DiskBd (x0.getD j disk0)) (w1 : PlacesV w u1 x1.places) (w2 : a2.size ≤ maxLen) :
    Calls Tryz.prog 3 #[u0, .agg #[.int .i64 x1.size, .int .i64 x1.sum, u1], .string a2] w fun e w' => e = .returned (.bool true) ∧ Below w.heap.size w w' := by
  obtain ⟨a, cap, rfl, h1, h2, h3⟩ := w0
  obtain ⟨pa, pc, rfl, k1, k2, k3⟩ := w1
  by_cases h0 : a2.size ≤ 1048576
  · exact main a pa cap pc x1.size x1.sum x0 x1.places a2 w h0 (by omega) (by omega) wn0 h3 k3
  · clear w2
    go_enter Tryz.func3, Tryz.ntmps3
    go_wp2
    go_ret
    exact ⟨rfl, (Below.refl _ _).alloc (Nat.le_refl _) _⟩

set_option maxRecDepth 100000 in
theorem lifted (os : Os) (started : os.Started) (H : Type) (enc : TypeId × Value → H) :
    ReturnsInHanded {} Tryz.checked os 3 .any (Rows.fnExactStripePutSpec.pre6 enc Tryz.prog Tryz.f3 Rows.fnExactStripePutRow.domain false) (Rows.fnExactStripePutSpec.post enc Tryz.prog Tryz.f3 false true false false) := by
  refine returnsInHanded_of_change (C := Tryz.checked) own started (by kernel_rfl) Tryz.func3
    (ChangeSpec.witness6 (enc := enc) (C := Tryz.checked) false ⟨#[], #[.slice none 0 0, .agg #[.int .i64 0, .int .i64 0, .slice none 0 0], .string ByteArray.empty], []⟩ 8 (by kernel_rfl) (by kernel_rfl) (by kernel_rfl) (by kernel_rfl)) ?_
  intro W base args ds gs before hval0 hW hcnd _
  have hval : ∀ (j : Nat) t v, Tryz.f3.params[j]? = some t → args[j]? = some v → Value.okWide Tryz.prog W .any base t v := hval0
  have hW' := hW
  obtain ⟨p, q, hA0, hV, rfl, hfz, hnd⟩ := hW
  have hA : DataW.TrodAll enc Tryz.prog W 0 (fun _ => true) true Tryz.f3.params.toList args.toList ds p := hA0
  rw [Tryz.params3] at hA hval
  obtain ⟨v0, vs0, d0, ds0, p0, q0, hargs, rfl, rfl, h0, r0⟩ := trodAll_cons hA
  obtain ⟨v1, vs1, d1, ds1, p1, q1, rfl, rfl, rfl, h1, r1⟩ := trodAll_cons r0
  obtain ⟨v2, vs2, d2, ds2, p2, q2, rfl, rfl, rfl, h2, r2⟩ := trodAll_cons r1
  obtain ⟨rfl, rfl, rfl⟩ := trodAll_nil r2
  obtain rfl : args = #[v0, v1, v2] := by cases args; simp_all
  obtain ⟨rfl, rfl⟩ := trodVars_none hV
  have k0 := h0
  have lt0 : ∀ x ∈ p0, x.block < W.heap.size := by obtain ⟨m, hm⟩ := k0; exact DataW.trod_lt m _ _ _ hm
  obtain ⟨a0, len0, cap0, rfl⟩ := okWide_slice Tryz.underlying22 (hval 0 22 v0 rfl rfl)
  obtain ⟨x0, w0, wn0⟩ : ∃ ds, DksV W (.slice a0 len0 cap0) ds ∧ ∀ j, j < ds.length → DiskBd (ds.getD j disk0) := by
    obtain ⟨fuel, hf⟩ := h0
    exact in_disks hf
  have k1 := h1
  have lt1 : ∀ x ∈ p1, x.block < W.heap.size := by obtain ⟨m, hm⟩ := k1; exact DataW.trod_lt m _ _ _ hm
  obtain ⟨x1, u1, rfl, w1⟩ := in_ptr (hval 1 25 v1 rfl rfl) h1
  have k2 := h2
  have lt2 : ∀ x ∈ p2, x.block < W.heap.size := by obtain ⟨m, hm⟩ := k2; exact DataW.trod_lt m _ _ _ hm
  obtain ⟨a2, rfl, rfl, e2, w2⟩ := open_string Tryz.underlying9 (hval 2 9 v2 rfl rfl) h2
  clear hA0 hval0
  refine (walk (.slice a0 len0 cap0) x0 x1 u1 a2 W w0 wn0 w1 w2).mono fun e W' ⟨he, bel⟩ => ?_
  subst he
  exact ⟨_, rfl, _, _, _, [], _, [], hW', trodAll_mk1 (shut_bool Tryz.underlying4 _), (trodAll_cons_mk (Below.trod laidOut (by kernel_rfl) (of_decide_eq_true (by kernel_rfl)) k0 bel lt0) (trodAll_cons_mk (Below.trod laidOut (by kernel_rfl) (of_decide_eq_true (by kernel_rfl)) k1 bel lt1) (trodAll_cons_mk (Below.trod laidOut (by kernel_rfl) (of_decide_eq_true (by kernel_rfl)) k2 bel lt2) trodAll_mk0))), rfl, bel.frame _, fun h => by cases h⟩

theorem over : Rows.fnExactStripePutRow.holds Tryz.pinned (OpenSpec.ofChange Rows.fnExactStripePutSpec) :=
  OpenClaim.holds_of_wide 3 Tryz.f3 rfl rfl rfl rfl rfl rfl rfl ⟨rfl, rfl, rfl, rfl, rfl⟩ rfl rfl rfl rfl rfl (by kernel_rfl) Tryz.func3 (by kernel_rfl)
    (of_decide_eq_true (by kernel_rfl)) (by unfold Func.isWrapper; first | (rw [if_pos (by decide +kernel)]; kernel_rfl) | (rw [if_neg (by decide +kernel)]; exact ⟨rfl, rfl⟩))
    (fun os started H enc _ => lifted os started H enc)

end FnExactStripePut

theorem FnExactStripePut_holds : Rows.FnExactStripePutSaid := FnExactStripePut.over

end Go.Proofs.YtcdiengbmjkglaaGreat

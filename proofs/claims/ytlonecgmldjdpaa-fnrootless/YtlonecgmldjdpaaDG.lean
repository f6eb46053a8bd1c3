/- The draw of a root, some spoilt. Conditions: the reader's place is small. -/
import Derived.Test.YtlonecgmldjdpaaDG0
import Derived.Deep.AppendLies
import Derived.Deep.RegionLaw
namespace Go.Proofs.Ytlonecgmldjdpaa
open Go.RowKit Go.Sort

set_option maxRecDepth 100000 in
set_option maxHeartbeats 16000000 in
theorem l71Off_any (n₀ B p : Nat) (n : Int) (w : World) (hp : p ≤ 500000) (hn : Pool n) (hR : Rd n₀ B p w) :
    Calls Try.prog 42 #[.pointer (some ⟨B, 0, none⟩), .int .i64 n] w (OffDrawn n₀ B p 1000 w) := by
  have Hn := Lib.hid hn
  have hBlt := hR.lt
  have HR0 := Lib.hid (hR.alloc (.cells #[.int .i64 0, .slice none 0 0] 25))
  clear hn hR
  go_enter Try.func42, Try.ntmps42
  go_wp2_with fail
  refine (l71Root_any n₀ B p n _ (by omega) Hn.out HR0.out).mono ?_
  rintro e w1 ⟨t, o, vs, q, rfl, hO1, hv4, hq, hR1, hg1⟩
  have hz1 : w.heap.size + 1 ≤ w1.heap.size := by have := hg1.size; simp at this; omega
  have hbx1 : Bx w1 w.heap.size #[.int .i64 0, .slice none 0 0] 25 := (Bx.new w _ _).kept hg1 (fun e => by injection e with e; omega)
  have HU : Hid (Und n₀ B q w.heap.size w1.heap.size t o vs w (w1.alloc (.cells #[.int .i64 t, o] 25))) :=
    ⟨hbx1.kept (World.grownBy_alloc w1 _ none) (by simp), Bx.new _ _ _, ((hO1.low (by simp)).kept (World.grownBy_alloc w1 _ none) fr_none).wide (by simp), hR1.alloc _, ((World.grownBy_alloc w _ _).trans hg1).trans (World.grownBy_alloc w1 _ _)⟩
  obtain ⟨ao, co, rfl, hco⟩ := hO1.slice
  clear hO1 hR1 hg1 hbx1 HR0
  go_wp2_with fail
  generalize hgO : w1.heap.size = gO at HU ⊢
  generalize w1.alloc (.cells #[.int .i64 t, .slice ao vs.length co] 25) = w2 at HU ⊢
  have hgO1 : w.heap.size < gO := by omega
  clear hgO hz1
  refine (pick_any n₀ B q 12 _ (by omega) HU.out.rd).mono ?_
  rintro e w3 ⟨c, rfl, hc0, hc12, hR3, hg3⟩
  have hU3 : Hid (Und n₀ B (q + 1) w.heap.size gO t (.slice ao vs.length co) vs w w3) :=
    ⟨HU.out.res.kept hg3 (fun e => by injection e with e; omega), HU.out.out.kept hg3 (fun e => by injection e with e; omega), (HU.out.vol.kept hg3 (fr_low hBlt)).wide hg3.size, hR3, HU.out.gb.trans hg3⟩
  clear HU hR3 hg3 hc12
  by_cases hc : 0 < c
  · have hc' : decide (0 < c) = true := by simpa using hc
    have k0 : w3.cell? ⟨gO, 0, none⟩ = some (.int .i64 t) := hU3.out.out.cell 0
    have k1 : w3.cell? ⟨gO, 1, none⟩ = some (.slice ao vs.length co) := hU3.out.out.cell 1
    have m0 : w3.cell? ⟨w.heap.size, 0, none⟩ = some (.int .i64 0) := hU3.out.res.cell 0
    have m1 : w3.cell? ⟨w.heap.size, 1, none⟩ = some (.slice none 0 0) := hU3.out.res.cell 1
    have f0 := hU3.out.res.frozen 0
    have f1 := hU3.out.res.frozen 1
    have HE := Lib.hid (und_end hU3.out hBlt (Nat.le_refl _))
    go_wp2
    exact bodyPost_ret (v := .agg #[.int .i64 t, (.slice ao vs.length co)]) (by simp [results, Try.results42, go_sem, m0, m1]) rfl ⟨t, _, vs, q + 1, rfl, HE.out.1.lv, by first | omega | (simp; omega), by omega, HE.out.2.1, HE.out.2.2⟩
  · obtain rfl : c = 0 := by omega
    go_wp2_with fail
    refine (pick_any n₀ B (q + 1) 6 _ (by omega) hU3.out.rd).mono ?_
    rintro e w4 ⟨d, rfl, hd0, hd6, hR4, hg4⟩
    have HU : Hid (Und n₀ B (q + 2) w.heap.size gO t (.slice ao vs.length co) vs w w4) :=
      ⟨hU3.out.res.kept hg4 (fun e => by injection e with e; omega), hU3.out.out.kept hg4 (fun e => by injection e with e; omega), (hU3.out.vol.kept hg4 (fr_low hBlt)).wide hg4.size, hR4, hU3.out.gb.trans hg4⟩
    have hd6' := hd6 (by omega)
    clear hU3 hR4 hg4 hd6
    have hd : d = 0 ∨ d = 1 ∨ d = 2 ∨ d = 3 ∨ d = 4 ∨ d = 5 := by omega
    clear hd0 hd6' hc
    rcases hd with rfl | rfl | rfl | rfl | rfl | rfl
    · -- another count
      go_wp2_with fail
      refine (pick_any n₀ B (q + 2) 3 _ (by omega) (HU.out.rd.alloc _)).mono ?_
      rintro e w5 ⟨d, rfl, hd0, hd3, hR5, hg5⟩
      have hd3' := hd3 (by omega)
      obtain ⟨k, rfl⟩ := Int.eq_ofNat_of_zero_le hd0
      have hsz4 : w4.heap.size + 1 ≤ w5.heap.size := by have := hg5.size; simp at this; omega
      have hB4 := HU.out.rd.lt
      have hO4 := HU.out.out.lt
      have hgT : w4.grownBy w5 (some B) := (World.grownBy_alloc _ _ _).trans hg5
      have HU5 : Hid (Und n₀ B (q + 3) w.heap.size gO t (.slice ao vs.length co) vs w w5) :=
        ⟨HU.out.res.kept hgT (fun e => by injection e with e; omega), HU.out.out.kept hgT (fun e => by injection e with e; omega), (HU.out.vol.kept hgT (fr_low hBlt)).wide hgT.size, hR5, HU.out.gb.trans hgT⟩
      have hbx : Bx w5 w4.heap.size #[.int .i64 (-1), .int .i64 100000, .int .i64 100001] 3 := (Bx.new w4 _ _).kept hg5 (fun e => by injection e with e; omega)
      obtain ⟨z, hz⟩ : ∃ z, w5.cell? ⟨w4.heap.size, k, none⟩ = some (.int .i64 z) := by
        have hk : k = 0 ∨ k = 1 ∨ k = 2 := by omega
        rcases hk with rfl | rfl | rfl
        · exact ⟨_, hbx.cell 0⟩
        · exact ⟨_, hbx.cell 1⟩
        · exact ⟨_, hbx.cell 2⟩
      have kk0 : w5.cell? ⟨gO, 0, none⟩ = some (.int .i64 t) := HU5.out.out.cell 0
      have ff0 := HU5.out.out.frozen 0
      have hgs := gset w5 gO 0 (.int .i64 z)
      have HX : Hid (Und n₀ B (q + 3) w.heap.size gO z (.slice ao vs.length co) vs w (w5.setCell ⟨gO, 0, none⟩ (.int .i64 z))) := by
        obtain ⟨xs, ho, hx⟩ := HU5.out.vol
        refine ⟨HU5.out.res.kept hgs (fun e => by injection e with e; omega), HU5.out.out.set 0 _, ⟨xs, ho.kept hgs (.inr (fun e => (bx_vol HU5.out.out ho) e.symm)), ?_⟩, HU5.out.rd.kept hgs (fun i e => by cases e; omega), HU5.out.gb.andThen hgs (fun i e => .inl (by cases e; omega))⟩
        simpa using hx.keptV hgs (fv_root HU5.out.out)
      clear HU HU5 hbx hgT hg5 hR5 hd3 hgs
      have k0 : (w5.setCell ⟨gO, 0, none⟩ (.int .i64 z)).cell? ⟨gO, 0, none⟩ = some (.int .i64 z) := HX.out.out.cell 0
      have k1 : (w5.setCell ⟨gO, 0, none⟩ (.int .i64 z)).cell? ⟨gO, 1, none⟩ = some (.slice ao vs.length co) := HX.out.out.cell 1
      have m0 : (w5.setCell ⟨gO, 0, none⟩ (.int .i64 z)).cell? ⟨w.heap.size, 0, none⟩ = some (.int .i64 0) := HX.out.res.cell 0
      have m1 : (w5.setCell ⟨gO, 0, none⟩ (.int .i64 z)).cell? ⟨w.heap.size, 1, none⟩ = some (.slice none 0 0) := HX.out.res.cell 1
      have f0 := HX.out.res.frozen 0
      have f1 := HX.out.res.frozen 1
      have HE := Lib.hid (und_end HX.out hBlt (Nat.le_refl _))
      go_wp2
      exact bodyPost_ret (v := .agg #[.int .i64 z, (.slice ao vs.length co)]) (by simp [results, Try.results42, go_sem, m0, m1]) rfl ⟨z, _, vs, q + 3, rfl, HE.out.1.lv, by first | omega | (simp; omega), by omega, HE.out.2.1, HE.out.2.2⟩
    · -- a volume that is named wrongly
      have hmk := make3
      obtain ⟨i0, hi0, hz0, hz1, hz2⟩ := info_parts infoVoD
      obtain ⟨xs, hown, hvx⟩ := HU.out.vol
      have k1 : w4.cell? ⟨gO, 1, none⟩ = some (.slice ao vs.length co) := HU.out.out.cell 1
      have hlow : w.heap.size ≤ w4.heap.size := HU.out.gb.size
      have hO4 := HU.out.out.lt
      have hBa : Below w4.heap.size w4 ((w4.drew.alloc (.cells zer9 36)).alloc (.cells #[.string ⟨#[65]⟩, .slice (some ⟨w4.heap.size, 0, none⟩) 3 3] 34)) := ((Below.refl _ _).drew.alloc (Nat.le_refl _) _).alloc (by simp) _
      have hown' := own_below hown hBa
      have hnews := news_two (w4.drew.alloc (.cells zer9 36)) (.string ⟨#[65]⟩) (.slice (some ⟨w4.heap.size, 0, none⟩) 3 3) 34 (w4.heap.size + 1) (by simp)
      have hbase : w.heap.size ≤ ((w4.drew.alloc (.cells zer9 36)).alloc (.cells #[.string ⟨#[65]⟩, .slice (some ⟨w4.heap.size, 0, none⟩) 3 3] 34)).heap.size := by simp; omega
      have HX := Lib.hid (fun g4 cap4 w9 h4 hg4 => und_more (g4 := g4) (cap4 := cap4) (w4 := w9) (nm := ⟨#[65]⟩) hBlt hgO1 (HU.out.grow hBlt hgO1 (grown_of hBa _) (PtrDrawn.rd HU.out.rd hBa)) (Nat.le_refl _) ((hvx.kept (grown_of hBa none) fr_none).wide hBa.size) hown' (by decide) (tpt_new w4.drew w.heap.size hlow _) rfl h4 hg4)
      clear HU hown hvx hBa
      go_wp2_with fail
      go_region_law (first
        | (refine step_append_lies _ (by rfl) _ _ _ (by rfl) w.heap.size 34 i0 _ 2 40 Try.underlying23 hi0 hz0 hz1 hz2 rfl (by omega) _ vs.length xs (by rfl) hown' ⟨_, 0, none⟩ 1 1 [.string ⟨#[65]⟩, .slice (some ⟨w4.heap.size, 0, none⟩) 3 3] (by rfl) rfl hnews (by simp [Value.oneCell']) (by omega) (by simp [maxLen]; omega) (by omega) hbase _ rfl ?_; intro g4 cap4 w9 hown4 hgrow4 hat4 hlt4; obtain ⟨⟨yy, hy⟩, hfy, hUn⟩ := HX.out g4 cap4 w9 hown4 hgrow4; have HUn := Lib.hid hUn; clear hown4 hgrow4 hat4 hlt4 hUn))
      all_goals
        generalize hW9 : w9.setCell ⟨gO, 1, none⟩ (.slice (some ⟨g4, 0, none⟩) (vs.length + 1) cap4) = W9 at HUn ⊢
        clear hW9
        have kk0 : W9.cell? ⟨gO, 0, none⟩ = some (.int .i64 t) := HUn.out.out.cell 0
        have kk1 : W9.cell? ⟨gO, 1, none⟩ = some (.slice (some ⟨g4, 0, none⟩) (vs.length + 1) cap4) := HUn.out.out.cell 1
        have m0 : W9.cell? ⟨w.heap.size, 0, none⟩ = some (.int .i64 0) := HUn.out.res.cell 0
        have m1 : W9.cell? ⟨w.heap.size, 1, none⟩ = some (.slice none 0 0) := HUn.out.res.cell 1
        have f0 := HUn.out.res.frozen 0
        have f1 := HUn.out.res.frozen 1
        have HE := Lib.hid (und_end HUn.out hBlt (Nat.le_refl _))
        go_wp2
        exact bodyPost_ret (v := .agg #[.int .i64 t, .slice (some ⟨g4, 0, none⟩) (vs.length + 1) cap4]) (by simp [results, Try.results42, go_sem, m0, m1]) rfl ⟨t, _, _, q + 2, rfl, HE.out.1.lv, by simp; omega, by omega, HE.out.2.1, HE.out.2.2⟩
    · -- a block less
      by_cases hv0 : vs = []
      · subst hv0
        have k1 : w4.cell? ⟨gO, 1, none⟩ = some (.slice ao 0 co) := HU.out.out.cell 1
        have k0 : w4.cell? ⟨gO, 0, none⟩ = some (.int .i64 t) := HU.out.out.cell 0
        have m0 : w4.cell? ⟨w.heap.size, 0, none⟩ = some (.int .i64 0) := HU.out.res.cell 0
        have m1 : w4.cell? ⟨w.heap.size, 1, none⟩ = some (.slice none 0 0) := HU.out.res.cell 1
        have f0 := HU.out.res.frozen 0
        have f1 := HU.out.res.frozen 1
        have HE := Lib.hid (und_end HU.out hBlt (Nat.le_refl _))
        go_wp2
        exact bodyPost_ret (v := .agg #[.int .i64 t, .slice ao 0 co]) (by simp [results, Try.results42, go_sem, m0, m1]) rfl ⟨t, _, [], q + 2, rfl, HE.out.1.lv, by simp, by omega, HE.out.2.1, HE.out.2.2⟩
      · have hvl : 0 < vs.length := List.length_pos_iff.2 hv0
        have hvi : (0 : Int) < (vs.length : Int) := by omega
        rcases HU.out.vol.cells with hc | ⟨b, rfl, hc⟩
        · exact absurd hc hv0
        have k0 : w4.cell? ⟨gO, 0, none⟩ = some (.int .i64 t) := HU.out.out.cell 0
        have k1 : w4.cell? ⟨gO, 1, none⟩ = some (.slice (some ⟨b, 0, none⟩) vs.length co) := HU.out.out.cell 1
        have hup := HU.out.vol.up HU.out.res
        obtain ⟨rb, uc, y1, hu3, hum, fy, hlb, vs', hl', hLV⟩ := off2 hup hvl
        obtain ⟨xs, ho, _⟩ := HU.out.vol
        have hbO := bx_vol HU.out.out ho
        have hbR := bx_vol HU.out.res ho
        have hneO : gO ≠ b := fun e => hbO (by rw [e]; rfl)
        have hgs := gset w4 b 1 (.slice (some ⟨rb, 3, none⟩) 2 (uc - 1))
        have hgR : (w4.setCell ⟨b, 1, none⟩ (.slice (some ⟨rb, 3, none⟩) 2 (uc - 1))).grownBy (((w4.setCell ⟨b, 1, none⟩ (.slice (some ⟨rb, 3, none⟩) 2 (uc - 1))).setCell ⟨w.heap.size, 0, none⟩ (.int .i64 t)).setCell ⟨w.heap.size, 1, none⟩ (.slice (some ⟨b, 0, none⟩) vs.length co)) (some w.heap.size) := (gset _ _ _ _).trans (gset _ _ _ _)
        have HE := Lib.hid ((hLV.kept hgR (fun b e => by cases e; omega)).low (Nat.le_succ _))
        have HR := Lib.hid ((HU.out.rd.kept hgs (fun i e => by cases e; omega)).kept hgR (fun i e => by cases e; omega))
        have HG := Lib.hid ((HU.out.gb.andThen hgs (fun i e => .inl (by cases e; omega))).andThen hgR (fun i e => .inl (by cases e; omega)))
        have hbX := HU.out.res.kept hgs hbR
        have hbY := HU.out.out.kept hgs hbO
        have kk0 : (w4.setCell ⟨b, 1, none⟩ (.slice (some ⟨rb, 3, none⟩) 2 (uc - 1))).cell? ⟨gO, 0, none⟩ = some (.int .i64 t) := hbY.cell 0
        have kk1 : (w4.setCell ⟨b, 1, none⟩ (.slice (some ⟨rb, 3, none⟩) 2 (uc - 1))).cell? ⟨gO, 1, none⟩ = some (.slice (some ⟨b, 0, none⟩) vs.length co) := hbY.cell 1
        have m0 : (w4.setCell ⟨b, 1, none⟩ (.slice (some ⟨rb, 3, none⟩) 2 (uc - 1))).cell? ⟨w.heap.size, 0, none⟩ = some (.int .i64 0) := hbX.cell 0
        have m1 : (w4.setCell ⟨b, 1, none⟩ (.slice (some ⟨rb, 3, none⟩) 2 (uc - 1))).cell? ⟨w.heap.size, 1, none⟩ = some (.slice none 0 0) := hbX.cell 1
        have f0 := hbX.frozen 0
        have f1 := hbX.frozen 1
        have hui : (1 : Int) ≤ (uc : Int) ∧ (3 : Int) ≤ (uc : Int) := by omega
        clear HU hup hLV ho hgs hgR hc hbX hbY
        go_wp2_with fail
        go_region_law (fail)
        all_goals
          go_wp2
          exact bodyPost_ret (v := .agg #[.int .i64 t, .slice (some ⟨b, 0, none⟩) vs.length co]) (by simp [results, Try.results42, go_sem, m0, m1]) rfl ⟨t, _, vs', q + 2, rfl, HE.out, by omega, by omega, HR.out, HG.out.trans (grown_of (Below.refl _ _).drew _)⟩
    · -- another pointer
      by_cases hv0 : vs = []
      · subst hv0
        have k1 : w4.cell? ⟨gO, 1, none⟩ = some (.slice ao 0 co) := HU.out.out.cell 1
        have k0 : w4.cell? ⟨gO, 0, none⟩ = some (.int .i64 t) := HU.out.out.cell 0
        have m0 : w4.cell? ⟨w.heap.size, 0, none⟩ = some (.int .i64 0) := HU.out.res.cell 0
        have m1 : w4.cell? ⟨w.heap.size, 1, none⟩ = some (.slice none 0 0) := HU.out.res.cell 1
        have f0 := HU.out.res.frozen 0
        have f1 := HU.out.res.frozen 1
        have HE := Lib.hid (und_end HU.out hBlt (Nat.le_refl _))
        go_wp2
        exact bodyPost_ret (v := .agg #[.int .i64 t, .slice ao 0 co]) (by simp [results, Try.results42, go_sem, m0, m1]) rfl ⟨t, _, [], q + 2, rfl, HE.out.1.lv, by simp, by omega, HE.out.2.1, HE.out.2.2⟩
      · have hvl : 0 < vs.length := List.length_pos_iff.2 hv0
        have hvi : (0 : Int) < (vs.length : Int) := by omega
        rcases HU.out.vol.cells with hc | ⟨b, rfl, hc⟩
        · exact absurd hc hv0
        have k1 : w4.cell? ⟨gO, 1, none⟩ = some (.slice (some ⟨b, 0, none⟩) vs.length co) := HU.out.out.cell 1
        obtain ⟨rb, uc, y1, hu3, hum, _, hlb, _⟩ := off2 HU.out.vol hvl
        have HRd := Lib.hid HU.out.rd.drew
        have hBb : b ≠ B := by omega
        have hOB : gO ≠ B := by omega
        clear hc
        go_wp2_with fail
        go_region_law (first
          | (go_simp; go_at_call 65; refine (l71Some_any n₀ B (q + 2) n _ (by omega) Hn.out HRd.out).mono ?_; rintro e w5 ⟨d5, v5, q5, rfl, hl5, hd5, hq5, hR5, hg5⟩; have hgT : w4.grownBy w5 (some B) := (grown_of (Below.refl _ _).drew _).trans hg5; have HU5 := Lib.hid (HU.out.grow hBlt hgO1 hgT hR5); have x1 : w5.cell? ⟨gO, 1, none⟩ = some (.slice (some ⟨b, 0, none⟩) vs.length co) := HU5.out.out.cell 1; have x2 := hgT.cell (a := ⟨b, 1, none⟩) y1 (fun e => hBb (by injection e)); obtain ⟨⟨s0, s1, s2, p0, p1, p2⟩, pf, hTR, hlr, hhr, hst⟩ := off3 ((HU.out.vol.up HU.out.res).kept hgT (fr_low (by omega))) hvl x2; obtain ⟨vs', hl', hLV⟩ := hst d5.size d5.sum v5 d5.places hl5; have pf0 := pf 0; have pf1 := pf 1; have pf2 := pf 2; have HLV := Lib.hid hLV; have Hpf := Lib.hid pf; obtain ⟨av, cv, rfl, _⟩ := hl5; clear pf hst hLV hR5 hg5))
        all_goals
          generalize hv5 : Value.slice av d5.places.length cv = v5 at HLV ⊢
          obtain ⟨W, hW⟩ : ∃ W, W = ((w5.setCell ⟨rb, 0, none⟩ (.int .i64 d5.size)).setCell ⟨rb, 1, none⟩ (.int .i64 d5.sum)).setCell ⟨rb, 2, none⟩ v5 := ⟨_, rfl⟩
          have hgs : w5.grownBy W (some rb) := by rw [hW]; exact ((gset _ _ _ _).trans (gset _ _ _ _)).trans (gset _ _ _ _)
          rw [← hW] at HLV ⊢
          clear hW
          have hbX := HU5.out.res.kept hgs (fun e => by injection e with e; omega)
          have hbY := HU5.out.out.kept hgs (fun e => by injection e with e; subst e; have := hTR.one HU5.out.out.isT; simp at this)
          have kk0 : W.cell? ⟨gO, 0, none⟩ = some (.int .i64 t) := hbY.cell 0
          have kk1 : W.cell? ⟨gO, 1, none⟩ = some (.slice (some ⟨b, 0, none⟩) vs.length co) := hbY.cell 1
          have m0 : W.cell? ⟨w.heap.size, 0, none⟩ = some (.int .i64 0) := hbX.cell 0
          have m1 : W.cell? ⟨w.heap.size, 1, none⟩ = some (.slice none 0 0) := hbX.cell 1
          have f0 := hbX.frozen 0
          have f1 := hbX.frozen 1
          have hgR : W.grownBy ((W.setCell ⟨w.heap.size, 0, none⟩ (.int .i64 t)).setCell ⟨w.heap.size, 1, none⟩ (.slice (some ⟨b, 0, none⟩) vs.length co)) (some w.heap.size) := (gset _ _ _ _).trans (gset _ _ _ _)
          have HE := Lib.hid ((HLV.out.kept hgR (fun b e => by cases e; omega)).low (Nat.le_succ _))
          have HR := Lib.hid ((HU5.out.rd.kept hgs (fun i e => by cases e; omega)).kept hgR (fun i e => by cases e; omega))
          have HG := Lib.hid ((HU5.out.gb.andThen hgs (fun i e => .inl (by cases e; omega))).andThen hgR (fun i e => .inl (by cases e; omega)))
          clear hbX hbY HU HU5 HLV hgs hgR
          go_wp2
          exact bodyPost_ret (v := .agg #[.int .i64 t, .slice (some ⟨b, 0, none⟩) vs.length co]) (by simp [results, Try.results42, go_sem, m0, m1]) rfl ⟨t, _, vs', q5, rfl, HE.out, by omega, by omega, HR.out, HG.out⟩
    · -- a volume twice
      by_cases hv0 : vs = []
      · subst hv0
        have k1 : w4.cell? ⟨gO, 1, none⟩ = some (.slice ao 0 co) := HU.out.out.cell 1
        have k0 : w4.cell? ⟨gO, 0, none⟩ = some (.int .i64 t) := HU.out.out.cell 0
        have m0 : w4.cell? ⟨w.heap.size, 0, none⟩ = some (.int .i64 0) := HU.out.res.cell 0
        have m1 : w4.cell? ⟨w.heap.size, 1, none⟩ = some (.slice none 0 0) := HU.out.res.cell 1
        have f0 := HU.out.res.frozen 0
        have f1 := HU.out.res.frozen 1
        have HE := Lib.hid (und_end HU.out hBlt (Nat.le_refl _))
        go_wp2
        exact bodyPost_ret (v := .agg #[.int .i64 t, .slice ao 0 co]) (by simp [results, Try.results42, go_sem, m0, m1]) rfl ⟨t, _, [], q + 2, rfl, HE.out.1.lv, by simp, by omega, HE.out.2.1, HE.out.2.2⟩
      · have hvl : 0 < vs.length := List.length_pos_iff.2 hv0
        have hvi : (0 : Int) < (vs.length : Int) := by omega
        obtain ⟨i0, hi0, hz0, hz1, hz2⟩ := info_parts infoVoD
        rcases HU.out.vol.cells with hc | ⟨b, rfl, hc⟩
        · exact absurd hc hv0
        obtain ⟨c0, u, c1, hu⟩ := hc 0 hvl
        obtain ⟨xs, hown, hvx⟩ := HU.out.vol
        obtain ⟨_, hnm, _, _, _, hl3⟩ := hvx 0 hvl
        rw [Nat.zero_mul, Nat.zero_add] at c0 c1
        generalize (vs.getD 0 vol0).name = nm at c0 hnm
        generalize (vs.getD 0 vol0).blocks = bs at hu hl3
        have hus : ∃ a c, u = .slice a 3 c := by obtain ⟨a, c, e, _⟩ := hu; exact ⟨a, c, by rw [e, hl3]⟩
        obtain ⟨ua, uc, rfl⟩ := hus
        have k1 : w4.cell? ⟨gO, 1, none⟩ = some (.slice (some ⟨b, 0, none⟩) vs.length co) := HU.out.out.cell 1
        have hlow : w.heap.size ≤ w4.heap.size := HU.out.gb.size
        have hO4 := HU.out.out.lt
        have hBa : Below w4.heap.size w4 (w4.drew.alloc (.cells #[.string nm, .slice ua 3 uc] 34)) := (Below.refl _ _).drew.alloc (Nat.le_refl _) _
        have hown' := own_below hown hBa
        have hnews := news_two w4.drew (.string nm) (.slice ua 3 uc) 34 w4.heap.size rfl
        have hbase : w.heap.size ≤ (w4.drew.alloc (.cells #[.string nm, .slice ua 3 uc] 34)).heap.size := by simp; omega
        have HX := Lib.hid (fun g4 cap4 w9 h4 hg4 => und_more (g4 := g4) (cap4 := cap4) (w4 := w9) (nm := nm) hBlt hgO1 (HU.out.grow hBlt hgO1 (grown_of hBa _) (PtrDrawn.rd HU.out.rd hBa)) (Nat.le_refl _) ((hvx.kept (grown_of hBa none) fr_none).wide hBa.size) hown' hnm ((hu.kept (grown_of hBa none) fr_none).wide hBa.size) hl3 h4 hg4)
        clear HU hown hvx hBa hc hu hl3
        go_wp2_with fail
        go_region_law (first
          | (refine step_append_lies _ (by rfl) _ _ _ (by rfl) w.heap.size 34 i0 _ 2 40 Try.underlying23 hi0 hz0 hz1 hz2 rfl (by omega) _ vs.length xs (by rfl) hown' ⟨_, 0, none⟩ 1 1 [.string nm, .slice ua 3 uc] (by rfl) rfl hnews (by simp [Value.oneCell']) (by omega) (by simp [maxLen]; omega) (by omega) hbase _ rfl ?_; intro g4 cap4 w9 hown4 hgrow4 hat4 hlt4; obtain ⟨⟨yy, hy⟩, hfy, hUn⟩ := HX.out g4 cap4 w9 hown4 hgrow4; have HUn := Lib.hid hUn; clear hown4 hgrow4 hat4 hlt4 hUn))
        all_goals
          generalize hW9 : w9.setCell ⟨gO, 1, none⟩ (.slice (some ⟨g4, 0, none⟩) (vs.length + 1) cap4) = W9 at HUn ⊢
          clear hW9
          have kk0 : W9.cell? ⟨gO, 0, none⟩ = some (.int .i64 t) := HUn.out.out.cell 0
          have kk1 : W9.cell? ⟨gO, 1, none⟩ = some (.slice (some ⟨g4, 0, none⟩) (vs.length + 1) cap4) := HUn.out.out.cell 1
          have m0 : W9.cell? ⟨w.heap.size, 0, none⟩ = some (.int .i64 0) := HUn.out.res.cell 0
          have m1 : W9.cell? ⟨w.heap.size, 1, none⟩ = some (.slice none 0 0) := HUn.out.res.cell 1
          have f0 := HUn.out.res.frozen 0
          have f1 := HUn.out.res.frozen 1
          have HE := Lib.hid (und_end HUn.out hBlt (Nat.le_refl _))
          go_wp2
          exact bodyPost_ret (v := .agg #[.int .i64 t, .slice (some ⟨g4, 0, none⟩) (vs.length + 1) cap4]) (by simp [results, Try.results42, go_sem, m0, m1]) rfl ⟨t, _, _, q + 2, rfl, HE.out.1.lv, by simp; omega, by omega, HE.out.2.1, HE.out.2.2⟩
    · -- too many
      have hv4' : vs.length ≤ 5 := by omega
      go_wp2_with fail
      go_loopw [] (fun wr => ∃ (a' : Option Addr) (c' : Nat) (vs' : List VolD), vs'.length ≤ 5 ∧ Hid (Und n₀ B (q + 2) w.heap.size gO t (.slice a' vs'.length c') vs' w wr)) (fun wr => 5 - volLen gO wr)
      case atStart => exact ⟨ao, co, vs, hv4', HU⟩
      case round =>
        clear HU hv4 hv4' hco
        obtain ⟨a', c', vs', hl5, hU⟩ := hrel
        have hm := Lib.hid (und_len hU.out)
        have k1 : wr.cell? ⟨gO, 1, none⟩ = some (.slice a' vs'.length c') := hU.out.out.cell 1
        by_cases hlt : vs'.length ≤ 4
        · have hli : (vs'.length : Int) ≤ 4 := by omega
          go_upto_region 6 with (fail)
          obtain ⟨i0, hi0, hz0, hz1, hz2⟩ := info_parts infoVoD
          have hlow : w.heap.size ≤ wr.heap.size := hU.out.gb.size
          have hw5 : IntKind.i64.wrap (107 + (vs'.length : Int)) = 107 + (vs'.length : Int) := by rw [IntKind.wrap_i64]; omega
          have hw6 : IntKind.u8.wrap (107 + (vs'.length : Int)) = 107 + (vs'.length : Int) := by rw [IntKind.wrap_u8]; omega
          have hmk := make3
          obtain ⟨xs, hown, hvx⟩ := hU.out.vol
          refine wp_region_any (by kernel_rfl) ?_
          refine wpAny_closed (TooJ (fun v0 v1 v2 v3 v4 v5 v6 v7 v8 v9 v10 v11 v12 v13 => { tmps := #[.pointer (some ⟨B, 0, none⟩), .int .i64 n, undef, undef, .pointer (some ⟨w.heap.size, 0, none⟩), .pointer (some ⟨gO, 0, none⟩), .pointer (some ⟨B, 0, none⟩), .int .i64 n, .agg #[.int .i64 t, .slice ao vs.length co], .pointer (some ⟨B, 0, none⟩), .int .i64 0, .bool false, undef, .pointer (some ⟨B, 0, none⟩), .int .i64 5, .pointer (some ⟨gO, 1, none⟩), .slice a' vs'.length c', .int .i64 (vs'.length : Int), .bool true, v0, v1, v2, v3, v4, v5, v6, v7, v8, v9, v10, v11, v12, v13, .bool false, .bool false, undef, undef, undef, undef, undef, undef, .bool false, .bool false, undef, undef, undef, undef, undef, undef, undef, .bool false, .bool false, undef, undef, undef, undef, undef, undef, undef, undef, undef, undef, undef, undef, undef, undef, .bool false, .bool false, undef, undef, undef, undef, undef, undef, undef, undef, undef, undef, undef, undef, undef, .bool false, .bool false, undef, undef, undef, undef, undef, undef, undef, undef, undef, undef, undef, undef, undef, undef], defers := [] }) n₀ B (q + 2) w.heap.size gO t a' c' vs' w wr) ?_ ?_ _ _ _ _ (by decide) (closed_none _) ?_
          · intro l a wx hJ hC hr
            obtain ⟨hsz, v0, v1, v2, v3, v4, v5, v6, v7, v8, v9, v10, v11, v12, v13, rfl, hP⟩ := hJ
            have h14 : l.getD 14 false = true := by
              rcases ready_nil (by kernel_rfl) hr 14 (by decide) with h | h
              · exact h
              · rw [Array.getD_eq_getD_getElem?, Array.getElem?_eq_getElem (by omega)] at h ⊢
                exact h
            have h12 : l.getD 12 false = true := (fun hh => by first | exact dep_of 0 hC hh (show _ = some _ from rfl) rfl rfl | exact dep_of 1 hC hh (show _ = some _ from rfl) rfl rfl | exact dep_of 2 hC hh (show _ = some _ from rfl) rfl rfl | exact dep_of 3 hC hh (show _ = some _ from rfl) rfl rfl : l.getD 14 false = true → l.getD 12 false = true) h14
            rcases hP with ⟨h, _⟩ | ⟨_, h, _⟩ | ⟨_, g4, cap4, nm, bs, hUn⟩
            · exact absurd (h12.symm.trans h) (by decide)
            · exact absurd (h14.symm.trans h) (by decide)
            · have hm2 := und_len hUn
              have hm1 := hm.out
              try dsimp only
              go_wp2
              have hle : vs'.length + 1 = (vs' ++ [VolD.mk nm bs]).length := by simp
              exact ⟨⟨some ⟨g4, 0, none⟩, cap4, vs' ++ [⟨nm, bs⟩], by simp; omega, hle ▸ hUn⟩, by omega⟩
          · intro l a wx i' hJ hC hi
            obtain ⟨hlt', hnl, _⟩ := ready_spec hi
            obtain ⟨hsz, v0, v1, v2, v3, v4, v5, v6, v7, v8, v9, v10, v11, v12, v13, rfl, hP⟩ := hJ
            have hnl' := gd_not hnl
            have e1_0 : l.getD 1 false = true → l.getD 0 false = true := fun hh => by first | exact dep_of 0 hC hh (show _ = some _ from rfl) rfl rfl | exact dep_of 1 hC hh (show _ = some _ from rfl) rfl rfl | exact dep_of 2 hC hh (show _ = some _ from rfl) rfl rfl | exact dep_of 3 hC hh (show _ = some _ from rfl) rfl rfl
            have e3_2 : l.getD 3 false = true → l.getD 2 false = true := fun hh => by first | exact dep_of 0 hC hh (show _ = some _ from rfl) rfl rfl | exact dep_of 1 hC hh (show _ = some _ from rfl) rfl rfl | exact dep_of 2 hC hh (show _ = some _ from rfl) rfl rfl | exact dep_of 3 hC hh (show _ = some _ from rfl) rfl rfl
            have e4_3 : l.getD 4 false = true → l.getD 3 false = true := fun hh => by first | exact dep_of 0 hC hh (show _ = some _ from rfl) rfl rfl | exact dep_of 1 hC hh (show _ = some _ from rfl) rfl rfl | exact dep_of 2 hC hh (show _ = some _ from rfl) rfl rfl | exact dep_of 3 hC hh (show _ = some _ from rfl) rfl rfl
            have e5_4 : l.getD 5 false = true → l.getD 4 false = true := fun hh => by first | exact dep_of 0 hC hh (show _ = some _ from rfl) rfl rfl | exact dep_of 1 hC hh (show _ = some _ from rfl) rfl rfl | exact dep_of 2 hC hh (show _ = some _ from rfl) rfl rfl | exact dep_of 3 hC hh (show _ = some _ from rfl) rfl rfl
            have e6_5 : l.getD 6 false = true → l.getD 5 false = true := fun hh => by first | exact dep_of 0 hC hh (show _ = some _ from rfl) rfl rfl | exact dep_of 1 hC hh (show _ = some _ from rfl) rfl rfl | exact dep_of 2 hC hh (show _ = some _ from rfl) rfl rfl | exact dep_of 3 hC hh (show _ = some _ from rfl) rfl rfl
            have e7_6 : l.getD 7 false = true → l.getD 6 false = true := fun hh => by first | exact dep_of 0 hC hh (show _ = some _ from rfl) rfl rfl | exact dep_of 1 hC hh (show _ = some _ from rfl) rfl rfl | exact dep_of 2 hC hh (show _ = some _ from rfl) rfl rfl | exact dep_of 3 hC hh (show _ = some _ from rfl) rfl rfl
            have e8_7 : l.getD 8 false = true → l.getD 7 false = true := fun hh => by first | exact dep_of 0 hC hh (show _ = some _ from rfl) rfl rfl | exact dep_of 1 hC hh (show _ = some _ from rfl) rfl rfl | exact dep_of 2 hC hh (show _ = some _ from rfl) rfl rfl | exact dep_of 3 hC hh (show _ = some _ from rfl) rfl rfl
            have e10_8 : l.getD 10 false = true → l.getD 8 false = true := fun hh => by first | exact dep_of 0 hC hh (show _ = some _ from rfl) rfl rfl | exact dep_of 1 hC hh (show _ = some _ from rfl) rfl rfl | exact dep_of 2 hC hh (show _ = some _ from rfl) rfl rfl | exact dep_of 3 hC hh (show _ = some _ from rfl) rfl rfl
            have e10_9 : l.getD 10 false = true → l.getD 9 false = true := fun hh => by first | exact dep_of 0 hC hh (show _ = some _ from rfl) rfl rfl | exact dep_of 1 hC hh (show _ = some _ from rfl) rfl rfl | exact dep_of 2 hC hh (show _ = some _ from rfl) rfl rfl | exact dep_of 3 hC hh (show _ = some _ from rfl) rfl rfl
            have e11_10 : l.getD 11 false = true → l.getD 10 false = true := fun hh => by first | exact dep_of 0 hC hh (show _ = some _ from rfl) rfl rfl | exact dep_of 1 hC hh (show _ = some _ from rfl) rfl rfl | exact dep_of 2 hC hh (show _ = some _ from rfl) rfl rfl | exact dep_of 3 hC hh (show _ = some _ from rfl) rfl rfl
            have e12_1 : l.getD 12 false = true → l.getD 1 false = true := fun hh => by first | exact dep_of 0 hC hh (show _ = some _ from rfl) rfl rfl | exact dep_of 1 hC hh (show _ = some _ from rfl) rfl rfl | exact dep_of 2 hC hh (show _ = some _ from rfl) rfl rfl | exact dep_of 3 hC hh (show _ = some _ from rfl) rfl rfl
            have e12_11 : l.getD 12 false = true → l.getD 11 false = true := fun hh => by first | exact dep_of 0 hC hh (show _ = some _ from rfl) rfl rfl | exact dep_of 1 hC hh (show _ = some _ from rfl) rfl rfl | exact dep_of 2 hC hh (show _ = some _ from rfl) rfl rfl | exact dep_of 3 hC hh (show _ = some _ from rfl) rfl rfl
            have e14_12 : l.getD 14 false = true → l.getD 12 false = true := fun hh => by first | exact dep_of 0 hC hh (show _ = some _ from rfl) rfl rfl | exact dep_of 1 hC hh (show _ = some _ from rfl) rfl rfl | exact dep_of 2 hC hh (show _ = some _ from rfl) rfl rfl | exact dep_of 3 hC hh (show _ = some _ from rfl) rfl rfl
            have e14_13 : l.getD 14 false = true → l.getD 13 false = true := fun hh => by first | exact dep_of 0 hC hh (show _ = some _ from rfl) rfl rfl | exact dep_of 1 hC hh (show _ = some _ from rfl) rfl rfl | exact dep_of 2 hC hh (show _ = some _ from rfl) rfl rfl | exact dep_of 3 hC hh (show _ = some _ from rfl) rfl rfl
            have all12 : l.getD 12 false = true → ∀ j, j < 12 → l.getD j false = true := fun h j hj => by
              have h1 := e12_1 h
              have h11 := e12_11 h
              have h10 := e11_10 h11
              have h8 := e10_8 h10
              have h9 := e10_9 h10
              have h7 := e8_7 h8
              have h6 := e7_6 h7
              have h5 := e6_5 h6
              have h4 := e5_4 h5
              have h3 := e4_3 h4
              have h2 := e3_2 h3
              have h0 := e1_0 h1
              match j, hj with
              | 0, _ => exact h0
              | 1, _ => exact h1
              | 2, _ => exact h2
              | 3, _ => exact h3
              | 4, _ => exact h4
              | 5, _ => exact h5
              | 6, _ => exact h6
              | 7, _ => exact h7
              | 8, _ => exact h8
              | 9, _ => exact h9
              | 10, _ => exact h10
              | 11, _ => exact h11
            have hi15 : i' < 15 := hlt'
            rcases hP with ⟨h12, hA⟩ | ⟨h12, h14, hp13, g4, cap4, nm, bs, rfl, ⟨yy, hy⟩, hfy, hUn⟩ | ⟨h14, _⟩
            · have hbx := cell_below hA.bl k1
              have hi' : i' = 0 ∨ i' = 1 ∨ i' = 2 ∨ i' = 3 ∨ i' = 4 ∨ i' = 5 ∨ i' = 6 ∨ i' = 7 ∨ i' = 8 ∨ i' = 9 ∨ i' = 10 ∨ i' = 11 ∨ i' = 12 ∨ i' = 13 ∨ i' = 14 := by omega
              rcases hi' with rfl | rfl | rfl | rfl | rfl | rfl | rfl | rfl | rfl | rfl | rfl | rfl | rfl | rfl | rfl
              · refine wpOp_step (show _ = some _ from rfl) ?_
                intro K' hK'
                go_simp
                exact hK' _ _ ⟨by simpa using hsz, _, v1, v2, v3, v4, v5, v6, v7, v8, v9, v10, v11, v12, v13, rfl, .inl ⟨(gd_ne (by decide)).trans h12, hA.op0⟩⟩
              · have d0 : l.getD 0 false = true := by first | exact dep_at 0 hi (show _ = some _ from rfl) rfl rfl | exact dep_at 1 hi (show _ = some _ from rfl) rfl rfl | exact dep_at 2 hi (show _ = some _ from rfl) rfl rfl | exact dep_at 3 hi (show _ = some _ from rfl) rfl rfl
                obtain rfl := hA.f0 d0
                refine wpOp_step (show _ = some _ from rfl) ?_
                intro K' hK'
                go_simp
                exact hK' _ _ ⟨by simpa using hsz, _, _, v2, v3, v4, v5, v6, v7, v8, v9, v10, v11, v12, v13, rfl, .inl ⟨(gd_ne (by decide)).trans h12, hA.op1⟩⟩
              · refine wpOp_step (show _ = some _ from rfl) ?_
                intro K' hK'
                go_simp
                exact hK' _ _ ⟨by simpa using hsz, v0, v1, _, v3, v4, v5, v6, v7, v8, v9, v10, v11, v12, v13, rfl, .inl ⟨(gd_ne (by decide)).trans h12, hA.op2⟩⟩
              · have d2 : l.getD 2 false = true := by first | exact dep_at 0 hi (show _ = some _ from rfl) rfl rfl | exact dep_at 1 hi (show _ = some _ from rfl) rfl rfl | exact dep_at 2 hi (show _ = some _ from rfl) rfl rfl | exact dep_at 3 hi (show _ = some _ from rfl) rfl rfl
                obtain rfl := hA.f2 d2
                refine wpOp_step (show _ = some _ from rfl) ?_
                intro K' hK'
                go_simp
                exact hK' _ _ ⟨by simpa using hsz, v0, v1, _, _, v4, v5, v6, v7, v8, v9, v10, v11, v12, v13, rfl, .inl ⟨(gd_ne (by decide)).trans h12, hA.op3⟩⟩
              · have d3 : l.getD 3 false = true := by first | exact dep_at 0 hi (show _ = some _ from rfl) rfl rfl | exact dep_at 1 hi (show _ = some _ from rfl) rfl rfl | exact dep_at 2 hi (show _ = some _ from rfl) rfl rfl | exact dep_at 3 hi (show _ = some _ from rfl) rfl rfl
                obtain rfl := hA.f3 d3
                refine wpOp_step (show _ = some _ from rfl) ?_
                intro K' hK'
                go_simp
                exact hK' _ _ ⟨by simpa using hsz, v0, v1, v2, _, _, v5, v6, v7, v8, v9, v10, v11, v12, v13, rfl, .inl ⟨(gd_ne (by decide)).trans h12, hA.op4⟩⟩
              · have d4 : l.getD 4 false = true := by first | exact dep_at 0 hi (show _ = some _ from rfl) rfl rfl | exact dep_at 1 hi (show _ = some _ from rfl) rfl rfl | exact dep_at 2 hi (show _ = some _ from rfl) rfl rfl | exact dep_at 3 hi (show _ = some _ from rfl) rfl rfl
                obtain rfl := hA.f4 d4
                refine wpOp_step (show _ = some _ from rfl) ?_
                intro K' hK'
                go_simp
                try rw [hw5]
                exact hK' _ _ ⟨by simpa using hsz, v0, v1, v2, v3, _, _, v6, v7, v8, v9, v10, v11, v12, v13, rfl, .inl ⟨(gd_ne (by decide)).trans h12, hA.op5⟩⟩
              · have d5 : l.getD 5 false = true := by first | exact dep_at 0 hi (show _ = some _ from rfl) rfl rfl | exact dep_at 1 hi (show _ = some _ from rfl) rfl rfl | exact dep_at 2 hi (show _ = some _ from rfl) rfl rfl | exact dep_at 3 hi (show _ = some _ from rfl) rfl rfl
                obtain rfl := hA.f5 d5
                refine wpOp_step (show _ = some _ from rfl) ?_
                intro K' hK'
                go_simp
                try rw [hw6]
                exact hK' _ _ ⟨by simpa using hsz, v0, v1, v2, v3, v4, _, _, v7, v8, v9, v10, v11, v12, v13, rfl, .inl ⟨(gd_ne (by decide)).trans h12, hA.op6⟩⟩
              · have d6 : l.getD 6 false = true := by first | exact dep_at 0 hi (show _ = some _ from rfl) rfl rfl | exact dep_at 1 hi (show _ = some _ from rfl) rfl rfl | exact dep_at 2 hi (show _ = some _ from rfl) rfl rfl | exact dep_at 3 hi (show _ = some _ from rfl) rfl rfl
                obtain rfl := hA.f6 d6
                refine wpOp_step (show _ = some _ from rfl) ?_
                intro K' hK'
                go_simp
                exact hK' _ _ ⟨by simpa using hsz, v0, v1, v2, v3, v4, v5, _, _, v8, v9, v10, v11, v12, v13, rfl, .inl ⟨(gd_ne (by decide)).trans h12, (hA.al (.cells #[.int .u8 (107 + (vs'.length : Int))] 5)).op7 (Bx.new wx _ _)⟩⟩
              · have d7 : l.getD 7 false = true := by first | exact dep_at 0 hi (show _ = some _ from rfl) rfl rfl | exact dep_at 1 hi (show _ = some _ from rfl) rfl rfl | exact dep_at 2 hi (show _ = some _ from rfl) rfl rfl | exact dep_at 3 hi (show _ = some _ from rfl) rfl rfl
                obtain ⟨g, rfl, hgB⟩ := hA.f7 d7
                have hconv := conv_bx hgB
                refine wpOp_step (show _ = some _ from rfl) ?_
                intro K' hK'
                go_simp
                exact hK' _ _ ⟨by simpa using hsz, v0, v1, v2, v3, v4, v5, v6, _, _, v9, v10, v11, v12, v13, rfl, .inl ⟨(gd_ne (by decide)).trans h12, hA.op8 (by cases hx : l.getD 10 false with | false => rfl | true => exact absurd ((e10_8 hx).symm.trans hnl') (by decide)) (by cases hx : l.getD 11 false with | false => rfl | true => exact absurd ((e10_8 (e11_10 hx)).symm.trans hnl') (by decide)) (by rw [strOfNums_size]; simp)⟩⟩
              · refine wpOp_step (show _ = some _ from rfl) ?_
                intro K' hK'
                go_simp
                exact hK' _ _ ⟨by simpa using hsz, v0, v1, v2, v3, v4, v5, v6, v7, v8, _, v10, v11, v12, v13, rfl, .inl ⟨(gd_ne (by decide)).trans h12, (hA.al (.cells zer9 36)).op9 (by cases hx : l.getD 10 false with | false => rfl | true => exact absurd ((e10_9 hx).symm.trans hnl') (by decide)) (by cases hx : l.getD 11 false with | false => rfl | true => exact absurd ((e10_9 (e11_10 hx)).symm.trans hnl') (by decide)) (or_new wx _ (by have := hA.bl.size; omega))⟩⟩
              · have d8 : l.getD 8 false = true := by first | exact dep_at 0 hi (show _ = some _ from rfl) rfl rfl | exact dep_at 1 hi (show _ = some _ from rfl) rfl rfl | exact dep_at 2 hi (show _ = some _ from rfl) rfl rfl | exact dep_at 3 hi (show _ = some _ from rfl) rfl rfl
                have d9 : l.getD 9 false = true := by first | exact dep_at 0 hi (show _ = some _ from rfl) rfl rfl | exact dep_at 1 hi (show _ = some _ from rfl) rfl rfl | exact dep_at 2 hi (show _ = some _ from rfl) rfl rfl | exact dep_at 3 hi (show _ = some _ from rfl) rfl rfl
                obtain ⟨nm, rfl, hnm⟩ := hA.f8 d8
                obtain ⟨gr, rfl, hgr⟩ := hA.f9 d9
                refine wpOp_step (show _ = some _ from rfl) ?_
                intro K' hK'
                go_simp
                exact hK' _ _ ⟨by simpa using hsz, v0, v1, v2, v3, v4, v5, v6, v7, _, _, _, v11, v12, v13, rfl, .inl ⟨(gd_ne (by decide)).trans h12, hA.op10⟩⟩
              · have d10 : l.getD 10 false = true := by first | exact dep_at 0 hi (show _ = some _ from rfl) rfl rfl | exact dep_at 1 hi (show _ = some _ from rfl) rfl rfl | exact dep_at 2 hi (show _ = some _ from rfl) rfl rfl | exact dep_at 3 hi (show _ = some _ from rfl) rfl rfl
                have d8 := e10_8 d10
                have d9 := e10_9 d10
                obtain ⟨nm, rfl, hnm⟩ := hA.f8 d8
                obtain ⟨gr, rfl, hgr⟩ := hA.f9 d9
                obtain rfl := hA.f10 d10
                refine wpOp_step (show _ = some _ from rfl) ?_
                intro K' hK'
                go_simp
                exact hK' _ _ ⟨by simpa using hsz, v0, v1, v2, v3, v4, v5, v6, v7, _, _, _, _, v12, v13, rfl, .inl ⟨(gd_ne (by decide)).trans h12, (hA.al (.cells #[.string nm, .slice (some ⟨gr, 0, none⟩) 3 3] 34)).op11 (Bx.new wx _ _)⟩⟩
              · have d1 : l.getD 1 false = true := by first | exact dep_at 0 hi (show _ = some _ from rfl) rfl rfl | exact dep_at 1 hi (show _ = some _ from rfl) rfl rfl | exact dep_at 2 hi (show _ = some _ from rfl) rfl rfl | exact dep_at 3 hi (show _ = some _ from rfl) rfl rfl
                have d11 : l.getD 11 false = true := by first | exact dep_at 0 hi (show _ = some _ from rfl) rfl rfl | exact dep_at 1 hi (show _ = some _ from rfl) rfl rfl | exact dep_at 2 hi (show _ = some _ from rfl) rfl rfl | exact dep_at 3 hi (show _ = some _ from rfl) rfl rfl
                have d10 := e11_10 d11
                obtain ⟨nm, rfl, hnm⟩ := hA.f8 (e10_8 d10)
                obtain ⟨gr, rfl, hgr⟩ := hA.f9 (e10_9 d10)
                obtain rfl := hA.f1 d1
                obtain ⟨gv, rfl, hgv⟩ := hA.f11 d11
                have hown' := own_below hown hA.bl
                have hbase : w.heap.size ≤ wx.heap.size := by have := hA.bl.size; omega
                have h13 : l.getD 13 false = false := by
                  cases hx : l.getD 13 false with
                  | false => rfl
                  | true => exact absurd (((fun hh => by first | exact dep_of 12 hC hh (show _ = some _ from rfl) rfl rfl : l.getD 13 false = true → l.getD 12 false = true) hx).symm.trans h12) (by decide)
                have h14 : l.getD 14 false = false := by
                  cases hx : l.getD 14 false with
                  | false => rfl
                  | true => exact absurd ((e14_12 hx).symm.trans h12) (by decide)
                refine wpOp_step (show _ = some _ from rfl) ?_
                intro K' hK'
                refine step_append_lies _ (by rfl) _ _ _ (by rfl) w.heap.size 34 i0 _ 2 40 Try.underlying23 hi0 hz0 hz1 hz2 rfl (by omega) _ vs'.length xs (by rfl) hown' ⟨gv, 0, none⟩ 1 1 [.string nm, .slice (some ⟨gr, 0, none⟩) 3 3] (by rfl) rfl (World.news_of_block hgv) (by simp [Value.oneCell']) (by omega) (by simp [maxLen]; omega) (by omega) hbase _ rfl ?_
                intro g4 cap4 w9 hown4 hgrow4 hat4 hlt4
                have hX := und_more (g4 := g4) (cap4 := cap4) (w4 := w9) (nm := nm) hBlt hgO1 (hU.out.grow hBlt hgO1 (grown_of hA.bl _) (PtrDrawn.rd hU.out.rd hA.bl)) (Nat.le_refl _) ((hvx.kept (grown_of hA.bl none) fr_none).wide hA.bl.size) hown' hnm (hgr.typed hgr.isT.lt) rfl hown4 hgrow4
                exact hK' _ _ ⟨by simpa using hsz, _, _, _, _, _, _, _, _, _, _, _, _, _, _, rfl, .inr (.inl ⟨gd_eq (by omega), (gd_ne (by decide)).trans h14, fun k => absurd ((dn (by decide) k).symm.trans h13) (by decide), g4, cap4, nm, _, rfl, hX.1, hX.2.1, hX.2.2⟩)⟩
              · exact absurd ((by first | exact dep_at 12 hi (show _ = some _ from rfl) rfl rfl : l.getD 12 false = true).symm.trans h12) (by decide)
              · exact absurd ((by first | exact dep_at 0 hi (show _ = some _ from rfl) rfl rfl | exact dep_at 1 hi (show _ = some _ from rfl) rfl rfl | exact dep_at 2 hi (show _ = some _ from rfl) rfl rfl | exact dep_at 3 hi (show _ = some _ from rfl) rfl rfl : l.getD 12 false = true).symm.trans h12) (by decide)
            · have hi' : i' = 13 ∨ i' = 14 := by
                by_cases h : i' < 12
                · exact absurd ((all12 h12 i' h).symm.trans hnl') (by decide)
                · by_cases h' : i' = 12
                  · subst h'; exact absurd (h12.symm.trans hnl') (by decide)
                  · omega
              rcases hi' with rfl | rfl
              · refine wpOp_step (show _ = some _ from rfl) ?_
                intro K' hK'
                go_simp
                exact hK' _ _ ⟨by simpa using hsz, v0, v1, v2, v3, v4, v5, v6, v7, v8, v9, v10, v11, _, _, rfl, .inr (.inl ⟨gd_up h12, (gd_ne (by decide)).trans h14, fun _ => rfl, g4, cap4, nm, bs, rfl, ⟨yy, hy⟩, hfy, hUn⟩)⟩
              · have d13 : l.getD 13 false = true := by first | exact dep_at 0 hi (show _ = some _ from rfl) rfl rfl | exact dep_at 1 hi (show _ = some _ from rfl) rfl rfl | exact dep_at 2 hi (show _ = some _ from rfl) rfl rfl | exact dep_at 3 hi (show _ = some _ from rfl) rfl rfl
                obtain rfl := hp13 d13
                refine wpOp_step (show _ = some _ from rfl) ?_
                intro K' hK'
                go_simp
                exact hK' _ _ ⟨by simpa using hsz, v0, v1, v2, v3, v4, v5, v6, v7, v8, v9, v10, v11, _, _, rfl, .inr (.inr ⟨gd_eq (by omega), g4, cap4, nm, bs, hUn⟩)⟩
            · have h12 := e14_12 h14
              have h13 := e14_13 h14
              by_cases h : i' < 12
              · exact absurd ((all12 h12 i' h).symm.trans hnl') (by decide)
              · by_cases h' : i' = 12
                · subst h'; exact absurd (h12.symm.trans hnl') (by decide)
                · by_cases h' : i' = 13
                  · subst h'; exact absurd (h13.symm.trans hnl') (by decide)
                  · obtain rfl : i' = 14 := by omega
                    exact absurd (h14.symm.trans hnl') (by decide)
          · have no : ∀ j {p : Prop}, (Array.replicate 15 false).getD j false = true → p := fun j p h => absurd ((none_done 15 j).symm.trans h) (by decide)
            exact ⟨by simp, _, _, _, _, _, _, _, _, _, _, _, _, _, _, rfl, .inl ⟨none_done 15 12, ⟨(Below.refl _ _).drew, no 0, no 1, no 2, no 3, no 4, no 5, no 6, no 7, no 8, no 9, no 10, no 11, no 13⟩⟩⟩
        · have hli : decide ((vs'.length : Int) ≤ 4) = false := by simp; omega
          have k0 : wr.cell? ⟨gO, 0, none⟩ = some (.int .i64 t) := hU.out.out.cell 0
          have m0 : wr.cell? ⟨w.heap.size, 0, none⟩ = some (.int .i64 0) := hU.out.res.cell 0
          have m1 : wr.cell? ⟨w.heap.size, 1, none⟩ = some (.slice none 0 0) := hU.out.res.cell 1
          have f0 := hU.out.res.frozen 0
          have f1 := hU.out.res.frozen 1
          have HE := Lib.hid (und_end hU.out hBlt (Nat.le_refl _))
          go_wp2
          exact bodyPost_ret (v := .agg #[.int .i64 t, .slice a' vs'.length c']) (by simp [results, Try.results42, go_sem, m0, m1]) rfl ⟨t, _, vs', q + 2, rfl, HE.out.1.lv, by omega, by omega, HE.out.2.1, HE.out.2.2⟩

end Go.Proofs.Ytlonecgmldjdpaa

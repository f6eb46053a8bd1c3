/- A volume more in a library, of the program. Conditions: none but the row's own bound on sizes. -/
import Derived.Test.YtmmckpjapnkepaaIK
import Derived.Test.YtmmckpjapnkepaaIJ
import Derived.Lib.QuietBelow
namespace Go.Proofs.Ytmmckpjapnkepaa
open Go.RowKit Go.Sort Go.Lib Go.Maps

theorem PlN.not_cells {w : World} {b n : Nat} {ss : List ShD} {k : Nat} (h : PlN w b n ss k) {D : Nat} {cs : Array Value} {t : TypeId} {fr : Nat × Nat} (hb : w.heap[D]? = some (.cells cs t fr)) : b ≠ D := by
  intro e
  obtain ⟨D', ho, _⟩ := h
  obtain ⟨es, ck, he, _⟩ := ho
  rw [← e, he] at hb
  cases hb
theorem PlN.not_own {w : World} {b n : Nat} {ss : List ShD} {k : Nat} (h : PlN w b n ss k) {base K m : Nat} {e : TypeId} {v : Value} {xs : List Value} (ho : w.ownsRow base e K v m xs) (i : Nat) (hi : v.ownBlock = some i) : b ≠ i := by
  obtain ⟨cur, hc⟩ := own_block_type ho i hi
  exact h.not_cells hc
theorem own_map {w w' : World} {b n : Nat} {ss : List ShD} {k : Nat} (h : PlN w b n ss k) (hg : w.grownBy w' (some b)) {base K m : Nat} {e : TypeId} {v : Value} {xs : List Value} (ho : w.ownsRow base e K v m xs) : w'.ownsRow base e K v m xs :=
  own_gb ho hg (fun i hi q => h.not_own ho i q (Option.some.inj hi))
theorem shc_map {w w' : World} {b n : Nat} {ss ss' : List ShD} {k : Nat} (h : PlN w b n ss k) (hg : w.grownBy w' (some b)) {base : Nat} {g : Nat → Nat} {ys : List Value} {j : Nat} (hs : ShC w base ss' g ys j) : ShC w' base ss' g ys j := by
  obtain ⟨c1, c, c2, c3⟩ := hs
  exact ⟨c1, c, c2, own_map h hg c3⟩
theorem PlN.own_kept {w w' : World} {b n : Nat} {ss : List ShD} {k : Nat} (h : PlN w b n ss k) {base K m : Nat} {e : TypeId} {v : Value} {xs : List Value} (ho : w.ownsRow base e K v m xs) (hg : w.grownBy w' v.ownBlock) : PlN w' b n ss k :=
  h.kept hg (fun e => h.not_own ho b e.symm rfl)

set_option linter.unusedSimpArgs false in
set_option maxRecDepth 100000 in
set_option maxHeartbeats 4000000 in
theorem libAdd_any (base D gx cx : Nat) (ss : List ShD) (nm : ByteArray) (xs : List ByteArray) (w0 w : World) (hbs : base ≤ w0.heap.size) (hL : Lib w0 base D ss) (hBw : Below w0.heap.size w0 w) (hok : MdFine ss) (hn : nm.size ≤ maxLen) (hx : OwnTx w w0.heap.size (.slice (some ⟨gx, 0, none⟩) xs.length cx) xs) :
    Calls Try.prog 57 #[.pointer (some ⟨D, 0, none⟩), .agg #[.string nm, .slice (some ⟨gx, 0, none⟩) xs.length cx]] w (DoneLib base D (addTo ss nm xs, addCode ss nm) w) := by
  obtain ⟨i0, hi0, hz0, hz1, hz2⟩ := info_parts infoSh
  obtain ⟨w1, HW, hB1, hK1, hs1⟩ : ∃ w1, w.alloc (.cells #[.string nm, .slice (some ⟨gx, 0, none⟩) xs.length cx] 35) = w1 ∧ Below w.heap.size w w1 ∧ Blk w1 w.heap.size #[.string nm, .slice (some ⟨gx, 0, none⟩) xs.length cx] 35 ∧ w1.heap.size = w.heap.size + 1 :=
    ⟨_, rfl, (Below.refl _ _).alloc (Nat.le_refl _) _, Blk.new _ _ _, by simp⟩
  have hBw1 : Below w0.heap.size w0 w1 := hBw.trans (hB1.mono hBw.size)
  have hL1 := hL.below hBw1
  have hx1 := own_below hx hB1
  have hw0 := hBw.size
  have h4l := hok.1
  obtain ⟨v, bm, n, h1, h2, h3, h4, h5, h6⟩ := hL
  obtain ⟨av, cv, rfl, _⟩ := h5.reads
  obtain ⟨ys, g, k1, k2, k3, k4⟩ := h5.rows
  have HN := Lib.hid (fun W => isName_any nm W hn)
  have KD := Lib.hid (h4.below hBw1 h4.lt)
  have HP := Lib.hid (h6.below hBw1)
  have g0 := cell_regrown (KD.out.cell 1 : w1.cell? ⟨D, 1, none⟩ = some (.map (some bm)))
  have g1 := cell_regrown (hK1.cell 0 : w1.cell? ⟨w.heap.size, 0, none⟩ = some (.string nm))
  have HB1 := Lib.hid (hB1.mono (show base ≤ w.heap.size by omega))
  have HK1 := Lib.hid hK1
  have HL1 := Lib.hid hL1
  clear hB1 hK1 hL1 h4 h5 h6 hBw
  by_cases hh : HasNm ss nm
  · have hlook := fun d os => look_at hok.2.2 (HP.out.below (rg_below (Below.refl _ w1) d os)) (whereSh_at hh) hn
    have HC := Lib.hid (addCode_name (.inl hh))
    have HA : Hid (addTo ss nm xs = ss) := by unfold addTo; rw [if_neg (by rw [HC.out]; decide)]; exact rfl
    generalize whereSh ss nm = k at hlook
    clear hh hok hn k1 k2 k3 k4 hx hx1 HN
    go_enter Try.func57, Try.ntmps57
    go_wp2_with fail
    clear HW
    refine wp_region_quiet_below (by kernel_rfl) (by kernel_rfl) ?_
    repeat (go_big_quiet_step (fail))
    refine wpQuiet_nil ?_
    intro w9 hw9
    have hb : Below w1.heap.size w1 w9 := by obtain ⟨q, rfl⟩ := hw9; exact below_regrown _ _ _
    have HE := Lib.hid (HB1.out.trans (hb.mono (by omega)))
    have HL9 := Lib.hid (HL1.out.below hb)
    clear hw9 g0 g1 hlook hb
    go_wp2
    go_ret
    exact doneLib (by rw [HA.out, HC.out]) rfl HL9.out HE.out
  · have hlook := fun d os => (HP.out.below (rg_below (Below.refl _ w1) d os)).miss hh hn
    by_cases hnm : NameOk nm
    · rw [tt_true hnm] at HN
      by_cases h4 : ss.length = 4
      · have HC := Lib.hid (addCode_full hh hnm h4)
        have HA : Hid (addTo ss nm xs = ss) := by unfold addTo; rw [if_neg (by rw [HC.out]; decide)]; exact rfl
        have d4 : decide ((ss.length : Int) ≥ 4) = true := by simp; omega
        clear hh hok hn k1 k2 k3 k4 hx hx1
        go_enter Try.func57, Try.ntmps57
        go_wp2_with fail
        clear HW
        refine wp_region_quiet_below (by kernel_rfl) (by kernel_rfl) ?_
        repeat (go_big_quiet_step (fail))
        refine wpQuiet_nil ?_
        intro w9 hw9
        have hb : Below w1.heap.size w1 w9 := by obtain ⟨q, rfl⟩ := hw9; exact below_regrown _ _ _
        have HE := Lib.hid (HB1.out.trans (hb.mono (by omega)))
        have HL9 := Lib.hid (HL1.out.below hb)
        have m0 : w9.cell? ⟨D, 0, none⟩ = some (.slice av ss.length cv) := (KD.out.below hb KD.out.lt).cell 0
        have s0 : w9.cell? ⟨w.heap.size, 0, none⟩ = some (.string nm) := (HK1.out.below hb HK1.out.lt).cell 0
        clear hw9 g0 g1 hlook hb
        go_wp2_with fail
        refine (HN.out _).mono ?_
        rintro e w10 ⟨rfl, rfl⟩
        go_wp2
        go_ret
        exact doneLib (by rw [HA.out, HC.out]) rfl HL9.out HE.out
      · have HC := Lib.hid (addCode_ok hh hnm h4)
        have HA : Hid (addTo ss nm xs = ss ++ [⟨nm, xs⟩]) := by unfold addTo; rw [if_pos HC.out]; exact rfl
        have hsz4 : ss.length < 4 := by omega
        have d4 : decide ((ss.length : Int) ≥ 4) = false := by simp; omega
        clear hh hok
        go_enter Try.func57, Try.ntmps57
        go_wp2_with fail
        clear HW
        refine wp_region_quiet_below (by kernel_rfl) (by kernel_rfl) ?_
        repeat (go_big_quiet_step (fail))
        refine wpQuiet_nil ?_
        intro w9 hw9
        have hb : Below w1.heap.size w1 w9 := by obtain ⟨q, rfl⟩ := hw9; exact below_regrown _ _ _
        have hb9 := hBw1.trans (hb.mono hBw1.size)
        have HE := Lib.hid (HB1.out.trans (hb.mono (by omega)))
        have HD9 := Lib.hid (KD.out.below hb KD.out.lt)
        have HS9 := Lib.hid (HK1.out.below hb HK1.out.lt)
        have HX9 := Lib.hid (own_below hx1 hb)
        have HP9 := Lib.hid (HP.out.below hb)
        have HR9 := Lib.hid (own_below k1 hb9)
        have HC9 := Lib.hid (fun j hj => (k2 j hj).below hb9)
        have m0 : w9.cell? ⟨D, 0, none⟩ = some (.slice av ss.length cv) := HD9.out.cell 0
        have m1 : w9.cell? ⟨D, 1, none⟩ = some (.map (some bm)) := HD9.out.cell 1
        have s0 : w9.cell? ⟨w.heap.size, 0, none⟩ = some (.string nm) := HS9.out.cell 0
        have hsb := hb.size
        have k1lt : ∀ i, (Value.slice av ss.length cv).ownBlock = some i → i < w0.heap.size := fun i e => (k1.lt i e).2
        clear hw9 g0 g1 hlook hb hb9 hx hx1 k1 k2 hBw1
        go_wp2_with fail
        refine (HN.out _).mono ?_
        rintro e w10 ⟨rfl, rfl⟩
        have hPa : PlN w9.drew bm n (ss ++ [⟨nm, xs⟩]) ss.length := (HP9.out.below (Below.refl _ _).drew).congr (fun j hj => (nmAt_app hj).symm)
        obtain ⟨w10, hput, hP10, hg10⟩ := hPa.put (by omega) (by omega) (by rw [nmAt_last]; exact hn)
        rw [nmAt_last] at hput
        have hR10 := own_map hPa hg10 (own_below HR9.out (Below.refl _ _).drew)
        have hC10 := fun j hj => shc_map hPa hg10 ((HC9.out j hj).below (Below.refl _ _).drew)
        have hX10 := own_map hPa hg10 (own_below HX9.out (Below.refl _ _).drew)
        have hD10 := (HD9.out.below (Below.refl _ w9).drew HD9.out.lt).gb hg10 (fun e => hPa.not_cells (HD9.out.below (Below.refl _ w9).drew HD9.out.lt) (Option.some.inj e))
        have hS10 := (HS9.out.below (Below.refl _ w9).drew HS9.out.lt).gb hg10 (fun e => hPa.not_cells (HS9.out.below (Below.refl _ w9).drew HS9.out.lt) (Option.some.inj e))
        have hB10 : Below base w w10 := HE.out.drew.grown hg10 (by show base ≤ w9.heap.size; omega) (fun i e => by cases e; exact h2)
        have hg10s := hg10.size
        have hs10 : w0.heap.size ≤ w10.heap.size := by have : w9.drew.heap.size = w9.heap.size := rfl; omega
        have m10 : w10.cell? ⟨D, 0, none⟩ = some (.slice av ss.length cv) := hD10.cell 0
        have s10 : w10.cell? ⟨w.heap.size, 0, none⟩ = some (.string nm) := hS10.cell 0
        have t10 : w10.cell? ⟨w.heap.size, 1, none⟩ = some (.slice (some ⟨gx, 0, none⟩) xs.length cx) := hS10.cell 1
        have hB11 : Below w10.heap.size w10 (w10.alloc (.cells #[.string nm, .slice (some ⟨gx, 0, none⟩) xs.length cx] 35)).drew := ((Below.refl _ _).alloc (Nat.le_refl _) _).drew
        have hown := own_below hR10 hB11
        have hyl : ys.length = ss.length * 2 := hown.1
        have hbt := own_block_type hown
        obtain ⟨g2, cap2, w12, hr2, ho2, hg2, hat2, hl2⟩ := run_append_lies (w10.alloc (.cells #[.string nm, .slice (some ⟨gx, 0, none⟩) xs.length cx] 35)).drew 23 23 base 35 i0 _ 2 40 Try.underlying23 hi0 hz0 hz1 hz2 rfl (by omega) (.slice av ss.length cv) ss.length ys hown
          ⟨w10.heap.size, 0, none⟩ 1 1 [.string nm, .slice (some ⟨gx, 0, none⟩) xs.length cx] rfl (news_two w10 _ _ _ _ rfl) (by simp [Value.oneCell']) (by omega) (by unfold maxLen; omega) (by omega) (by have := hB11.size; omega) _ rfl
        have hD12 : Blk w12 D #[.slice av ss.length cv, .map (some bm)] 93 := (hD10.below hB11 hD10.lt).gb hg2 (own_blk_ne hown (hD10.below hB11 hD10.lt) (by decide))
        have hP12 := (hP10.below hB11).own_kept hown hg2
        have hO12 : OwnSh w12 base (.slice (some ⟨g2, 0, none⟩) (ss.length + 1) cap2) (ss ++ [⟨nm, xs⟩]) :=
          OwnSh.more (w0 := w0) (base' := w0.heap.size) (fun j hj => (hC10 j hj).below hB11) k3 k4 hyl (own_below hX10 hB11) (Nat.le_refl _) hbs ho2 hg2 hbt
        have hE12 : Below base w w12 := (hB10.trans (hB11.mono (by omega))).grown hg2 (by have := hB11.size; omega) (fun i e => (hown.lt i e).1)
        have hne : bm ≠ D := hP12.not_cells hD12
        have HLz : Hid (Lib (w12.setCell ⟨D, 0, none⟩ (.slice (some ⟨g2, 0, none⟩) (ss.length + 1) cap2)) base D (ss ++ [⟨nm, xs⟩])) :=
          ⟨_, bm, n + 1, h1, h2, by simp; omega, hD12.set 0 _, hO12.other hD12 (by decide) (by decide) 0 _, by rw [List.length_append]; exact hP12.setCell (a := ⟨D, 0, none⟩) hne _⟩
        have HEz := Lib.hid (hE12.setCell (p := ⟨D, 0, none⟩) h1 (.slice (some ⟨g2, 0, none⟩) (ss.length + 1) cap2))
        have m11 := cell_below hB11 m10
        have s11 := cell_below hB11 s10
        have t11 := cell_below hB11 t10
        have m12 : w12.cell? ⟨D, 0, none⟩ = some (.slice av ss.length cv) := hD12.cell 0
        have f12 := hD12.frozen 0
        have hSne : w.heap.size < w10.heap.size := by have : w9.drew.heap.size = w9.heap.size := rfl; omega
        have s12 : w12.cell? ⟨w.heap.size, 0, none⟩ = some (.string nm) := (hg2.cell_far ⟨w.heap.size, 0, none⟩ (by show w.heap.size < _; have := hB11.size; omega) (fun e => by have h : w.heap.size < w0.heap.size := k1lt _ e.symm; omega)).trans s11
        have t12 : w12.cell? ⟨w.heap.size, 1, none⟩ = some (.slice (some ⟨gx, 0, none⟩) xs.length cx) := (hg2.cell_far ⟨w.heap.size, 1, none⟩ (by show w.heap.size < _; have := hB11.size; omega) (fun e => by have h : w.heap.size < w0.heap.size := k1lt _ e.symm; omega)).trans t11
        clear hPa hP10 hg10 hR10 hC10 hX10 hD10 hS10 hB10 hB11 hown hbt ho2 hg2 hat2 hl2 hD12 hP12 hO12 hE12 hg10s hyl
        go_wp2_with fail
        refine AnyS.start (S := (fun w' : World => w'.cell? ⟨D, 0, none⟩ = some (.slice av ss.length cv) ∧ w'.cell? ⟨D, 1, none⟩ = some (.map (some bm)) ∧ w'.cell? ⟨w.heap.size, 0, none⟩ = some (.string nm))) (L := 11) (by kernel_rfl) ?_
        refine AnyS.take 0 (show _ = some _ from rfl) rfl (by kernel_rfl) (by kernel_rfl) (by kernel_rfl) (by kernel_rfl) (fun _ _ _ h => h) ⟨m0, m1, s0⟩ (by rfl) (fun w' hSw => by obtain ⟨s1, s2, s3⟩ := hSw; go_simp; try with_reducible rfl) ?_
        try simp only [Act.put, List.setIfInBounds_toArray, List.set_cons_zero, List.set_cons_succ]
        refine AnyS.take 1 (show _ = some _ from rfl) rfl (by kernel_rfl) (by kernel_rfl) (by kernel_rfl) (by kernel_rfl) (fun _ _ _ h => h) ⟨m0, m1, s0⟩ (by rfl) (fun w' hSw => by obtain ⟨s1, s2, s3⟩ := hSw; go_simp; try with_reducible rfl) ?_
        try simp only [Act.put, List.setIfInBounds_toArray, List.set_cons_zero, List.set_cons_succ]
        refine AnyS.take 2 (show _ = some _ from rfl) rfl (by kernel_rfl) (by kernel_rfl) (by kernel_rfl) (by kernel_rfl) (fun _ _ _ h => h) ⟨m0, m1, s0⟩ (by rfl) (fun w' hSw => by obtain ⟨s1, s2, s3⟩ := hSw; go_simp; try with_reducible rfl) ?_
        try simp only [Act.put, List.setIfInBounds_toArray, List.set_cons_zero, List.set_cons_succ]
        refine AnyS.take 3 (show _ = some _ from rfl) rfl (by kernel_rfl) (by kernel_rfl) (by kernel_rfl) (by kernel_rfl) (fun _ _ _ h => h) ⟨m0, m1, s0⟩ (by rfl) (fun w' hSw => by obtain ⟨s1, s2, s3⟩ := hSw; go_simp; try with_reducible rfl) ?_
        try simp only [Act.put, List.setIfInBounds_toArray, List.set_cons_zero, List.set_cons_succ]
        refine AnyS.take 4 (show _ = some _ from rfl) rfl (by kernel_rfl) (by kernel_rfl) (by kernel_rfl) (by kernel_rfl) (fun _ _ _ h => h) ⟨m0, m1, s0⟩ (by rfl) (fun w' hSw => by obtain ⟨s1, s2, s3⟩ := hSw; go_simp; try with_reducible rfl) ?_
        try simp only [Act.put, List.setIfInBounds_toArray, List.set_cons_zero, List.set_cons_succ]
        refine AnyS.take 5 (show _ = some _ from rfl) rfl (by kernel_rfl) (by kernel_rfl) (by kernel_rfl) (by kernel_rfl) (fun _ _ _ h => h) ⟨m0, m1, s0⟩ (by rfl) (fun w' hSw => by obtain ⟨s1, s2, s3⟩ := hSw; go_simp; try with_reducible rfl) ?_
        try simp only [Act.put, List.setIfInBounds_toArray, List.set_cons_zero, List.set_cons_succ]
        refine AnyS.take 6 (show _ = some _ from rfl) rfl (by kernel_rfl) (by kernel_rfl) (by kernel_rfl) (by kernel_rfl) (fun _ _ _ h => h) ⟨m0, m1, s0⟩ (by rfl) (fun w' hSw => by obtain ⟨s1, s2, s3⟩ := hSw; go_simp; try with_reducible rfl) ?_
        try simp only [Act.put, List.setIfInBounds_toArray, List.set_cons_zero, List.set_cons_succ]
        refine AnyS.take 7 (show _ = some _ from rfl) rfl (by kernel_rfl) (by kernel_rfl) (by kernel_rfl) (by kernel_rfl) (fun _ _ _ h => h) ⟨m0, m1, s0⟩ (by rfl) (fun w' hSw => by obtain ⟨s1, s2, s3⟩ := hSw; go_simp; try with_reducible rfl) ?_
        try simp only [Act.put, List.setIfInBounds_toArray, List.set_cons_zero, List.set_cons_succ]
        refine AnyS.take 8 (show _ = some _ from rfl) rfl (by kernel_rfl) (by kernel_rfl) (by kernel_rfl) (by kernel_rfl) (fun _ _ _ h => h) ⟨m0, m1, s0⟩ (by rfl) (fun w' hSw => by obtain ⟨s1, s2, s3⟩ := hSw; go_simp; try with_reducible rfl) ?_
        try simp only [Act.put, List.setIfInBounds_toArray, List.set_cons_zero, List.set_cons_succ]
        refine AnyS.take 9 (show _ = some _ from rfl) rfl (by kernel_rfl) (by kernel_rfl) (by kernel_rfl) (by kernel_rfl) (fun _ _ _ h => h) ⟨m0, m1, s0⟩ (by rfl) (fun w' hSw => by obtain ⟨s1, s2, s3⟩ := hSw; go_simp; try with_reducible rfl) ?_
        try simp only [Act.put, List.setIfInBounds_toArray, List.set_cons_zero, List.set_cons_succ]
        refine AnyS.take 10 (show _ = some _ from rfl) rfl (by kernel_rfl) (by kernel_rfl) (by kernel_rfl) (by kernel_rfl) (fun _ _ _ h => h) ⟨m0, m1, s0⟩ (by rfl) (fun w' hSw => by obtain ⟨s1, s2, s3⟩ := hSw; go_simp; try with_reducible rfl) ?_
        try simp only [Act.put, List.setIfInBounds_toArray, List.set_cons_zero, List.set_cons_succ]
        refine AnyS.one 11 (by kernel_rfl) (show _ = some _ from rfl) (fun K' hK' => ?_)
        go_simp
        refine hK' _ _ ⟨AnyS.done (by kernel_rfl) ?_, fun h => absurd rfl h⟩
        clear hK' K'
        try simp only [Act.put, List.setIfInBounds_toArray, List.set_cons_zero, List.set_cons_succ]
        go_wp2_with fail
        refine AnyS.start (S := (fun w' : World => w'.cell? ⟨D, 0, none⟩ = some (.slice av ss.length cv) ∧ w'.cell? ⟨w.heap.size, 0, none⟩ = some (.string nm) ∧ w'.cell? ⟨w.heap.size, 1, none⟩ = some (.slice (some ⟨gx, 0, none⟩) xs.length cx))) (L := 10) (by kernel_rfl) ?_
        refine AnyS.take 0 (show _ = some _ from rfl) rfl (by kernel_rfl) (by kernel_rfl) (by kernel_rfl) (by kernel_rfl) (fun _ _ _ h => h) ⟨m10, s10, t10⟩ (by rfl) (fun w' hSw => by obtain ⟨s1, s2, s3⟩ := hSw; go_simp; try with_reducible rfl) ?_
        try simp only [Act.put, List.setIfInBounds_toArray, List.set_cons_zero, List.set_cons_succ]
        refine AnyS.take 1 (show _ = some _ from rfl) rfl (by kernel_rfl) (by kernel_rfl) (by kernel_rfl) (by kernel_rfl) (fun _ _ _ h => h) ⟨m10, s10, t10⟩ (by rfl) (fun w' hSw => by obtain ⟨s1, s2, s3⟩ := hSw; go_simp; try with_reducible rfl) ?_
        try simp only [Act.put, List.setIfInBounds_toArray, List.set_cons_zero, List.set_cons_succ]
        refine AnyS.take 2 (show _ = some _ from rfl) rfl (by kernel_rfl) (by kernel_rfl) (by kernel_rfl) (by kernel_rfl) (fun _ _ _ h => h) ⟨m10, s10, t10⟩ (by rfl) (fun w' hSw => by obtain ⟨s1, s2, s3⟩ := hSw; go_simp; try with_reducible rfl) ?_
        try simp only [Act.put, List.setIfInBounds_toArray, List.set_cons_zero, List.set_cons_succ]
        refine AnyS.take 3 (show _ = some _ from rfl) rfl (by kernel_rfl) (by kernel_rfl) (by kernel_rfl) (by kernel_rfl) (fun _ _ _ h => h) ⟨m10, s10, t10⟩ (by rfl) (fun w' hSw => by obtain ⟨s1, s2, s3⟩ := hSw; go_simp; try with_reducible rfl) ?_
        try simp only [Act.put, List.setIfInBounds_toArray, List.set_cons_zero, List.set_cons_succ]
        refine AnyS.take 4 (show _ = some _ from rfl) rfl (by kernel_rfl) (by kernel_rfl) (by kernel_rfl) (by kernel_rfl) (fun _ _ _ h => h) ⟨m10, s10, t10⟩ (by rfl) (fun w' hSw => by obtain ⟨s1, s2, s3⟩ := hSw; go_simp; try with_reducible rfl) ?_
        try simp only [Act.put, List.setIfInBounds_toArray, List.set_cons_zero, List.set_cons_succ]
        refine AnyS.take 5 (show _ = some _ from rfl) rfl (by kernel_rfl) (by kernel_rfl) (by kernel_rfl) (by kernel_rfl) (fun _ _ _ h => h) ⟨m10, s10, t10⟩ (by rfl) (fun w' hSw => by obtain ⟨s1, s2, s3⟩ := hSw; go_simp; try with_reducible rfl) ?_
        try simp only [Act.put, List.setIfInBounds_toArray, List.set_cons_zero, List.set_cons_succ]
        refine AnyS.one 6 (by kernel_rfl) (show _ = some _ from rfl) (fun K' hK' => ?_)
        go_simp
        refine hK' _ _ ⟨?_, fun _ => ⟨m11, s11, t11⟩⟩
        clear hK' K'
        try simp only [Act.put, List.setIfInBounds_toArray, List.set_cons_zero, List.set_cons_succ]
        refine AnyS.one 7 (by kernel_rfl) (show _ = some _ from rfl) (fun K' hK' => step_append_run (by rfl) _ _ _ _ (by rfl) (by rfl) _ _ _ (by rfl) (by rfl) hr2 (hK' _ _ ⟨?_, fun _ => ⟨m12, s12, t12⟩⟩))
        try simp only [Act.put, List.setIfInBounds_toArray, List.set_cons_zero, List.set_cons_succ]
        refine AnyS.one 8 (by kernel_rfl) (show _ = some _ from rfl) (fun K' hK' => ?_)
        go_simp
        refine hK' _ _ ⟨?_, fun _ => ⟨m12, s12, t12⟩⟩
        clear hK' K'
        try simp only [Act.put, List.setIfInBounds_toArray, List.set_cons_zero, List.set_cons_succ]
        refine AnyS.one 9 (by kernel_rfl) (show _ = some _ from rfl) (fun K' hK' => ?_)
        go_simp
        refine hK' _ _ ⟨?_, fun _ => ⟨m12, s12, t12⟩⟩
        clear hK' K'
        try simp only [Act.put, List.setIfInBounds_toArray, List.set_cons_zero, List.set_cons_succ]
        refine AnyS.one 10 (by kernel_rfl) (show _ = some _ from rfl) (fun K' hK' => ?_)
        go_simp
        refine hK' _ _ ⟨AnyS.done (by kernel_rfl) ?_, fun h => absurd rfl h⟩
        clear hK' K'
        try simp only [Act.put, List.setIfInBounds_toArray, List.set_cons_zero, List.set_cons_succ]
        go_wp2
        go_ret
        exact doneLib (by rw [HA.out, HC.out]) rfl HLz.out HEz.out
    · rw [tt_false hnm] at HN
      have HC := Lib.hid (addCode_name (ss := ss) (.inr hnm))
      have HA : Hid (addTo ss nm xs = ss) := by unfold addTo; rw [if_neg (by rw [HC.out]; decide)]; exact rfl
      clear hh hok hn k1 k2 k3 k4 hx hx1
      go_enter Try.func57, Try.ntmps57
      go_wp2_with fail
      clear HW
      refine wp_region_quiet_below (by kernel_rfl) (by kernel_rfl) ?_
      repeat (go_big_quiet_step (fail))
      refine wpQuiet_nil ?_
      intro w9 hw9
      have hb : Below w1.heap.size w1 w9 := by obtain ⟨q, rfl⟩ := hw9; exact below_regrown _ _ _
      have HE := Lib.hid (HB1.out.trans (hb.mono (by omega)))
      have HL9 := Lib.hid (HL1.out.below hb)
      have s0 : w9.cell? ⟨w.heap.size, 0, none⟩ = some (.string nm) := (HK1.out.below hb HK1.out.lt).cell 0
      clear hw9 g0 g1 hlook hb
      go_wp2_with fail
      refine (HN.out _).mono ?_
      rintro e w10 ⟨rfl, rfl⟩
      go_wp2
      go_ret
      exact doneLib (by rw [HA.out, HC.out]) rfl HL9.out HE.out

end Go.Proofs.Ytmmckpjapnkepaa

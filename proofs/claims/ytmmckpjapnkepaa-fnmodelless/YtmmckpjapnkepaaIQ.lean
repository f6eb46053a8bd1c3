/- ModelDrop of the specification. Conditions: none but the row's own bound on sizes. -/
import Derived.Test.YtmmckpjapnkepaaIK
import Derived.Test.YtmmckpjapnkepaaIP
import Derived.ArgAppend
namespace Go.Proofs.Ytmmckpjapnkepaa
open Go.RowKit Go.Sort

theorem shc_one {w : World} {base : Nat} {ss : List ShD} {g : Nat → Nat} {ys : List Value} (hyl : ys.length = ss.length * 2) (k2 : ∀ j, j < ss.length → ShC w base ss g ys j) : ∀ u ∈ ys, u.oneCell' = true := by
  intro u hu
  obtain ⟨i, hi⟩ := List.getElem?_of_mem hu
  have hlt : i < ys.length := (List.getElem?_eq_some_iff.1 hi).1
  obtain ⟨c0, c, c1, _⟩ := k2 (i / 2) (by omega)
  rcases Nat.mod_two_eq_zero_or_one i with h | h
  · rw [show i / 2 * 2 = i by omega, hi] at c0
    cases c0; rfl
  · rw [show i / 2 * 2 + 1 = i by omega, hi] at c1
    cases c1; rfl
/-- The elements behind the one that is taken out are appended to those ahead of it. -/
theorem run_append_del {w : World} {base : Nat} {ss : List ShD} {gs cap k : Nat} {ys : List Value} {g : Nat → Nat} (i0 : TypeInfo) (hi0 : Try.prog.info? 35 = some i0) (hz1 : i0.size = 2) (k1 : w.ownsRow base 35 2 (.slice (some ⟨gs, 0, none⟩) ss.length cap) ss.length ys) (k2 : ∀ j, j < ss.length → ShC w base ss g ys j)
    (hk : k < ss.length) (hcap : ss.length ≤ cap) (o : Nat) (ho : o = (k + 1) * 2 ∨ ss.length = k + 1) (ty : TypeId) (c2 : Nat) :
    (Builtin.append_ #[23, 23] ty #[.slice (some ⟨gs, 0, none⟩) k cap, .slice (some ⟨gs, o, none⟩) (ss.length - (k + 1)) c2]).run Try.prog w = .ok (.slice (some ⟨gs, 0, none⟩) (ss.length - 1) cap) (w.setCells gs (k * 2) (ys.drop ((k + 1) * 2))) := by
  have hyl : ys.length = ss.length * 2 := k1.1
  have hl : (ys.drop ((k + 1) * 2)).length = (ss.length - (k + 1)) * i0.size := by rw [List.length_drop, hyl, hz1]; omega
  have h := run_append_room_cells (P := Try.prog) w 23 ty 35 i0 Try.underlying23 hi0 gs 0 k cap ⟨gs, o, none⟩ (ss.length - (k + 1)) c2 (ys.drop ((k + 1) * 2)) hl
    (fun j u hu => by
      have hj : j < (ys.drop ((k + 1) * 2)).length := (List.getElem?_eq_some_iff.1 hu).1
      rw [List.length_drop, hyl] at hj
      rw [List.getElem?_drop] at hu
      rw [show ((⟨gs, o, none⟩ : Addr).add j) = ⟨gs, o + j, none⟩ from add_plain gs o j]
      rcases ho with rfl | e
      · rw [(own_cell k1 ((k + 1) * 2 + j) (by omega)).1]; exact hu
      · omega)
    (fun u hu => shc_one hyl k2 u (List.mem_of_mem_drop hu)) (by omega)
    (fun j hj => by rw [List.length_drop, hyl] at hj; rw [hz1, Nat.zero_add, (own_cell k1 (k * 2 + j) (by omega)).1, List.getElem?_eq_getElem (by omega)]; rfl)
    (fun j hj => by rw [List.length_drop, hyl] at hj; rw [hz1, Nat.zero_add]; exact (own_cell k1 (k * 2 + j) (by omega)).2.1)
  rw [hz1, Nat.zero_add, show k + (ss.length - (k + 1)) = ss.length - 1 by omega] at h
  exact h

set_option linter.unusedSimpArgs false in
set_option maxRecDepth 100000 in
set_option maxHeartbeats 8000000 in
theorem specDrop_any (a : Option Addr) (cap : Nat) (ss : List ShD) (nm : ByteArray) (w : World) (hs : MdSmall ss) (hx : Hid (ShAt w a ss)) :
    Calls Try.prog 26 #[.agg #[.slice a ss.length cap], .string nm] w (MdDone (dropTo ss nm) w) := by
  obtain ⟨i0, hi0, hz0, hz1, hz2⟩ := info_parts infoSh
  obtain ⟨w0, HW, hB, hKM, hKR, hsz⟩ := two_boxes w (.slice a ss.length cap)
  have HB := Lib.hid hB
  have KM := Lib.hid hKM
  have KR := Lib.hid hKR
  have HX := Lib.hid (hx.out.below hB)
  have HM := Lib.hid (specMdOk_any a cap ss w0 hs HX)
  have m0 : w0.cell? ⟨w.heap.size, 0, none⟩ = some (.slice a ss.length cap) := hKM.cell 0
  have Hsz := Lib.hid hsz
  have hsl := hs.1
  clear hB hKM hKR hsz hs
  by_cases hok : MdFine ss
  · rw [tt_true hok] at HM
    have h4l := hok.1
    have HOK := Lib.hid hok
    have HC := Lib.hid (fun W (h : Below w0.heap.size w0 W) => l14Copy_any a cap ss W hok (HX.out.below h))
    have HG := Lib.hid (fun W (h : Below w0.heap.size w0 W) => l14Find_any a cap ss nm W (by unfold maxLen; omega) (HX.out.below h))
    go_enter Try.func26, Try.ntmps26
    go_wp2_with fail
    clear HW
    refine HM.out.mono ?_
    rintro e w1 ⟨rfl, hB1⟩
    have m1 := cell_below hB1 m0
    have HB1 := Lib.hid hB1
    clear hB1
    go_wp2_with fail
    refine (HC.out _ HB1.out).mono ?_
    rintro e w2 ⟨b2, c2, rfl, hO, hB2⟩
    have m2 := cell_below hB2 m1
    have HB2 := Lib.hid (HB1.out.trans (hB2.mono HB1.out.size))
    have hBa : Below w2.heap.size w2 (w2.alloc (.cells #[.slice b2 ss.length c2] 25)) := (Below.refl _ _).alloc (Nat.le_refl _) _
    have HBa := Lib.hid (HB2.out.trans (hBa.mono HB2.out.size))
    have HO := Lib.hid ((hO.mono HB1.out.size).below hBa)
    have KO := Lib.hid (Blk.new w2 #[.slice b2 ss.length c2] 25)
    have ma := cell_below hBa m2
    have hs2 : w.heap.size + 2 ≤ w2.heap.size := by have := HB2.out.size; have := Hsz.out; omega
    clear hO hB2 hBa
    go_wp2_with fail
    generalize w2.alloc (.cells #[.slice b2 ss.length c2] 25) = wa at HBa HO KO ma ⊢
    refine (HG.out _ HBa.out).mono ?_
    rintro e wb ⟨⟨z, rfl, hz⟩, hBb⟩
    have HBb := Lib.hid (HBa.out.trans (hBb.mono HBa.out.size))
    have HOb := Lib.hid (HO.out.below hBb)
    have KOb := Lib.hid (KO.out.below hBb KO.out.lt)
    have KRb := Lib.hid (KR.out.below HBb.out KR.out.lt)
    have HEb := Lib.hid (HB.out.trans (HBb.out.mono HB.out.size))
    have o0 : wb.cell? ⟨w2.heap.size, 0, none⟩ = some (.slice b2 ss.length c2) := KOb.out.cell 0
    have q0 : wb.cell? ⟨w.heap.size + 1, 0, none⟩ = some (.slice none 0 0) := KRb.out.cell 0
    have fq := KRb.out.frozen 0
    clear hBb
    by_cases hh : HasNm ss nm
    · obtain rfl := where_yes HOK.out.2.2 hh hz
      have hat := whereSh_at hh
      have HR := Lib.hid (dropTo_any hok hh)
      generalize whereSh ss nm = k at hat HR ⊢
      obtain ⟨hk, _⟩ := hat
      have dk : decide ((k : Int) < 0) = false := by simp
      clear hz hh hok
      have HOd := Lib.hid (HOb.out.below (Below.refl _ wb).drew)
      obtain ⟨ys, g, k1, k2, k3, k4⟩ := HOd.out.rows
      obtain ⟨gs, cs, e2, _, _⟩ := World.ownsRow.form k1 (by omega)
      injection e2 with e2 _ e3
      subst e2 e3
      have hcs : ss.length ≤ c2 := by
        obtain ⟨_, _, e4, h4, _⟩ := HOd.out.reads
        injection e4 with _ _ e4
        omega
      have hgs : w0.heap.size ≤ gs := (k1.lt gs rfl).1
      have hgl : gs < wb.heap.size := (k1.lt gs rfl).2
      have HER := Lib.hid (OwnSh.erase k1 k2 k3 hk [])
      have KOd := KOb.out.below (Below.refl _ wb).drew KOb.out.lt
      have KRd := KRb.out.below (Below.refl _ wb).drew KRb.out.lt
      have hgo : gs ≠ w2.heap.size := fun e => own_blk_ne k1 KOd (by decide) (congrArg some e)
      have hgq : gs ≠ w.heap.size + 1 := by have := Hsz.out; omega
      have hdel := run_append_del i0 hi0 hz1 k1 k2 hk hcs
      obtain ⟨W, hW⟩ : ∃ W, wb.drew.setCells gs (k * 2) (ys.drop ((k + 1) * 2)) = W := ⟨_, rfl⟩
      have KO7 : Blk W w2.heap.size #[.slice (some ⟨gs, 0, none⟩) ss.length c2] 25 := hW ▸ Blk.setCells_other hgo _ _ _ KOd
      have KR7 : Blk W (w.heap.size + 1) #[.slice none 0 0] 25 := hW ▸ Blk.setCells_other hgq _ _ _ KRd
      have hB7 : Below w.heap.size w W := hW ▸ Below.setCells_own (by have := HB.out.size; omega) _ _ _ HEb.out.drew
      have hO7 : OwnSh W w0.heap.size (.slice (some ⟨gs, 0, none⟩) (ss.length - 1) c2) (ss.eraseIdx k) := hW ▸ HER.out
      rw [hW] at hdel
      have hO8 := (hO7.other KO7 (by decide) (by decide) 0 (.slice (some ⟨gs, 0, none⟩) (ss.length - 1) c2)).far (w.heap.size + 1) 0 (.slice (some ⟨gs, 0, none⟩) (ss.length - 1) c2) (by have := Hsz.out; omega)
      have HO8 := Lib.hid (hO8.mono (show w.heap.size ≤ w0.heap.size from HB.out.size))
      have HB8 := Lib.hid ((hB7.setCell (p := ⟨w2.heap.size, 0, none⟩) (by show w.heap.size ≤ w2.heap.size; omega) (.slice (some ⟨gs, 0, none⟩) (ss.length - 1) c2)).setCell (p := ⟨w.heap.size + 1, 0, none⟩) (by simp) (.slice (some ⟨gs, 0, none⟩) (ss.length - 1) c2))
      have o1 : wb.drew.cell? ⟨w2.heap.size, 0, none⟩ = some (.slice (some ⟨gs, 0, none⟩) ss.length c2) := o0
      have o7 : W.cell? ⟨w2.heap.size, 0, none⟩ = some (.slice (some ⟨gs, 0, none⟩) ss.length c2) := KO7.cell 0
      have fo7 := KO7.frozen 0
      have KR8 := KR7.other w2.heap.size 0 (.slice (some ⟨gs, 0, none⟩) (ss.length - 1) c2) (by omega)
      have o8 : (W.setCell ⟨w2.heap.size, 0, none⟩ (.slice (some ⟨gs, 0, none⟩) (ss.length - 1) c2)).cell? ⟨w2.heap.size, 0, none⟩ = some (.slice (some ⟨gs, 0, none⟩) (ss.length - 1) c2) := (KO7.set 0 _).cell 0
      have q8 : (W.setCell ⟨w2.heap.size, 0, none⟩ (.slice (some ⟨gs, 0, none⟩) (ss.length - 1) c2)).cell? ⟨w.heap.size + 1, 0, none⟩ = some (.slice none 0 0) := KR8.cell 0
      have fq8 := KR8.frozen 0
      have hel : Hid ((ss.eraseIdx k).length = ss.length - 1) := erase_len hk
      have i0' : (0 : Int) ≤ (k : Int) := by omega
      have i1' : (k : Int) ≤ (c2 : Int) := by omega
      have i3' : (ss.length : Int) ≤ (c2 : Int) := by omega
      obtain ⟨q1, hq1⟩ : ∃ q, q = k + 1 := ⟨_, rfl⟩
      have hwr : IntKind.i64.wrap ((k : Int) + 1) = (q1 : Int) := by
        rw [IntKind.wrap_i64]; omega
      have i2' : (q1 : Int) ≤ (ss.length : Int) := by omega
      have i4' : (k : Int) ≤ (q1 : Int) := by omega
      have i5' : (0 : Int) ≤ (q1 : Int) := by omega
      have Hq1 := Lib.hid hq1
      clear k1 k2 k3 k4 hW KO7 KR7 KR8 hO7 hO8 hB7 HM m0 m1 m2 ma KOd KRd
      by_cases hcap : c2 = q1
      · have hr2 := hdel 0 (.inr (by omega)) 23 0
        rw [show ss.length - (k + 1) = 0 by omega] at hr2
        clear hdel hq1
        subst hcap
        go_wp2_with fail
        refine AnyS.start (S := (fun w' : World => w'.cell? ⟨w2.heap.size, 0, none⟩ = some (.slice (some ⟨gs, 0, none⟩) ss.length c2))) (L := 11) (by kernel_rfl) ?_
        refine AnyS.take 0 (show _ = some _ from rfl) rfl (by kernel_rfl) (by kernel_rfl) (by kernel_rfl) (by kernel_rfl) (fun _ _ _ h => h) o1 (by rfl) (fun w' hSw => by obtain s1 := hSw; go_simp; try with_reducible rfl) ?_
        try simp only [Act.put, List.setIfInBounds_toArray, List.set_cons_zero, List.set_cons_succ]
        refine AnyS.take 1 (show _ = some _ from rfl) rfl (by kernel_rfl) (by kernel_rfl) (by kernel_rfl) (by kernel_rfl) (fun _ _ _ h => h) o1 (by rfl) (fun w' hSw => by obtain s1 := hSw; go_simp; try with_reducible rfl) ?_
        try simp only [Act.put, List.setIfInBounds_toArray, List.set_cons_zero, List.set_cons_succ]
        refine AnyS.take 2 (show _ = some _ from rfl) rfl (by kernel_rfl) (by kernel_rfl) (by kernel_rfl) (by kernel_rfl) (fun _ _ _ h => h) o1 (by rfl) (fun w' hSw => by obtain s1 := hSw; go_simp; try with_reducible rfl) ?_
        try simp only [Act.put, List.setIfInBounds_toArray, List.set_cons_zero, List.set_cons_succ]
        refine AnyS.take 3 (show _ = some _ from rfl) rfl (by kernel_rfl) (by kernel_rfl) (by kernel_rfl) (by kernel_rfl) (fun _ _ _ h => h) o1 (by rfl) (fun w' hSw => by obtain s1 := hSw; go_simp; try with_reducible rfl) ?_
        try simp only [Act.put, List.setIfInBounds_toArray, List.set_cons_zero, List.set_cons_succ]
        refine AnyS.take 4 (show _ = some _ from rfl) rfl (by kernel_rfl) (by kernel_rfl) (by kernel_rfl) (by kernel_rfl) (fun _ _ _ h => h) o1 (by rfl) (fun w' hSw => by obtain s1 := hSw; go_simp; try with_reducible rfl) ?_
        try simp only [Act.put, List.setIfInBounds_toArray, List.set_cons_zero, List.set_cons_succ]
        refine AnyS.take 5 (show _ = some _ from rfl) rfl (by kernel_rfl) (by kernel_rfl) (by kernel_rfl) (by kernel_rfl) (fun _ _ _ h => h) o1 (by rfl) (fun w' hSw => by obtain s1 := hSw; go_simp; try with_reducible rfl) ?_
        try simp only [Act.put, List.setIfInBounds_toArray, List.set_cons_zero, List.set_cons_succ]
        refine AnyS.take 6 (show _ = some _ from rfl) rfl (by kernel_rfl) (by kernel_rfl) (by kernel_rfl) (by kernel_rfl) (fun _ _ _ h => h) o1 (by rfl) (fun w' hSw => by obtain s1 := hSw; go_simp; try with_reducible rfl) ?_
        try simp only [Act.put, List.setIfInBounds_toArray, List.set_cons_zero, List.set_cons_succ]
        refine AnyS.take 7 (show _ = some _ from rfl) rfl (by kernel_rfl) (by kernel_rfl) (by kernel_rfl) (by kernel_rfl) (fun _ _ _ h => h) o1 (by rfl) (fun w' hSw => by obtain s1 := hSw; go_simp; try with_reducible rfl) ?_
        try simp only [Act.put, List.setIfInBounds_toArray, List.set_cons_zero, List.set_cons_succ]
        refine AnyS.take 8 (show _ = some _ from rfl) rfl (by kernel_rfl) (by kernel_rfl) (by kernel_rfl) (by kernel_rfl) (fun _ _ _ h => h) o1 (by rfl) (fun w' hSw => by obtain s1 := hSw; go_simp; try with_reducible rfl) ?_
        try simp only [Act.put, List.setIfInBounds_toArray, List.set_cons_zero, List.set_cons_succ]
        refine AnyS.one 9 (by kernel_rfl) (show _ = some _ from rfl) (fun K' hK' => ?_)
        refine step_append_run (by rfl) (.tmp 23) (.tmp 28) 23 (some 29) (by rfl) (by rfl) _ _ _ ?_ ?_ hr2 ?_
        · simp [Act.eval]
        · simp [Act.eval]
        refine hK' _ _ ⟨?_, fun _ => o7⟩
        clear hK' K'
        try simp only [Act.put, List.setIfInBounds_toArray, List.set_cons_zero, List.set_cons_succ]
        refine AnyS.take 10 (show _ = some _ from rfl) rfl (by kernel_rfl) (by kernel_rfl) (by kernel_rfl) (by kernel_rfl) (fun _ _ _ h => h) o7 (by rfl) (fun w' hSw => by obtain s1 := hSw; go_simp; try with_reducible rfl) ?_
        try simp only [Act.put, List.setIfInBounds_toArray, List.set_cons_zero, List.set_cons_succ]
        refine AnyS.one 11 (by kernel_rfl) (show _ = some _ from rfl) (fun K' hK' => ?_)
        go_simp
        refine hK' _ _ ⟨AnyS.done (by kernel_rfl) ?_, fun h => absurd rfl h⟩
        clear hK' K'
        try simp only [Act.put, List.setIfInBounds_toArray, List.set_cons_zero, List.set_cons_succ]
        go_wp2
        refine bodyPost_ret (v := .tuple #[.agg #[.slice (some ⟨gs, 0, none⟩) (ss.length - 1) c2], .int .i64 0]) (by simp [results, Try.results26, go_sem, q8]) rfl (mdDone HR.out HO8.out HB8.out)
      · have hr2 := hdel ((k + 1) * 2) (.inl rfl) 23 (c2 - (k + 1))
        rw [← hq1] at hr2
        clear hdel hq1
        go_wp2_with fail
        refine AnyS.start (S := (fun w' : World => w'.cell? ⟨w2.heap.size, 0, none⟩ = some (.slice (some ⟨gs, 0, none⟩) ss.length c2))) (L := 11) (by kernel_rfl) ?_
        refine AnyS.take 0 (show _ = some _ from rfl) rfl (by kernel_rfl) (by kernel_rfl) (by kernel_rfl) (by kernel_rfl) (fun _ _ _ h => h) o1 (by rfl) (fun w' hSw => by obtain s1 := hSw; go_simp; try with_reducible rfl) ?_
        try simp only [Act.put, List.setIfInBounds_toArray, List.set_cons_zero, List.set_cons_succ]
        refine AnyS.take 1 (show _ = some _ from rfl) rfl (by kernel_rfl) (by kernel_rfl) (by kernel_rfl) (by kernel_rfl) (fun _ _ _ h => h) o1 (by rfl) (fun w' hSw => by obtain s1 := hSw; go_simp; try with_reducible rfl) ?_
        try simp only [Act.put, List.setIfInBounds_toArray, List.set_cons_zero, List.set_cons_succ]
        refine AnyS.take 2 (show _ = some _ from rfl) rfl (by kernel_rfl) (by kernel_rfl) (by kernel_rfl) (by kernel_rfl) (fun _ _ _ h => h) o1 (by rfl) (fun w' hSw => by obtain s1 := hSw; go_simp; try with_reducible rfl) ?_
        try simp only [Act.put, List.setIfInBounds_toArray, List.set_cons_zero, List.set_cons_succ]
        refine AnyS.take 3 (show _ = some _ from rfl) rfl (by kernel_rfl) (by kernel_rfl) (by kernel_rfl) (by kernel_rfl) (fun _ _ _ h => h) o1 (by rfl) (fun w' hSw => by obtain s1 := hSw; go_simp; try with_reducible rfl) ?_
        try simp only [Act.put, List.setIfInBounds_toArray, List.set_cons_zero, List.set_cons_succ]
        refine AnyS.take 4 (show _ = some _ from rfl) rfl (by kernel_rfl) (by kernel_rfl) (by kernel_rfl) (by kernel_rfl) (fun _ _ _ h => h) o1 (by rfl) (fun w' hSw => by obtain s1 := hSw; go_simp; try with_reducible rfl) ?_
        try simp only [Act.put, List.setIfInBounds_toArray, List.set_cons_zero, List.set_cons_succ]
        refine AnyS.take 5 (show _ = some _ from rfl) rfl (by kernel_rfl) (by kernel_rfl) (by kernel_rfl) (by kernel_rfl) (fun _ _ _ h => h) o1 (by rfl) (fun w' hSw => by obtain s1 := hSw; go_simp; try with_reducible rfl) ?_
        try simp only [Act.put, List.setIfInBounds_toArray, List.set_cons_zero, List.set_cons_succ]
        refine AnyS.take 6 (show _ = some _ from rfl) rfl (by kernel_rfl) (by kernel_rfl) (by kernel_rfl) (by kernel_rfl) (fun _ _ _ h => h) o1 (by rfl) (fun w' hSw => by obtain s1 := hSw; go_simp; try with_reducible rfl) ?_
        try simp only [Act.put, List.setIfInBounds_toArray, List.set_cons_zero, List.set_cons_succ]
        refine AnyS.take 7 (show _ = some _ from rfl) rfl (by kernel_rfl) (by kernel_rfl) (by kernel_rfl) (by kernel_rfl) (fun _ _ _ h => h) o1 (by rfl) (fun w' hSw => by obtain s1 := hSw; go_simp; try with_reducible rfl) ?_
        try simp only [Act.put, List.setIfInBounds_toArray, List.set_cons_zero, List.set_cons_succ]
        refine AnyS.take 8 (show _ = some _ from rfl) rfl (by kernel_rfl) (by kernel_rfl) (by kernel_rfl) (by kernel_rfl) (fun _ _ _ h => h) o1 (by rfl) (fun w' hSw => by obtain s1 := hSw; go_simp; try with_reducible rfl) ?_
        try simp only [Act.put, List.setIfInBounds_toArray, List.set_cons_zero, List.set_cons_succ]
        refine AnyS.one 9 (by kernel_rfl) (show _ = some _ from rfl) (fun K' hK' => ?_)
        refine step_append_run (by rfl) (.tmp 23) (.tmp 28) 23 (some 29) (by rfl) (by rfl) _ _ _ ?_ ?_ hr2 ?_
        · simp [Act.eval]
        · simp [Act.eval]
        refine hK' _ _ ⟨?_, fun _ => o7⟩
        clear hK' K'
        try simp only [Act.put, List.setIfInBounds_toArray, List.set_cons_zero, List.set_cons_succ]
        refine AnyS.take 10 (show _ = some _ from rfl) rfl (by kernel_rfl) (by kernel_rfl) (by kernel_rfl) (by kernel_rfl) (fun _ _ _ h => h) o7 (by rfl) (fun w' hSw => by obtain s1 := hSw; go_simp; try with_reducible rfl) ?_
        try simp only [Act.put, List.setIfInBounds_toArray, List.set_cons_zero, List.set_cons_succ]
        refine AnyS.one 11 (by kernel_rfl) (show _ = some _ from rfl) (fun K' hK' => ?_)
        go_simp
        refine hK' _ _ ⟨AnyS.done (by kernel_rfl) ?_, fun h => absurd rfl h⟩
        clear hK' K'
        try simp only [Act.put, List.setIfInBounds_toArray, List.set_cons_zero, List.set_cons_succ]
        go_wp2
        refine bodyPost_ret (v := .tuple #[.agg #[.slice (some ⟨gs, 0, none⟩) (ss.length - 1) c2], .int .i64 0]) (by simp [results, Try.results26, go_sem, q8]) rfl (mdDone HR.out HO8.out HB8.out)
    · obtain rfl := where_no hh hz
      have HR := Lib.hid (dropTo_none hok hh)
      clear hz hh hok HM m0 m1 m2 ma
      go_wp2
      refine bodyPost_ret (v := .tuple #[.agg #[.slice b2 ss.length c2], .int .i64 2]) (by simp [results, Try.results26, go_sem, q0]) rfl (mdDone HR.out ?_ (HEb.out.setCell (p := ⟨w.heap.size + 1, 0, none⟩) (by simp) _))
      exact (HOb.out.far _ _ _ (by have := Hsz.out; omega)).mono (by have := Hsz.out; omega)
  · rw [tt_false hok] at HM
    have HR := Lib.hid (dropTo_no (nm := nm) hok)
    clear hok
    go_enter Try.func26, Try.ntmps26
    go_wp2_with fail
    clear HW
    refine HM.out.mono ?_
    rintro e w1 ⟨rfl, hB1⟩
    have HE := Lib.hid (HB.out.trans (hB1.mono HB.out.size))
    have KR1 := Lib.hid (KR.out.below hB1 KR.out.lt)
    have q0 : w1.cell? ⟨w.heap.size + 1, 0, none⟩ = some (.slice none 0 0) := KR1.out.cell 0
    have fq := KR1.out.frozen 0
    clear hB1
    go_wp2
    exact bodyPost_ret (v := .tuple #[.agg #[.slice none 0 0], .int .i64 4]) (by simp [results, Try.results26, go_sem, q0]) rfl (mdDone HR.out (OwnSh.nil _ _) (HE.out.setCell (p := ⟨w.heap.size + 1, 0, none⟩) (by simp) _))

end Go.Proofs.Ytmmckpjapnkepaa

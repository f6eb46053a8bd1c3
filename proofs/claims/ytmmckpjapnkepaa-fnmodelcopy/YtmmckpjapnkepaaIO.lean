/- ModelCopy of the specification. Conditions: none but the row's own bound on sizes. -/
import Derived.Test.YtmmckpjapnkepaaIK
namespace Go.Proofs.Ytmmckpjapnkepaa
open Go.RowKit Go.Sort

theorem copyTo_no' {ss : List ShD} {fr nm : ByteArray} (h : ¬MdFine ss) : copyTo ss fr nm = ([], 4) := by unfold copyTo; rw [if_neg h]
theorem copyTo_none' {ss : List ShD} {fr nm : ByteArray} (h : MdFine ss) (hh : ¬HasNm ss fr) : copyTo ss fr nm = (ss, 2) := by unfold copyTo; rw [if_pos h, if_neg hh]
theorem copyTo_yes {ss : List ShD} {fr nm : ByteArray} (h : MdFine ss) (hh : HasNm ss fr) (hc : addCode ss nm = 0) : copyTo ss fr nm = (ss ++ [⟨nm, blAt ss (whereSh ss fr)⟩], 0) := by unfold copyTo addTo; rw [if_pos h, if_pos hh, if_pos hc, hc]
theorem copyTo_not {ss : List ShD} {fr nm : ByteArray} (h : MdFine ss) (hh : HasNm ss fr) (hc : addCode ss nm ≠ 0) : copyTo ss fr nm = (ss, addCode ss nm) := by unfold copyTo addTo; rw [if_pos h, if_pos hh, if_neg hc]

set_option linter.unusedSimpArgs false in
set_option maxRecDepth 100000 in
set_option maxHeartbeats 8000000 in
theorem specCopy_any (a : Option Addr) (cap : Nat) (ss : List ShD) (fr nm : ByteArray) (w : World) (hs : MdSmall ss) (hn : nm.size ≤ maxLen) (hx : Hid (ShAt w a ss)) :
    Calls Try.prog 19 #[.agg #[.slice a ss.length cap], .string fr, .string nm] w (MdDone (copyTo ss fr nm) w) := by
  obtain ⟨i0, hi0, hz0, hz1, hz2⟩ := info_parts infoSh
  obtain ⟨i1, hi1, hy0, hy1, hy2⟩ := info_parts infoTx
  obtain ⟨w0, HW, hB, hKM, hKR, hsz⟩ := two_boxes w (.slice a ss.length cap)
  have HB := Lib.hid hB
  have KM := Lib.hid hKM
  have KR := Lib.hid hKR
  have HX := Lib.hid (hx.out.below hB)
  have HM := Lib.hid (specMdOk_any a cap ss w0 hs HX)
  have m0 : w0.cell? ⟨w.heap.size, 0, none⟩ = some (.slice a ss.length cap) := hKM.cell 0
  have Hsz := Lib.hid hsz
  have hsl := hs.1
  clear hB hKM hKR hsz hs
  by_cases hok : MdFine ss
  · rw [tt_true hok] at HM
    have h4l := hok.1
    have HOK := Lib.hid hok
    have HC := Lib.hid (fun W (h : Below w0.heap.size w0 W) => l14Copy_any a cap ss W hok (HX.out.below h))
    have HG := Lib.hid (fun W (h : Below w0.heap.size w0 W) => l14Find_any a cap ss fr W (by unfold maxLen; omega) (HX.out.below h))
    have HF := Lib.hid (fun W (h : Below w0.heap.size w0 W) => l14Add_any a cap ss nm W hsl hn (HX.out.below h))
    go_enter Try.func19, Try.ntmps19
    go_wp2_with fail
    clear HW
    refine HM.out.mono ?_
    rintro e w1 ⟨rfl, hB1⟩
    have m1 := cell_below hB1 m0
    have HB1 := Lib.hid hB1
    clear hB1
    go_wp2_with fail
    refine (HC.out _ HB1.out).mono ?_
    rintro e w2 ⟨b2, c2, rfl, hO, hB2⟩
    have m2 := cell_below hB2 m1
    have HB2 := Lib.hid (HB1.out.trans (hB2.mono HB1.out.size))
    have hBa : Below w2.heap.size w2 (w2.alloc (.cells #[.slice b2 ss.length c2] 25)) := (Below.refl _ _).alloc (Nat.le_refl _) _
    have HBa := Lib.hid (HB2.out.trans (hBa.mono HB2.out.size))
    have HO := Lib.hid ((hO.mono HB1.out.size).below hBa)
    have KO := Lib.hid (Blk.new w2 #[.slice b2 ss.length c2] 25)
    have ma := cell_below hBa m2
    have hs2 : w.heap.size + 2 ≤ w2.heap.size := by have := HB2.out.size; have := Hsz.out; omega
    clear hO hB2 hBa
    go_wp2_with fail
    generalize w2.alloc (.cells #[.slice b2 ss.length c2] 25) = wa at HBa HO KO ma ⊢
    refine (HG.out _ HBa.out).mono ?_
    rintro e wb ⟨⟨z, rfl, hz⟩, hBb⟩
    have HBb := Lib.hid (HBa.out.trans (hBb.mono HBa.out.size))
    have HOb := Lib.hid (HO.out.below hBb)
    have KOb := Lib.hid (KO.out.below hBb KO.out.lt)
    have mb := cell_below hBb ma
    clear hBb
    by_cases hh : HasNm ss fr
    · obtain rfl := where_yes HOK.out.2.2 hh hz
      have hat := whereSh_at hh
      have HRy := Lib.hid (fun hc => copyTo_yes (nm := nm) HOK.out hh hc)
      have HRn := Lib.hid (fun hc => copyTo_not (nm := nm) HOK.out hh hc)
      generalize whereSh ss fr = k at hat HRy ⊢
      have dk : decide ((k : Int) < 0) = false := by simp
      clear hz hh hok
      go_wp2_with fail
      refine (HF.out _ HBb.out).mono ?_
      rintro e w3 ⟨rfl, hB3⟩
      have HB3 := Lib.hid (HBb.out.trans (hB3.mono HBb.out.size))
      have HO3 := Lib.hid (HOb.out.below hB3)
      have KO3 := Lib.hid (KOb.out.below hB3 KOb.out.lt)
      have KR3 := Lib.hid (KR.out.below HB3.out KR.out.lt)
      have HE3 := Lib.hid (HB.out.trans (HB3.out.mono HB.out.size))
      have o0 : w3.cell? ⟨w2.heap.size, 0, none⟩ = some (.slice b2 ss.length c2) := KO3.out.cell 0
      have q0 : w3.cell? ⟨w.heap.size + 1, 0, none⟩ = some (.slice none 0 0) := KR3.out.cell 0
      have fq := KR3.out.frozen 0
      have m3 := cell_below hB3 mb
      clear hB3
      by_cases hc : addCode ss nm = 0
      · have HR := Lib.hid (HRy.out hc)
        rw [hc]
        obtain ⟨hk, _⟩ := hat
        have hfin := HOK.out.2.1 k hk
        have hblk : (ss.getD k sh0).blocks = blAt ss k := rfl
        have hxl3 : (ss.getD k sh0).blocks.length = 3 := hfin.2.1
        have i0' : (0 : Int) ≤ (k : Int) := by omega
        have i1' : (k : Int) < (ss.length : Int) := by omega
        obtain ⟨b, off, rfl, hcs⟩ := (HX.out.below HB3.out).resolve_left (fun e => by subst e; simp at hk)
        obtain ⟨_, v1, e1, hv⟩ := hcs k hk
        rw [← hblk] at HR
        clear hcs hfin hc hblk HRy HRn
        generalize (ss.getD k sh0).blocks = xs at e1 hv HR hxl3
        obtain ⟨a1, c1, rfl, _, _, hx1⟩ := hv
        obtain ⟨b1, off1, rfl, hc1⟩ := hx1.resolve_left (fun e => by subst e; simp at hxl3)
        have hx0 : 0 < xs.length := by omega
        have hx3 : xs.length ≤ 3 := by omega
        clear hxl3
        obtain ⟨ys, g, k1, k2, k3, k4⟩ := HO3.out.rows
        have hyl : ys.length = ss.length * 2 := k1.1
        have hB1 : Below w3.heap.size w3 ((w3.alloc (.cells #[] 9)).drew) := ((Below.refl _ _).alloc (Nat.le_refl _) _).drew
        obtain ⟨g1, cap1, w5, hr1, ho1, hg1, hat1, hl1⟩ := run_append_lies ((w3.alloc (.cells #[] 9)).drew) 33 33 w3.heap.size 9 i1 _ 1 16 Try.underlying33 hi1 hy0 hy1 hy2 rfl (by omega) (.slice (some ⟨w3.heap.size, 0, none⟩) 0 0) 0 []
          (World.ownsRow_made (e := 9) (size := 1) (base := w3.heap.size) w3 #[] 0 (Nat.le_refl _) (by simp [maxLen]) (by simp)) ⟨b1, off1, none⟩ xs.length c1 (txC xs) (by rw [txC_length]; omega) (tx_news (fun j hj => cell_below hB1 (hc1 j hj))) (txC_one xs) (by omega) (by unfold maxLen; omega) (by omega) (by simp) _ rfl
        rw [Nat.zero_add] at hr1 ho1
        rw [List.nil_append] at ho1
        have hB5 : Below w3.heap.size w3 w5 := hB1.grown hg1 (by simp) (fun i e => by cases e; exact Nat.le_refl _)
        have hB6 : Below w3.heap.size w3 (w5.alloc (.cells #[.string nm, .slice (some ⟨g1, 0, none⟩) xs.length cap1] 35)) := hB5.alloc hB5.size _
        have hown := own_below k1 hB6
        have hbt := own_block_type hown
        obtain ⟨g2, cap2, w7, hr2, ho2, hg2, hat2, hl2⟩ := run_append_lies (w5.alloc (.cells #[.string nm, .slice (some ⟨g1, 0, none⟩) xs.length cap1] 35)) 23 23 w0.heap.size 35 i0 _ 2 40 Try.underlying23 hi0 hz0 hz1 hz2 rfl (by omega) (.slice b2 ss.length c2) ss.length ys hown
          ⟨w5.heap.size, 0, none⟩ 1 1 [.string nm, .slice (some ⟨g1, 0, none⟩) xs.length cap1] rfl (news_two w5 _ _ _ _ rfl) (by simp [Value.oneCell']) (by omega) (by unfold maxLen; omega) (by omega) (by have := HB3.out.size; have := hB6.size; omega) _ rfl
        have hB7 : Below w.heap.size w w7 := (HE3.out.trans (hB6.mono HE3.out.size)).grown hg2 (by have := HE3.out.size; have := hB6.size; omega) (fun i e => by have := (hown.lt i e).1; have := HB.out.size; omega)
        have hne : ∀ D cs, Blk (w5.alloc (.cells #[.string nm, .slice (some ⟨g1, 0, none⟩) xs.length cap1] 35)) D cs 25 → Blk w7 D cs 25 := fun D cs h => h.gb hg2 (own_blk_ne hown h (by decide))
        have KO7 := hne _ _ (KO3.out.below hB6 KO3.out.lt)
        have KR7 := hne _ _ (KR3.out.below hB6 KR3.out.lt)
        have hO7 : OwnSh w7 w0.heap.size (.slice (some ⟨g2, 0, none⟩) (ss.length + 1) cap2) (ss ++ [⟨nm, xs⟩]) :=
          OwnSh.more (w0 := w3) (base' := w3.heap.size) (fun j hj => (k2 j hj).below hB6) k3 k4 hyl (own_below (show OwnTx w5 w3.heap.size (.slice (some ⟨g1, 0, none⟩) xs.length cap1) xs from ho1) ((Below.refl _ _).alloc (Nat.le_refl _) _)) (Nat.le_refl _) HB3.out.size ho2 hg2 hbt
        have hO8 := (hO7.other KO7 (by decide) (by decide) 0 (.slice (some ⟨g2, 0, none⟩) (ss.length + 1) cap2)).far (w.heap.size + 1) 0 (.slice (some ⟨g2, 0, none⟩) (ss.length + 1) cap2) (by have := Hsz.out; omega)
        have HO8 := Lib.hid (hO8.mono (show w.heap.size ≤ w0.heap.size from HB.out.size))
        have HB8 := Lib.hid ((hB7.setCell (p := ⟨w2.heap.size, 0, none⟩) (by show w.heap.size ≤ w2.heap.size; omega) (.slice (some ⟨g2, 0, none⟩) (ss.length + 1) cap2)).setCell (p := ⟨w.heap.size + 1, 0, none⟩) (by simp) (.slice (some ⟨g2, 0, none⟩) (ss.length + 1) cap2))
        have o1 := cell_below hB1 o0
        have o5 := cell_below hB5 o0
        have o6 := cell_below hB6 o0
        have n1 := cell_below hB1 m3
        have n5 := cell_below hB5 m3
        have n6 := cell_below hB6 m3
        have f1 := cell_below hB1 e1
        have f5 := cell_below hB5 e1
        have f6 := cell_below hB6 e1
        have o7 : w7.cell? ⟨w2.heap.size, 0, none⟩ = some (.slice b2 ss.length c2) := KO7.cell 0
        have fo7 := KO7.frozen 0
        have n7 : w7.cell? ⟨w.heap.size, 0, none⟩ = some (.slice (some ⟨b, off, none⟩) ss.length cap) := (hg2.cell_far ⟨w.heap.size, 0, none⟩ (by show w.heap.size < _; have := hB6.size; have := HE3.out.size; have := HB3.out.size; have := Hsz.out; omega) (fun e => by have h : w0.heap.size ≤ w.heap.size := (hown.lt _ e.symm).1; have := Hsz.out; omega)).trans n6
        have hbl : b < w.heap.size := by
          rcases hx.out with h | ⟨b', o', hbe, hcc⟩
          · subst h; simp at hk
          · injection hbe with hbe
            injection hbe with hbe _
            subst hbe
            exact World.block_lt_of_cell? w _ (hcc 0 (by omega)).1
        have f7 : w7.cell? ⟨b, off + k * 2 + 1, none⟩ = some (.slice (some ⟨b1, off1, none⟩) xs.length c1) := (hg2.cell_far ⟨b, off + k * 2 + 1, none⟩ (by show b < _; have := hB6.size; have := HE3.out.size; omega) (fun e => by have h : w0.heap.size ≤ b := (hown.lt _ e.symm).1; have := Hsz.out; omega)).trans f6
        have KR8 := KR7.other w2.heap.size 0 (.slice (some ⟨g2, 0, none⟩) (ss.length + 1) cap2) (by omega)
        have o8 : (w7.setCell ⟨w2.heap.size, 0, none⟩ (.slice (some ⟨g2, 0, none⟩) (ss.length + 1) cap2)).cell? ⟨w2.heap.size, 0, none⟩ = some (.slice (some ⟨g2, 0, none⟩) (ss.length + 1) cap2) := (KO7.set 0 _).cell 0
        have q8 : (w7.setCell ⟨w2.heap.size, 0, none⟩ (.slice (some ⟨g2, 0, none⟩) (ss.length + 1) cap2)).cell? ⟨w.heap.size + 1, 0, none⟩ = some (.slice none 0 0) := KR8.cell 0
        have fq8 := KR8.frozen 0
        clear hB1 hB5 hB6 k1 k2 k3 k4 hown hbt hyl ho1 ho2 hg1 hg2 hat1 hat2 hl1 hl2 hB7 hne KO7 KR7 KR8 hO7 hO8 HM m0 m1 m2 ma mb hc1 hx1
        go_wp2_with fail
        refine AnyS.start (S := (fun w' : World => w'.cell? ⟨w2.heap.size, 0, none⟩ = some (.slice b2 ss.length c2) ∧ w'.cell? ⟨w.heap.size, 0, none⟩ = some (.slice (some ⟨b, off, none⟩) ss.length cap) ∧ w'.cell? ⟨b, off + k * 2 + 1, none⟩ = some (.slice (some ⟨b1, off1, none⟩) xs.length c1))) (L := 15) (by kernel_rfl) ?_
        refine AnyS.take 0 (show _ = some _ from rfl) rfl (by kernel_rfl) (by kernel_rfl) (by kernel_rfl) (by kernel_rfl) (fun _ _ _ h => h) ⟨o0, m3, e1⟩ (by rfl) (fun w' hSw => by obtain ⟨s1, s2, s3⟩ := hSw; go_simp; try with_reducible rfl) ?_
        try simp only [Act.put, List.setIfInBounds_toArray, List.set_cons_zero, List.set_cons_succ]
        refine AnyS.take 1 (show _ = some _ from rfl) rfl (by kernel_rfl) (by kernel_rfl) (by kernel_rfl) (by kernel_rfl) (fun _ _ _ h => h) ⟨o0, m3, e1⟩ (by rfl) (fun w' hSw => by obtain ⟨s1, s2, s3⟩ := hSw; go_simp; try with_reducible rfl) ?_
        try simp only [Act.put, List.setIfInBounds_toArray, List.set_cons_zero, List.set_cons_succ]
        refine AnyS.take 2 (show _ = some _ from rfl) rfl (by kernel_rfl) (by kernel_rfl) (by kernel_rfl) (by kernel_rfl) (fun _ _ _ h => h) ⟨o0, m3, e1⟩ (by rfl) (fun w' hSw => by obtain ⟨s1, s2, s3⟩ := hSw; go_simp; try with_reducible rfl) ?_
        try simp only [Act.put, List.setIfInBounds_toArray, List.set_cons_zero, List.set_cons_succ]
        refine AnyS.take 4 (show _ = some _ from rfl) rfl (by kernel_rfl) (by kernel_rfl) (by kernel_rfl) (by kernel_rfl) (fun _ _ _ h => h) ⟨o0, m3, e1⟩ (by rfl) (fun w' hSw => by obtain ⟨s1, s2, s3⟩ := hSw; go_simp; try with_reducible rfl) ?_
        try simp only [Act.put, List.setIfInBounds_toArray, List.set_cons_zero, List.set_cons_succ]
        refine AnyS.take 5 (show _ = some _ from rfl) rfl (by kernel_rfl) (by kernel_rfl) (by kernel_rfl) (by kernel_rfl) (fun _ _ _ h => h) ⟨o0, m3, e1⟩ (by rfl) (fun w' hSw => by obtain ⟨s1, s2, s3⟩ := hSw; go_simp; try with_reducible rfl) ?_
        try simp only [Act.put, List.setIfInBounds_toArray, List.set_cons_zero, List.set_cons_succ]
        refine AnyS.take 6 (show _ = some _ from rfl) rfl (by kernel_rfl) (by kernel_rfl) (by kernel_rfl) (by kernel_rfl) (fun _ _ _ h => h) ⟨o0, m3, e1⟩ (by rfl) (fun w' hSw => by obtain ⟨s1, s2, s3⟩ := hSw; go_simp; try with_reducible rfl) ?_
        try simp only [Act.put, List.setIfInBounds_toArray, List.set_cons_zero, List.set_cons_succ]
        refine AnyS.take 7 (show _ = some _ from rfl) rfl (by kernel_rfl) (by kernel_rfl) (by kernel_rfl) (by kernel_rfl) (fun _ _ _ h => h) ⟨o0, m3, e1⟩ (by rfl) (fun w' hSw => by obtain ⟨s1, s2, s3⟩ := hSw; go_simp; try with_reducible rfl) ?_
        try simp only [Act.put, List.setIfInBounds_toArray, List.set_cons_zero, List.set_cons_succ]
        refine AnyS.take 8 (show _ = some _ from rfl) rfl (by kernel_rfl) (by kernel_rfl) (by kernel_rfl) (by kernel_rfl) (fun _ _ _ h => h) ⟨o0, m3, e1⟩ (by rfl) (fun w' hSw => by obtain ⟨s1, s2, s3⟩ := hSw; go_simp; try with_reducible rfl) ?_
        try simp only [Act.put, List.setIfInBounds_toArray, List.set_cons_zero, List.set_cons_succ]
        refine AnyS.take 9 (show _ = some _ from rfl) rfl (by kernel_rfl) (by kernel_rfl) (by kernel_rfl) (by kernel_rfl) (fun _ _ _ h => h) ⟨o0, m3, e1⟩ (by rfl) (fun w' hSw => by obtain ⟨s1, s2, s3⟩ := hSw; go_simp; try with_reducible rfl) ?_
        try simp only [Act.put, List.setIfInBounds_toArray, List.set_cons_zero, List.set_cons_succ]
        refine AnyS.one 3 (by kernel_rfl) (show _ = some _ from rfl) (fun K' hK' => ?_)
        go_simp
        refine hK' _ _ ⟨?_, fun _ => ⟨o1, n1, f1⟩⟩
        clear hK' K'
        try simp only [Act.put, List.setIfInBounds_toArray, List.set_cons_zero, List.set_cons_succ]
        refine AnyS.one 10 (by kernel_rfl) (show _ = some _ from rfl) (fun K' hK' => step_append_run (by rfl) _ _ _ _ (by rfl) (by rfl) _ _ _ (by rfl) (by rfl) hr1 (hK' _ _ ⟨?_, fun _ => ⟨o5, n5, f5⟩⟩))
        try simp only [Act.put, List.setIfInBounds_toArray, List.set_cons_zero, List.set_cons_succ]
        refine AnyS.take 11 (show _ = some _ from rfl) rfl (by kernel_rfl) (by kernel_rfl) (by kernel_rfl) (by kernel_rfl) (fun _ _ _ h => h) ⟨o5, n5, f5⟩ (by rfl) (fun w' hSw => by obtain ⟨s1, s2, s3⟩ := hSw; go_simp; try with_reducible rfl) ?_
        try simp only [Act.put, List.setIfInBounds_toArray, List.set_cons_zero, List.set_cons_succ]
        refine AnyS.one 12 (by kernel_rfl) (show _ = some _ from rfl) (fun K' hK' => ?_)
        go_simp
        refine hK' _ _ ⟨?_, fun _ => ⟨o6, n6, f6⟩⟩
        clear hK' K'
        try simp only [Act.put, List.setIfInBounds_toArray, List.set_cons_zero, List.set_cons_succ]
        refine AnyS.one 13 (by kernel_rfl) (show _ = some _ from rfl) (fun K' hK' => step_append_run (by rfl) _ _ _ _ (by rfl) (by rfl) _ _ _ (by rfl) (by rfl) hr2 (hK' _ _ ⟨?_, fun _ => ⟨o7, n7, f7⟩⟩))
        try simp only [Act.put, List.setIfInBounds_toArray, List.set_cons_zero, List.set_cons_succ]
        refine AnyS.take 14 (show _ = some _ from rfl) rfl (by kernel_rfl) (by kernel_rfl) (by kernel_rfl) (by kernel_rfl) (fun _ _ _ h => h) ⟨o7, n7, f7⟩ (by rfl) (fun w' hSw => by obtain ⟨s1, s2, s3⟩ := hSw; go_simp; try with_reducible rfl) ?_
        try simp only [Act.put, List.setIfInBounds_toArray, List.set_cons_zero, List.set_cons_succ]
        refine AnyS.one 15 (by kernel_rfl) (show _ = some _ from rfl) (fun K' hK' => ?_)
        go_simp
        refine hK' _ _ ⟨AnyS.done (by kernel_rfl) ?_, fun h => absurd rfl h⟩
        clear hK' K'
        try simp only [Act.put, List.setIfInBounds_toArray, List.set_cons_zero, List.set_cons_succ]
        go_wp2
        refine bodyPost_ret (v := .tuple #[.agg #[.slice (some ⟨g2, 0, none⟩) (ss.length + 1) cap2], .int .i64 0]) (by simp [results, Try.results19, go_sem, q8]) rfl (mdDone HR.out HO8.out HB8.out)
      · have HR := Lib.hid (HRn.out hc)
        generalize hcc : addCode ss nm = cc at HR hc
        have Hcc := Lib.hid hcc
        have hd : (cc == (0 : Int)) = false := by simpa using hc
        clear hc hcc HM m0 m1 m2 ma mb HRy HRn
        go_wp2
        refine bodyPost_ret (v := .tuple #[.agg #[.slice b2 ss.length c2], .int .i64 cc]) (by simp [results, Try.results19, go_sem, q0]) rfl (mdDone HR.out ?_ (HE3.out.setCell (p := ⟨w.heap.size + 1, 0, none⟩) (by simp) _))
        exact (HO3.out.far _ _ _ (by have := Hsz.out; omega)).mono (by have := Hsz.out; omega)
    · obtain rfl := where_no hh hz
      have HR := Lib.hid (copyTo_none' (nm := nm) hok hh)
      have KRb := Lib.hid (KR.out.below HBb.out KR.out.lt)
      have HEb := Lib.hid (HB.out.trans (HBb.out.mono HB.out.size))
      have o0 : wb.cell? ⟨w2.heap.size, 0, none⟩ = some (.slice b2 ss.length c2) := KOb.out.cell 0
      have q0 : wb.cell? ⟨w.heap.size + 1, 0, none⟩ = some (.slice none 0 0) := KRb.out.cell 0
      have fq := KRb.out.frozen 0
      clear hz hh hok HM m0 m1 m2 ma mb
      go_wp2
      refine bodyPost_ret (v := .tuple #[.agg #[.slice b2 ss.length c2], .int .i64 2]) (by simp [results, Try.results19, go_sem, q0]) rfl (mdDone HR.out ?_ (HEb.out.setCell (p := ⟨w.heap.size + 1, 0, none⟩) (by simp) _))
      exact (HOb.out.far _ _ _ (by have := Hsz.out; omega)).mono (by have := Hsz.out; omega)
  · rw [tt_false hok] at HM
    have HR := Lib.hid (copyTo_no' (fr := fr) (nm := nm) hok)
    clear hok
    go_enter Try.func19, Try.ntmps19
    go_wp2_with fail
    clear HW
    refine HM.out.mono ?_
    rintro e w1 ⟨rfl, hB1⟩
    have HE := Lib.hid (HB.out.trans (hB1.mono HB.out.size))
    have KR1 := Lib.hid (KR.out.below hB1 KR.out.lt)
    have q0 : w1.cell? ⟨w.heap.size + 1, 0, none⟩ = some (.slice none 0 0) := KR1.out.cell 0
    have fq := KR1.out.frozen 0
    clear hB1
    go_wp2
    exact bodyPost_ret (v := .tuple #[.agg #[.slice none 0 0], .int .i64 4]) (by simp [results, Try.results19, go_sem, q0]) rfl (mdDone HR.out (OwnSh.nil _ _) (HE.out.setCell (p := ⟨w.heap.size + 1, 0, none⟩) (by simp) _))

end Go.Proofs.Ytmmckpjapnkepaa

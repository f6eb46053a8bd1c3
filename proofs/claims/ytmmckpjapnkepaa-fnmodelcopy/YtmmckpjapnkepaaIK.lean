/- A volume more, of the specification: ModelMake. Conditions: none but the row's own bound on sizes. -/
import Derived.Test.YtmmckpjapnkepaaIE
import Derived.Deep.OwnRows
namespace Go.Proofs.Ytmmckpjapnkepaa
open Go.RowKit Go.Sort

theorem addCode_name {ss : List ShD} {nm : ByteArray} (h : HasNm ss nm ∨ ¬NameOk nm) : addCode ss nm = 1 := by unfold addCode; rw [if_pos h]
theorem addCode_full {ss : List ShD} {nm : ByteArray} (h : ¬HasNm ss nm) (hn : NameOk nm) (h4 : ss.length = 4) : addCode ss nm = 3 := by unfold addCode; rw [if_neg (fun k => k.elim h (fun k => k hn)), if_pos h4]
theorem addCode_ok {ss : List ShD} {nm : ByteArray} (h : ¬HasNm ss nm) (hn : NameOk nm) (h4 : ss.length ≠ 4) : addCode ss nm = 0 := by unfold addCode; rw [if_neg (fun k => k.elim h (fun k => k hn)), if_neg h4]

set_option maxRecDepth 100000 in
set_option maxHeartbeats 1000000 in
theorem l14Add_any (a : Option Addr) (cap : Nat) (ss : List ShD) (nm : ByteArray) (w : World) (hl : ss.length ≤ 1048576) (hn : nm.size ≤ maxLen) (hx : Hid (ShAt w a ss)) :
    Calls Try.prog 53 #[.agg #[.slice a ss.length cap], .string nm] w fun e w' => e = .returned (.int .i64 (addCode ss nm)) ∧ Below w.heap.size w w' := by
  have hB : Below w.heap.size w (w.alloc (.cells #[.slice a ss.length cap] 25)) := (Below.refl _ _).alloc (Nat.le_refl _) _
  have HB := Lib.hid hB
  have c0 : (w.alloc (.cells #[.slice a ss.length cap] 25)).cell? ⟨w.heap.size, 0, none⟩ = some (.slice a ss.length cap) := by rw [World.cell?_alloc_mark]; rfl
  have HF := Lib.hid (l14Find_any a cap ss nm _ (by unfold maxLen; omega) (hx.out.below hB))
  have HN := Lib.hid (fun W => l2Name_any nm W hn)
  clear hB hn
  by_cases h1 : NameOk nm
  · rw [tt_true h1] at HN
    by_cases hh : HasNm ss nm
    · have HC := Lib.hid (addCode_name (.inl hh))
      have HZ : Hid (∀ z, WhereSh ss nm z → ∃ k : Nat, z = (k : Int)) := fun z hz => by
        rcases hz with ⟨k, rfl, _⟩ | ⟨_, h⟩
        · exact ⟨k, rfl⟩
        · exact (h hh).elim
      clear h1 hh
      go_enter Try.func53, Try.ntmps53
      go_wp2_with fail
      refine (HN.out _).mono ?_
      rintro e w1 ⟨rfl, rfl⟩
      go_wp2_with fail
      refine HF.out.mono ?_
      rintro e w1 ⟨⟨z, rfl, hz⟩, hB1⟩
      obtain ⟨k, rfl⟩ := HZ.out z hz
      have hd : decide ((0 : Int) ≤ (k : Int)) = true := by simp
      have HE := Lib.hid (HB.out.trans (hB1.mono HB.out.size))
      clear hz hB1
      go_wp2
      go_ret
      exact ⟨ret_int HC.out.symm, HE.out⟩
    · have HZ : Hid (∀ z, WhereSh ss nm z → z = -1) := fun z hz => where_no hh hz
      by_cases h4 : ss.length = 4
      · have HC := Lib.hid (addCode_full hh h1 h4)
        have d4 : ((ss.length : Int) == 4) = true := by simp; omega
        clear h1 hh h4
        go_enter Try.func53, Try.ntmps53
        go_wp2_with fail
        refine (HN.out _).mono ?_
        rintro e w1 ⟨rfl, rfl⟩
        go_wp2_with fail
        refine HF.out.mono ?_
        rintro e w1 ⟨⟨z, rfl, hz⟩, hB1⟩
        obtain rfl := HZ.out z hz
        have c1 := cell_below hB1 c0
        have HE := Lib.hid (HB.out.trans (hB1.mono HB.out.size))
        clear hz hB1
        go_wp2
        go_ret
        exact ⟨ret_int HC.out.symm, HE.out⟩
      · have HC := Lib.hid (addCode_ok hh h1 h4)
        have d4 : ((ss.length : Int) == 4) = false := by simp; omega
        clear h1 hh h4
        go_enter Try.func53, Try.ntmps53
        go_wp2_with fail
        refine (HN.out _).mono ?_
        rintro e w1 ⟨rfl, rfl⟩
        go_wp2_with fail
        refine HF.out.mono ?_
        rintro e w1 ⟨⟨z, rfl, hz⟩, hB1⟩
        obtain rfl := HZ.out z hz
        have c1 := cell_below hB1 c0
        have HE := Lib.hid (HB.out.trans (hB1.mono HB.out.size))
        clear hz hB1
        go_wp2
        go_ret
        exact ⟨ret_int HC.out.symm, HE.out⟩
  · rw [tt_false h1] at HN
    have HC := Lib.hid (addCode_name (ss := ss) (.inr h1))
    clear h1
    go_enter Try.func53, Try.ntmps53
    go_wp2_with fail
    refine (HN.out _).mono ?_
    rintro e w1 ⟨rfl, rfl⟩
    go_wp2
    go_ret
    exact ⟨ret_int HC.out.symm, HB.out⟩

theorem makeTo_no {ss : List ShD} {nm : ByteArray} (h : ¬MdFine ss) : makeTo ss nm = ([], 4) := by unfold makeTo; rw [if_neg h]
theorem makeTo_yes {ss : List ShD} {nm : ByteArray} (h : MdFine ss) (hc : addCode ss nm = 0) : makeTo ss nm = (ss ++ [⟨nm, none3⟩], 0) := by unfold makeTo addTo; rw [if_pos h, if_pos hc, hc]
theorem makeTo_not {ss : List ShD} {nm : ByteArray} (h : MdFine ss) (hc : addCode ss nm ≠ 0) : makeTo ss nm = (ss, addCode ss nm) := by unfold makeTo addTo; rw [if_pos h, if_neg hc]

/-- make, by its run. -/
theorem step_make_run {P : Program} {ops : Array Oper} {Q : Exit → Act → World → Prop} {w w' : World} {o : Oper} {a : Act} {K : Act → World → Prop} {E : Prop} (hgd : o.guard = none) (l c : Operand) (t : TypeId) (d : Option Tmp)
    (ho : o.op = .makeSlice t l c) (hd : o.dst = d) (vl vc u : Value) (hl : a.eval l = vl) (hc : a.eval c = vc) (hrun : (Instr.makeSlice t vl vc).run P w = .ok u w')
    (h : K (a.put d u) w') : if Region.wanted o (yielded ops a.tmps) = true then Oper.wp P o a w K Q else E := by
  subst hd
  have hw : Region.wanted o (yielded ops a.tmps) = true := by simp [Region.wanted, hgd]
  rw [if_pos hw]
  unfold Oper.wp
  simp [execOp, ho, hl, hc, hrun, Result.andThen]
  exact h

theorem mk_three (w : World) : (Instr.makeSlice 33 (.int .i64 3) (.int .i64 3)).run Try.prog w.drew = .ok (.slice (some ⟨w.heap.size, 0, none⟩) 3 3) (w.alloc (.cells #[.string ByteArray.empty, .string ByteArray.empty, .string ByteArray.empty] 9)).drew := by
  have h := run_make_row' (P := Try.prog) 33 9 (.string ByteArray.empty) 16 Try.underlying33 infoTx rfl .i64 .i64 3 (by omega) (by omega) w.drew
  have e : madeCells #[Value.string ByteArray.empty] 3 = #[Value.string ByteArray.empty, Value.string ByteArray.empty, Value.string ByteArray.empty] := by
    have e0 : Array.range 3 = #[0, 1, 2] := by apply Array.toList_inj.1; rw [Array.toList_range]; rfl
    simp [madeCells, e0]
  rw [e] at h
  exact h

/-- A NEW ROW of three texts in which nothing is. -/
theorem own_three (w : World) : OwnTx (w.alloc (.cells #[.string ByteArray.empty, .string ByteArray.empty, .string ByteArray.empty] 9)) w.heap.size (.slice (some ⟨w.heap.size, 0, none⟩) none3.length 3) none3 :=
  ⟨rfl, .inr ⟨w.heap.size, 3, _, rfl, Nat.le_refl _, heap_alloc_new w _, Nat.le_refl _, by simp [maxLen], rfl, rfl⟩⟩

set_option linter.unusedSimpArgs false in
set_option maxRecDepth 100000 in
set_option maxHeartbeats 4000000 in
theorem specMake_any (a : Option Addr) (cap : Nat) (ss : List ShD) (nm : ByteArray) (w : World) (hs : MdSmall ss) (hn : nm.size ≤ maxLen) (hx : Hid (ShAt w a ss)) :
    Calls Try.prog 22 #[.agg #[.slice a ss.length cap], .string nm] w (MdDone (makeTo ss nm) w) := by
  obtain ⟨i0, hi0, hz0, hz1, hz2⟩ := info_parts infoSh
  obtain ⟨w0, HW, hB, hKM, hKR, hsz⟩ := two_boxes w (.slice a ss.length cap)
  have HB := Lib.hid hB
  have KM := Lib.hid hKM
  have KR := Lib.hid hKR
  have HX := Lib.hid (hx.out.below hB)
  have HM := Lib.hid (specMdOk_any a cap ss w0 hs HX)
  have m0 : w0.cell? ⟨w.heap.size, 0, none⟩ = some (.slice a ss.length cap) := hKM.cell 0
  have Hsz := Lib.hid hsz
  have hsl := hs.1
  clear hB hKM hKR hsz hs
  by_cases hok : MdFine ss
  · rw [tt_true hok] at HM
    have h4l := hok.1
    have HC := Lib.hid (fun W (h : Below w0.heap.size w0 W) => l14Copy_any a cap ss W hok (HX.out.below h))
    have HF := Lib.hid (fun W (h : Below w0.heap.size w0 W) => l14Add_any a cap ss nm W hsl hn (HX.out.below h))
    go_enter Try.func22, Try.ntmps22
    go_wp2_with fail
    clear HW
    refine HM.out.mono ?_
    rintro e w1 ⟨rfl, hB1⟩
    have m1 := cell_below hB1 m0
    have HB1 := Lib.hid hB1
    clear hB1
    go_wp2_with fail
    refine (HC.out _ HB1.out).mono ?_
    rintro e w2 ⟨b2, c2, rfl, hO, hB2⟩
    have m2 := cell_below hB2 m1
    have HB2 := Lib.hid (HB1.out.trans (hB2.mono HB1.out.size))
    have hBa : Below w2.heap.size w2 (w2.alloc (.cells #[.slice b2 ss.length c2] 25)) := (Below.refl _ _).alloc (Nat.le_refl _) _
    have HBa := Lib.hid (HB2.out.trans (hBa.mono HB2.out.size))
    have HO := Lib.hid ((hO.mono HB1.out.size).below hBa)
    have KO := Lib.hid (Blk.new w2 #[.slice b2 ss.length c2] 25)
    have ma := cell_below hBa m2
    have hs2 : w.heap.size + 2 ≤ w2.heap.size := by have := HB2.out.size; have := Hsz.out; omega
    clear hO hB2 hBa
    go_wp2_with fail
    generalize w2.alloc (.cells #[.slice b2 ss.length c2] 25) = wa at HBa HO KO ma ⊢
    refine (HF.out _ HBa.out).mono ?_
    rintro e w3 ⟨rfl, hB3⟩
    have HB3 := Lib.hid (HBa.out.trans (hB3.mono HBa.out.size))
    have HO3 := Lib.hid (HO.out.below hB3)
    have KO3 := Lib.hid (KO.out.below hB3 KO.out.lt)
    have KR3 := Lib.hid (KR.out.below HB3.out KR.out.lt)
    have HE3 := Lib.hid (HB.out.trans (HB3.out.mono HB.out.size))
    have o0 : w3.cell? ⟨w2.heap.size, 0, none⟩ = some (.slice b2 ss.length c2) := KO3.out.cell 0
    have q0 : w3.cell? ⟨w.heap.size + 1, 0, none⟩ = some (.slice none 0 0) := KR3.out.cell 0
    have fq := KR3.out.frozen 0
    clear hB3
    by_cases hc : addCode ss nm = 0
    · have HR := Lib.hid (makeTo_yes hok hc)
      rw [hc]
      clear hok hc
      have hB1 : Below w3.heap.size w3 (w3.alloc (.cells #[.string ByteArray.empty, .string ByteArray.empty, .string ByteArray.empty] 9)).drew := ((Below.refl _ _).alloc (Nat.le_refl _) _).drew
      have hB2 : Below w3.heap.size w3 ((w3.alloc (.cells #[.string ByteArray.empty, .string ByteArray.empty, .string ByteArray.empty] 9)).alloc (.cells #[.string nm, .slice (some ⟨w3.heap.size, 0, none⟩) 3 3] 35)).drew := (((Below.refl _ _).alloc (Nat.le_refl _) _).alloc (by simp) _).drew
      obtain ⟨ys, g, k1, k2, k3, k4⟩ := HO3.out.rows
      have hown := own_below k1 hB2
      have hbt := own_block_type hown
      have hyl : ys.length = ss.length * 2 := k1.1
      have hmk := mk_three w3
      have hx3 : OwnTx ((w3.alloc (.cells #[.string ByteArray.empty, .string ByteArray.empty, .string ByteArray.empty] 9)).alloc (.cells #[.string nm, .slice (some ⟨w3.heap.size, 0, none⟩) 3 3] 35)).drew w3.heap.size (.slice (some ⟨w3.heap.size, 0, none⟩) none3.length 3) none3 := own_below (own_three w3) (((Below.refl _ _).alloc (Nat.le_refl _) _).drew)
      obtain ⟨g2, cap2, w7, hr2, ho2, hg2, hat2, hl2⟩ := run_append_lies ((w3.alloc (.cells #[.string ByteArray.empty, .string ByteArray.empty, .string ByteArray.empty] 9)).alloc (.cells #[.string nm, .slice (some ⟨w3.heap.size, 0, none⟩) 3 3] 35)).drew 23 23 w0.heap.size 35 i0 _ 2 40 Try.underlying23 hi0 hz0 hz1 hz2 rfl (by omega) (.slice b2 ss.length c2) ss.length ys hown
        ⟨w3.heap.size + 1, 0, none⟩ 1 1 [.string nm, .slice (some ⟨w3.heap.size, 0, none⟩) 3 3] rfl (news_two (w3.alloc (.cells #[.string ByteArray.empty, .string ByteArray.empty, .string ByteArray.empty] 9)) _ _ _ _ (by simp)) (by simp [Value.oneCell']) (by omega) (by unfold maxLen; omega) (by omega) (by have := HB3.out.size; have := hB2.size; omega) _ rfl
      have hB7 : Below w.heap.size w w7 := (HE3.out.trans (hB2.mono HE3.out.size)).grown hg2 (by have := HE3.out.size; have := hB2.size; omega) (fun i e => by have := (hown.lt i e).1; have := HB.out.size; omega)
      have hne : ∀ D cs, Blk ((w3.alloc (.cells #[.string ByteArray.empty, .string ByteArray.empty, .string ByteArray.empty] 9)).alloc (.cells #[.string nm, .slice (some ⟨w3.heap.size, 0, none⟩) 3 3] 35)).drew D cs 25 → Blk w7 D cs 25 := fun D cs h => h.gb hg2 (own_blk_ne hown h (by decide))
      have KO7 := hne _ _ (KO3.out.below hB2 KO3.out.lt)
      have KR7 := hne _ _ (KR3.out.below hB2 KR3.out.lt)
      have hO7 : OwnSh w7 w0.heap.size (.slice (some ⟨g2, 0, none⟩) (ss.length + 1) cap2) (ss ++ [⟨nm, none3⟩]) :=
        OwnSh.more (w0 := w3) (base' := w3.heap.size) (fun j hj => (k2 j hj).below hB2) k3 k4 hyl hx3 (Nat.le_refl _) HB3.out.size ho2 hg2 hbt
      have hO8 := (hO7.other KO7 (by decide) (by decide) 0 (.slice (some ⟨g2, 0, none⟩) (ss.length + 1) cap2)).far (w.heap.size + 1) 0 (.slice (some ⟨g2, 0, none⟩) (ss.length + 1) cap2) (by have := Hsz.out; omega)
      have HO8 := Lib.hid (hO8.mono (show w.heap.size ≤ w0.heap.size from HB.out.size))
      have HB8 := Lib.hid ((hB7.setCell (p := ⟨w2.heap.size, 0, none⟩) (by show w.heap.size ≤ w2.heap.size; omega) (.slice (some ⟨g2, 0, none⟩) (ss.length + 1) cap2)).setCell (p := ⟨w.heap.size + 1, 0, none⟩) (by simp) (.slice (some ⟨g2, 0, none⟩) (ss.length + 1) cap2))
      have o1 := cell_below hB1 o0
      have o2 := cell_below hB2 o0
      have o7 : w7.cell? ⟨w2.heap.size, 0, none⟩ = some (.slice b2 ss.length c2) := KO7.cell 0
      have fo7 := KO7.frozen 0
      have o8 : (w7.setCell ⟨w2.heap.size, 0, none⟩ (.slice (some ⟨g2, 0, none⟩) (ss.length + 1) cap2)).cell? ⟨w2.heap.size, 0, none⟩ = some (.slice (some ⟨g2, 0, none⟩) (ss.length + 1) cap2) := (KO7.set 0 _).cell 0
      have KR8 := KR7.other w2.heap.size 0 (.slice (some ⟨g2, 0, none⟩) (ss.length + 1) cap2) (by omega)
      have q8 : (w7.setCell ⟨w2.heap.size, 0, none⟩ (.slice (some ⟨g2, 0, none⟩) (ss.length + 1) cap2)).cell? ⟨w.heap.size + 1, 0, none⟩ = some (.slice none 0 0) := KR8.cell 0
      have fq8 := KR8.frozen 0
      clear hB1 hB2 k1 k2 k3 k4 hown hbt hyl hx3 ho2 hg2 hat2 hl2 hB7 hne KO7 KR7 KR8 hO7 hO8 HM m0 m1 m2 ma
      go_wp2_with fail
      refine AnyS.start (S := (fun w' : World => w'.cell? ⟨w2.heap.size, 0, none⟩ = some (.slice b2 ss.length c2))) (L := 8) (by kernel_rfl) ?_
      refine AnyS.take 0 (show _ = some _ from rfl) rfl (by kernel_rfl) (by kernel_rfl) (by kernel_rfl) (by kernel_rfl) (fun _ _ _ h => h) o0 (by rfl) (fun w' hSw => by obtain s1 := hSw; go_simp; try with_reducible rfl) ?_
      try simp only [Act.put, List.setIfInBounds_toArray, List.set_cons_zero, List.set_cons_succ]
      refine AnyS.take 1 (show _ = some _ from rfl) rfl (by kernel_rfl) (by kernel_rfl) (by kernel_rfl) (by kernel_rfl) (fun _ _ _ h => h) o0 (by rfl) (fun w' hSw => by obtain s1 := hSw; go_simp; try with_reducible rfl) ?_
      try simp only [Act.put, List.setIfInBounds_toArray, List.set_cons_zero, List.set_cons_succ]
      refine AnyS.take 2 (show _ = some _ from rfl) rfl (by kernel_rfl) (by kernel_rfl) (by kernel_rfl) (by kernel_rfl) (fun _ _ _ h => h) o0 (by rfl) (fun w' hSw => by obtain s1 := hSw; go_simp; try with_reducible rfl) ?_
      try simp only [Act.put, List.setIfInBounds_toArray, List.set_cons_zero, List.set_cons_succ]
      refine AnyS.one 3 (by kernel_rfl) (show _ = some _ from rfl) (fun K' hK' => step_make_run (by rfl) _ _ _ _ (by rfl) (by rfl) _ _ _ (by rfl) (by rfl) hmk (hK' _ _ ⟨?_, fun _ => o1⟩))
      try simp only [Act.put, List.setIfInBounds_toArray, List.set_cons_zero, List.set_cons_succ]
      refine AnyS.take 4 (show _ = some _ from rfl) rfl (by kernel_rfl) (by kernel_rfl) (by kernel_rfl) (by kernel_rfl) (fun _ _ _ h => h) o1 (by rfl) (fun w' hSw => by obtain s1 := hSw; go_simp; try with_reducible rfl) ?_
      try simp only [Act.put, List.setIfInBounds_toArray, List.set_cons_zero, List.set_cons_succ]
      refine AnyS.one 5 (by kernel_rfl) (show _ = some _ from rfl) (fun K' hK' => ?_)
      go_simp
      refine hK' _ _ ⟨?_, fun _ => o2⟩
      clear hK' K'
      try simp only [Act.put, List.setIfInBounds_toArray, List.set_cons_zero, List.set_cons_succ]
      refine AnyS.one 6 (by kernel_rfl) (show _ = some _ from rfl) (fun K' hK' => step_append_run (by rfl) _ _ _ _ (by rfl) (by rfl) _ _ _ (by rfl) (by rfl) hr2 (hK' _ _ ⟨?_, fun _ => o7⟩))
      try simp only [Act.put, List.setIfInBounds_toArray, List.set_cons_zero, List.set_cons_succ]
      refine AnyS.take 7 (show _ = some _ from rfl) rfl (by kernel_rfl) (by kernel_rfl) (by kernel_rfl) (by kernel_rfl) (fun _ _ _ h => h) o7 (by rfl) (fun w' hSw => by obtain s1 := hSw; go_simp; try with_reducible rfl) ?_
      try simp only [Act.put, List.setIfInBounds_toArray, List.set_cons_zero, List.set_cons_succ]
      refine AnyS.one 8 (by kernel_rfl) (show _ = some _ from rfl) (fun K' hK' => ?_)
      go_simp
      refine hK' _ _ ⟨AnyS.done (by kernel_rfl) ?_, fun h => absurd rfl h⟩
      clear hK' K'
      try simp only [Act.put, List.setIfInBounds_toArray, List.set_cons_zero, List.set_cons_succ]
      go_wp2
      refine bodyPost_ret (v := .tuple #[.agg #[.slice (some ⟨g2, 0, none⟩) (ss.length + 1) cap2], .int .i64 0]) (by simp [results, Try.results22, go_sem, q8]) rfl (mdDone HR.out HO8.out HB8.out)
    · have HR := Lib.hid (makeTo_not hok hc)
      generalize hcc : addCode ss nm = cc at HR hc
      have Hcc := Lib.hid hcc
      have hd : (cc == (0 : Int)) = false := by simpa using hc
      clear hok hc hcc HM m0 m1 m2 ma
      go_wp2
      refine bodyPost_ret (v := .tuple #[.agg #[.slice b2 ss.length c2], .int .i64 cc]) (by simp [results, Try.results22, go_sem, q0]) rfl (mdDone HR.out ?_ (HE3.out.setCell (p := ⟨w.heap.size + 1, 0, none⟩) (by simp) _))
      exact (HO3.out.far _ _ _ (by have := Hsz.out; omega)).mono (by have := Hsz.out; omega)
  · rw [tt_false hok] at HM
    have HR := Lib.hid (makeTo_no (nm := nm) hok)
    clear hok
    go_enter Try.func22, Try.ntmps22
    go_wp2_with fail
    clear HW
    refine HM.out.mono ?_
    rintro e w1 ⟨rfl, hB1⟩
    have HE := Lib.hid (HB.out.trans (hB1.mono HB.out.size))
    have KR1 := Lib.hid (KR.out.below hB1 KR.out.lt)
    have q0 : w1.cell? ⟨w.heap.size + 1, 0, none⟩ = some (.slice none 0 0) := KR1.out.cell 0
    have fq := KR1.out.frozen 0
    clear hB1
    go_wp2
    exact bodyPost_ret (v := .tuple #[.agg #[.slice none 0 0], .int .i64 4]) (by simp [results, Try.results22, go_sem, q0]) rfl (mdDone HR.out (OwnSh.nil _ _) (HE.out.setCell (p := ⟨w.heap.size + 1, 0, none⟩) (by simp) _))

end Go.Proofs.Ytmmckpjapnkepaa

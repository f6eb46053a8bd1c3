/- ModelDrop of the program. Conditions: none but the row's own bound on sizes. -/
import Derived.Test.YtmmckpjapnkepaaIM
import Derived.Test.YtmmckpjapnkepaaIR
namespace Go.Proofs.Ytmmckpjapnkepaa
open Go.RowKit Go.Sort Go.Lib Go.Maps

theorem codeIn_drop (ss : List ShD) (nm : ByteArray) : CodeIn (dropTo ss nm).2 := by
  unfold dropTo
  split
  · split
    · exact .inl rfl
    · exact .inr (.inr (.inl rfl))
  · exact .inr (.inr (.inr (.inr rfl)))

set_option maxRecDepth 100000 in
set_option maxHeartbeats 4000000 in
theorem drop_any (base D : Nat) (ss : List ShD) (nm : ByteArray) (w : World) (hbs : base ≤ w.heap.size) (hL : Lib w base D ss) (hok : MdFine ss) (hn : nm.size ≤ maxLen) :
    Calls Try.prog 60 #[.pointer (some ⟨D, 0, none⟩), .string nm] w (DoneLib base D (dropTo ss nm) w) := by
  have HLI := Lib.hid hL
  obtain ⟨v, bm, n, h1, h2, h3, h4, h5, h6⟩ := hL
  have m0 : w.cell? ⟨D, 0, none⟩ = some v := h4.cell 0
  have m1 : w.cell? ⟨D, 1, none⟩ = some (.map (some bm)) := h4.cell 1
  by_cases hh : HasNm ss nm
  · have HR := Lib.hid (dropTo_any hok hh)
    have hat := whereSh_at hh
    have hlook := look_at hok.2.2 h6 hat hn
    have h4l := hok.1
    generalize whereSh ss nm = k at hlook hat HR
    obtain ⟨hk, _⟩ := hat
    have hsm := (fine_erase hok hk).small.2
    have hlen := erase_len hk
    have hrd := h5.reads
    obtain ⟨ys, g, k1, k2, k3⟩ := h5
    obtain ⟨gs, cs, rfl, hgb, hgl⟩ := World.ownsRow.form k1 (by omega)
    have hcs : ss.length ≤ cs := by
      obtain ⟨_, _, e4, h4', _⟩ := hrd
      injection e4 with _ _ e4
      omega
    have HD := Lib.hid (slDelete_any base gs cs k ss ys g w k1 k2 hk h4l hcs)
    have hne : gs ≠ D := fun e => own_blk_ne k1 h4 (by decide) (congrArg some e)
    have hBd : Below w.heap.size w w.drew := (Below.refl _ w).drew
    have hE := OwnSh.erase (own_below k1 hBd) (fun j hj => (k2 j hj).below hBd) k3 hk zeroSh
    obtain ⟨W2, hW2⟩ : ∃ W2, (w.drew.setCells gs (k * 2) (ys.drop ((k + 1) * 2))).setCells gs ((ss.length - 1) * 2) zeroSh = W2 := ⟨_, rfl⟩
    have hK2 : Blk W2 D #[.slice (some ⟨gs, 0, none⟩) ss.length cs, .map (some bm)] 93 := hW2 ▸ Blk.setCells_other hne _ _ _ (Blk.setCells_other hne _ _ _ (h4.below hBd h4.lt))
    have hB2 : Below base w W2 := hW2 ▸ Below.setCells_own hgb _ _ _ (Below.setCells_own hgb _ _ _ (hBd.mono hbs))
    rw [hW2] at HD hE
    obtain ⟨q1, hq1⟩ : ∃ q, q = k + 1 := ⟨_, rfl⟩
    rw [← hq1] at HD
    have hwr : IntKind.i64.wrap ((k : Int) + 1) = (q1 : Int) := by rw [IntKind.wrap_i64]; omega
    obtain ⟨ss', hss⟩ : ∃ s, s = ss.eraseIdx k := ⟨_, rfl⟩
    rw [← hss] at HR hsm hlen hE
    rw [← hlen] at HD hE
    have hl100 : ss'.length ≤ 100 := by omega
    have hEA := hE.other hK2 (by decide) (by decide) 0 (.slice (some ⟨gs, 0, none⟩) ss'.length cs)
    have hKA : Blk (W2.setCell ⟨D, 0, none⟩ (.slice (some ⟨gs, 0, none⟩) ss'.length cs)) D #[.slice (some ⟨gs, 0, none⟩) ss'.length cs, .map (some bm)] 93 := hK2.set 0 _
    have hBA := hB2.setCell (p := ⟨D, 0, none⟩) h1 (.slice (some ⟨gs, 0, none⟩) ss'.length cs)
    have HSP := Lib.hid (shelfPlaces_any (some ⟨gs, 0, none⟩) cs ss' (W2.setCell ⟨D, 0, none⟩ (.slice (some ⟨gs, 0, none⟩) ss'.length cs)) hl100 hsm hEA.reads.at)
    have d0 : W2.cell? ⟨D, 0, none⟩ = some (.slice (some ⟨gs, 0, none⟩) ss.length cs) := hK2.cell 0
    have df := hK2.frozen 0
    have dA : (W2.setCell ⟨D, 0, none⟩ (.slice (some ⟨gs, 0, none⟩) ss'.length cs)).cell? ⟨D, 0, none⟩ = some (.slice (some ⟨gs, 0, none⟩) ss'.length cs) := hKA.cell 0
    have HEA := Lib.hid hEA
    have HKA := Lib.hid hKA
    have HBA := Lib.hid hBA
    have HH1 := Lib.hid h1
    clear h3 h4 h6 hh hk k1 k2 k3 hE hK2 hB2 hEA hKA hBA hsm hok hn hrd hq1 hss hlen hW2 h2 hcs h4l hl100 hgb hgl hne hBd
    go_enter Try.func60, Try.ntmps60
    go_wp2_with fail
    refine HD.out.mono ?_
    rintro e w2 ⟨rfl, rfl⟩
    go_wp2_with fail
    generalize w2.setCell ⟨D, 0, none⟩ (.slice (some ⟨gs, 0, none⟩) ss'.length cs) = wA at HSP HEA HKA HBA dA ⊢
    refine HSP.out.mono ?_
    rintro e w3 ⟨rfl, hP, hB3⟩
    have hK3 := HKA.out.below hB3 HKA.out.lt
    have z1 : w3.cell? ⟨D, 1, none⟩ = some (.map (some bm)) := hK3.cell 1
    have zf := hK3.frozen 1
    have hlt := HKA.out.lt
    have hbA := HBA.out.size
    have HL3 : Hid (Lib (w3.setCell ⟨D, 1, none⟩ (.map (some wA.heap.size))) base D ss') :=
      ⟨_, wA.heap.size, ss'.length, HH1.out, by omega, Nat.le_refl _, hK3.set 1 _, (HEA.out.below hB3).other hK3 (by decide) (by decide) 1 _, hP.setCell (a := ⟨D, 1, none⟩) (by show wA.heap.size ≠ D; omega) _⟩
    have HB3 := Lib.hid ((HBA.out.trans (hB3.mono (by omega))).setCell (p := ⟨D, 1, none⟩) HH1.out (.map (some wA.heap.size)))
    clear hP hB3 hK3 hlt hbA
    go_wp2
    go_ret
    exact doneLib HR.out rfl HL3.out HB3.out
  · have HR := Lib.hid (dropTo_none hok hh)
    have hlook := h6.miss hh hn
    clear hh h4 h5 h6 h1 h2 h3 hok hn
    go_enter Try.func60, Try.ntmps60
    go_wp2
    go_ret
    exact doneLib HR.out rfl HLI.out (Below.refl _ _)

set_option maxRecDepth 100000 in
set_option maxHeartbeats 1000000 in
theorem drop1_any (base D p1 : Nat) (ss : List ShD) (nm : ByteArray) (w : World) (hbs : base ≤ w.heap.size) (hL : Lib w base D ss) (hok : MdFine ss) (hn : nm.size ≤ maxLen)
    (c1 : w.cell? ⟨p1, 0, none⟩ = some (.string nm)) :
    Calls Try.prog 59 #[.pointer (some ⟨D, 0, none⟩), .pointer (some ⟨p1, 0, none⟩)] w (DoneLib base D (dropTo ss nm) w) := by
  have HW := Lib.hid (drop_any base D ss nm w hbs hL hok hn)
  clear hL hok hn hbs
  go_enter Try.func59, Try.ntmps59
  go_wp2_with fail
  refine HW.out.mono ?_
  rintro e w1 ⟨rfl, hL, hB⟩
  have H := Lib.hid (And.intro hL hB)
  clear hL hB
  generalize hv : wrV (dropTo ss nm).2 = v
  have HV := Lib.hid hv
  clear hv
  go_wp2
  go_ret
  exact ⟨ret_v HV.out.symm, H.out.1, H.out.2⟩

set_option maxRecDepth 100000 in
set_option maxHeartbeats 2000000 in
theorem implDrop_any (a : Option Addr) (cap : Nat) (ss : List ShD) (nm : ByteArray) (w : World) (hs : MdSmall ss) (hn : nm.size ≤ maxLen) (hx : Hid (ShAt w a ss)) :
    Calls Try.prog 24 #[.agg #[.slice a ss.length cap], .string nm] w (MdDone (dropTo ss nm) w) := by
  obtain ⟨w0, HW, hB, hK, hsz, k1⟩ : ∃ w0, (((w.alloc (.cells #[.slice a ss.length cap] 25)).alloc (.cells #[.string nm] 9)).alloc (.cells #[.slice none 0 0] 25)) = w0 ∧ Below w.heap.size w w0 ∧ Blk w0 (w.heap.size + 1 + 1) #[.slice none 0 0] 25 ∧ (w0.heap.size = w.heap.size + 3 ∧ w0.cell? ⟨w.heap.size, 0, none⟩ = some (.slice a ss.length cap)) ∧ w0.cell? ⟨w.heap.size + 1, 0, none⟩ = some (.string nm) := by
    refine ⟨_, rfl, (((Below.refl _ _).alloc (Nat.le_refl _) _).alloc (by simp; try omega) _).alloc (by simp; try omega) _, ?_, ⟨by simp, by simp [go_sem]⟩, by simp [go_sem]⟩
    have := Blk.new ((w.alloc (.cells #[.slice a ss.length cap] 25)).alloc (.cells #[.string nm] 9)) #[.slice none 0 0] 25
    simp only [World.size_alloc] at this
    exact this
  obtain ⟨hsz, m0⟩ := hsz
  have HB := Lib.hid hB
  have KR := Lib.hid hK
  have Hsz := Lib.hid hsz
  have HX := Lib.hid (hx.out.below hB)
  have HRR : Hid (Calls Try.prog 42 #[.agg #[.slice a ss.length cap], .func (.func 59) #[] #[.pointer (some ⟨w.heap.size + 1, 0, none⟩)]] w0 (MdDone (dropTo ss nm) w0)) := by
    by_cases hok : MdFine ss
    · exact rearranged1_ok _ _ a cap ss _ w0 hok (codeIn_drop ss nm) HX (enters_of Try.func59 (by kernel_rfl) rfl) (fun base D W hBW hb0 hbW hL => drop1_any base D _ ss nm W hbW hL hok hn (cell_below hBW k1))
    · rw [dropTo_no hok]
      exact rearranged1_no _ _ a cap ss w0 hs hok HX
  clear hB hK hsz hs
  go_enter Try.func24, Try.ntmps24
  go_wp2_with fail
  clear HW
  refine HRR.out.mono ?_
  rintro e w1 ⟨v, rfl, hO, hB1⟩
  obtain ⟨av, cv, rfl, _⟩ := hO.reads
  have HO := Lib.hid (hO.mono (show w.heap.size + 1 ≤ w0.heap.size by have := Hsz.out; omega))
  have HO0 := Lib.hid hO
  have KR1 := Lib.hid (KR.out.below hB1 KR.out.lt)
  have q0 : w1.cell? ⟨w.heap.size + 1 + 1, 0, none⟩ = some (.slice none 0 0) := KR1.out.cell 0
  have fq := KR1.out.frozen 0
  have HE := Lib.hid (HB.out.trans (hB1.mono HB.out.size))
  clear hO hB1 k1 m0
  generalize hc : (dropTo ss nm).2 = c
  have HC := Lib.hid hc
  clear hc
  go_wp2
  refine bodyPost_ret (v := .tuple #[.agg #[.slice av (dropTo ss nm).1.length cv], .int .i64 c]) (by simp [results, Try.results24, go_sem, q0]) rfl ⟨_, by rw [HC.out], (HO0.out.far _ _ _ (by have := Hsz.out; omega)).mono (by have := Hsz.out; omega), HE.out.setCell (p := ⟨w.heap.size + 1 + 1, 0, none⟩) (by simp; try omega) _⟩

end Go.Proofs.Ytmmckpjapnkepaa

/- ModelCopy of the program. Conditions: none but the row's own bound on sizes. -/
import Derived.Test.YtmmckpjapnkepaaIM
namespace Go.Proofs.Ytmmckpjapnkepaa
open Go.RowKit Go.Sort Go.Lib Go.Maps

theorem copyTo_no {ss : List ShD} {fr nm : ByteArray} (h : ¬MdFine ss) : copyTo ss fr nm = ([], 4) := by unfold copyTo; rw [if_neg h]
theorem copyTo_none {ss : List ShD} {fr nm : ByteArray} (h : MdFine ss) (hh : ¬HasNm ss fr) : copyTo ss fr nm = (ss, 2) := by unfold copyTo; rw [if_pos h, if_neg hh]
theorem copyTo_any {ss : List ShD} {fr nm : ByteArray} (h : MdFine ss) (hh : HasNm ss fr) : copyTo ss fr nm = (addTo ss nm (blAt ss (whereSh ss fr)), addCode ss nm) := by unfold copyTo; rw [if_pos h, if_pos hh]
theorem codeIn_copy (ss : List ShD) (fr nm : ByteArray) : CodeIn (copyTo ss fr nm).2 := by
  unfold copyTo
  split
  · split
    · exact addCode_in ss nm
    · exact .inr (.inr (.inl rfl))
  · exact .inr (.inr (.inr (.inr rfl)))

set_option maxRecDepth 100000 in
set_option maxHeartbeats 4000000 in
theorem twin_any (base D : Nat) (ss : List ShD) (fr nm : ByteArray) (w : World) (hbs : base ≤ w.heap.size) (hL : Lib w base D ss) (hok : MdFine ss) (hf : fr.size ≤ maxLen) (hn : nm.size ≤ 1048576) :
    Calls Try.prog 55 #[.pointer (some ⟨D, 0, none⟩), .string fr, .string nm] w (DoneLib base D (copyTo ss fr nm) w) := by
  have HLI := Lib.hid hL
  obtain ⟨v, bm, n, h1, h2, h3, h4, h5, h6⟩ := hL
  have m0 : w.cell? ⟨D, 0, none⟩ = some v := h4.cell 0
  have m1 : w.cell? ⟨D, 1, none⟩ = some (.map (some bm)) := h4.cell 1
  by_cases hh : HasNm ss fr
  · have HR := Lib.hid (copyTo_any (nm := nm) hok hh)
    have hat := whereSh_at hh
    have hlook := look_at hok.2.2 h6 hat hf
    have h4l := hok.1
    generalize whereSh ss fr = k at hlook hat HR
    obtain ⟨hk, _⟩ := hat
    have hfin := hok.2.1 k hk
    have hblk : (ss.getD k sh0).blocks = blAt ss k := rfl
    obtain ⟨ys, g, k1, k2, k3⟩ := h5
    obtain ⟨c0, cp, c1, c2⟩ := k2 k hk
    have hxl : (ss.getD k sh0).blocks.length = 3 := hfin.2.1
    have hxs := hfin.2.2
    have HT : Hid (TxAt w (some ⟨g k, 0, none⟩) (ss.getD k sh0).blocks) := by
      obtain ⟨a, cq, e, _, _, h⟩ := OwnTx.reads c2
      injection e with e
      show TxAt _ _ _
      rw [e]; exact h
    obtain ⟨gs, cs, rfl, _, _⟩ := World.ownsRow.form k1 (by omega)
    have e0 := (own_cell k1 (k * 2) (by omega)).1.trans c0
    have e1 := (own_cell k1 (k * 2 + 1) (by omega)).1.trans c1
    have i0 : (0 : Int) ≤ (k : Int) := by omega
    have i1 : (k : Int) < (ss.length : Int) := by omega
    generalize (ss.getD k sh0).name = nm0 at e0
    rw [← hblk] at HR
    clear hblk c0 c1 c2 k1 k2 k3 h4 h6 hh hfin
    generalize (ss.getD k sh0).blocks = xs at e1 HR hxl hxs HT
    have HXS := Lib.hid hxs
    have HSC := Lib.hid (shelfCopy_any nm0 nm (some ⟨g k, 0, none⟩) cp xs w hn (by omega) (by omega) (fun j hj => by have := HXS.out j hj; unfold Short9 at this; omega) HT)
    have HAD := Lib.hid (fun gx cx W (hB : Below w.heap.size w W) (hx : OwnTx W w.heap.size (.slice (some ⟨gx, 0, none⟩) xs.length cx) xs) => libAdd_any base D gx cx ss nm xs w W hbs HLI.out hB hok (by unfold maxLen; omega) hx)
    clear hxs hxl hok h1 h2 h3 hf hn
    go_enter Try.func55, Try.ntmps55
    go_wp2_with fail
    refine HSC.out.mono ?_
    rintro e w2 ⟨gx, cx, rfl, hx2, hB2⟩
    have HA2 := Lib.hid (HAD.out gx cx w2 hB2 hx2)
    have HB2 := Lib.hid (hB2.mono hbs)
    clear hx2 hB2
    go_wp2_with fail
    refine HA2.out.mono ?_
    rintro e w3 ⟨rfl, hL3, hB3⟩
    have HL3 := Lib.hid hL3
    have HB3 := Lib.hid (HB2.out.trans hB3)
    generalize hv : wrV (addTo ss nm xs, addCode ss nm).2 = v
    have HV := Lib.hid hv
    clear hv hL3 hB3
    go_wp2
    go_ret
    exact doneLib HR.out HV.out.symm HL3.out HB3.out
  · have HR := Lib.hid (copyTo_none (nm := nm) hok hh)
    have hlook := h6.miss hh hf
    clear hh h4 h5 h6 h1 h2 h3 hok hf hn
    go_enter Try.func55, Try.ntmps55
    go_wp2
    go_ret
    exact doneLib HR.out rfl HLI.out (Below.refl _ _)

set_option maxRecDepth 100000 in
set_option maxHeartbeats 1000000 in
theorem copy1_any (base D p1 p2 : Nat) (ss : List ShD) (fr nm : ByteArray) (w : World) (hbs : base ≤ w.heap.size) (hL : Lib w base D ss) (hok : MdFine ss) (hf : fr.size ≤ maxLen) (hn : nm.size ≤ 1048576)
    (c1 : w.cell? ⟨p1, 0, none⟩ = some (.string fr)) (c2 : w.cell? ⟨p2, 0, none⟩ = some (.string nm)) :
    Calls Try.prog 54 #[.pointer (some ⟨D, 0, none⟩), .pointer (some ⟨p1, 0, none⟩), .pointer (some ⟨p2, 0, none⟩)] w (DoneLib base D (copyTo ss fr nm) w) := by
  have HW := Lib.hid (twin_any base D ss fr nm w hbs hL hok hf hn)
  clear hL hok hf hn hbs
  go_enter Try.func54, Try.ntmps54
  go_wp2_with fail
  refine HW.out.mono ?_
  rintro e w1 ⟨rfl, hL, hB⟩
  have H := Lib.hid (And.intro hL hB)
  clear hL hB
  generalize hv : wrV (copyTo ss fr nm).2 = v
  have HV := Lib.hid hv
  clear hv
  go_wp2
  go_ret
  exact ⟨ret_v HV.out.symm, H.out.1, H.out.2⟩

set_option maxRecDepth 100000 in
set_option maxHeartbeats 2000000 in
theorem implCopy_any (a : Option Addr) (cap : Nat) (ss : List ShD) (fr nm : ByteArray) (w : World) (hs : MdSmall ss) (hf : fr.size ≤ maxLen) (hn : nm.size ≤ 1048576) (hx : Hid (ShAt w a ss)) :
    Calls Try.prog 20 #[.agg #[.slice a ss.length cap], .string fr, .string nm] w (MdDone (copyTo ss fr nm) w) := by
  obtain ⟨w0, HW, hB, hK, hsz, k1, k2⟩ : ∃ w0, ((((w.alloc (.cells #[.slice a ss.length cap] 25)).alloc (.cells #[.string fr] 9)).alloc (.cells #[.string nm] 9)).alloc (.cells #[.slice none 0 0] 25)) = w0 ∧ Below w.heap.size w w0 ∧ Blk w0 (w.heap.size + 1 + 1 + 1) #[.slice none 0 0] 25 ∧ (w0.heap.size = w.heap.size + 4 ∧ w0.cell? ⟨w.heap.size, 0, none⟩ = some (.slice a ss.length cap)) ∧ w0.cell? ⟨w.heap.size + 1, 0, none⟩ = some (.string fr) ∧ w0.cell? ⟨w.heap.size + 1 + 1, 0, none⟩ = some (.string nm) := by
    refine ⟨_, rfl, ((((Below.refl _ _).alloc (Nat.le_refl _) _).alloc (by simp; try omega) _).alloc (by simp; try omega) _).alloc (by simp; try omega) _, ?_, ⟨by simp, by simp [go_sem]⟩, by simp [go_sem], by simp [go_sem]⟩
    have := Blk.new (((w.alloc (.cells #[.slice a ss.length cap] 25)).alloc (.cells #[.string fr] 9)).alloc (.cells #[.string nm] 9)) #[.slice none 0 0] 25
    simp only [World.size_alloc] at this
    exact this
  obtain ⟨hsz, m0⟩ := hsz
  have HB := Lib.hid hB
  have KR := Lib.hid hK
  have Hsz := Lib.hid hsz
  have HX := Lib.hid (hx.out.below hB)
  have HRR : Hid (Calls Try.prog 42 #[.agg #[.slice a ss.length cap], .func (.func 54) #[] #[.pointer (some ⟨w.heap.size + 1, 0, none⟩), .pointer (some ⟨w.heap.size + 1 + 1, 0, none⟩)]] w0 (MdDone (copyTo ss fr nm) w0)) := by
    by_cases hok : MdFine ss
    · exact rearranged2_ok _ _ _ a cap ss _ w0 hok (codeIn_copy ss fr nm) HX (enters_of Try.func54 (by kernel_rfl) rfl) (fun base D W hBW hb0 hbW hL => copy1_any base D _ _ ss fr nm W hbW hL hok hf hn (cell_below hBW k1) (cell_below hBW k2))
    · rw [copyTo_no hok]
      exact rearranged2_no _ _ _ a cap ss w0 hs hok HX
  clear hB hK hsz hs
  go_enter Try.func20, Try.ntmps20
  go_wp2_with fail
  clear HW
  refine HRR.out.mono ?_
  rintro e w1 ⟨v, rfl, hO, hB1⟩
  obtain ⟨av, cv, rfl, _⟩ := hO.reads
  have HO := Lib.hid (hO.mono (show w.heap.size + 1 ≤ w0.heap.size by have := Hsz.out; omega))
  have HO0 := Lib.hid hO
  have KR1 := Lib.hid (KR.out.below hB1 KR.out.lt)
  have q0 : w1.cell? ⟨w.heap.size + 1 + 1 + 1, 0, none⟩ = some (.slice none 0 0) := KR1.out.cell 0
  have fq := KR1.out.frozen 0
  have HE := Lib.hid (HB.out.trans (hB1.mono HB.out.size))
  clear hO hB1 k1 k2 m0
  generalize hc : (copyTo ss fr nm).2 = c
  have HC := Lib.hid hc
  clear hc
  go_wp2
  refine bodyPost_ret (v := .tuple #[.agg #[.slice av (copyTo ss fr nm).1.length cv], .int .i64 c]) (by simp [results, Try.results20, go_sem, q0]) rfl ⟨_, by rw [HC.out], (HO0.out.far _ _ _ (by have := Hsz.out; omega)).mono (by have := Hsz.out; omega), HE.out.setCell (p := ⟨w.heap.size + 1 + 1 + 1, 0, none⟩) (by simp; try omega) _⟩

end Go.Proofs.Ytmmckpjapnkepaa

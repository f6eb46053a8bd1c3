/- Reading a block, of the specification. Conditions: none but the row's own bound on sizes. -/
import Derived.Test.YtmmckpjapnkepaaI1
namespace Go.Proofs.Ytmmckpjapnkepaa
open Go.RowKit Go.Sort

theorem where_yes {ss : List ShD} (hd : Distinct ss) {nm : ByteArray} (h : HasNm ss nm) {z : Int} (hz : WhereSh ss nm z) : z = (whereSh ss nm : Int) := by
  rcases hz with ⟨k, rfl, hk, _⟩ | ⟨_, hn⟩
  · rw [whereSh_eq hd hk]
  · exact (hn h).elim
theorem where_no {ss : List ShD} {nm : ByteArray} (h : ¬HasNm ss nm) {z : Int} (hz : WhereSh ss nm z) : z = -1 := by
  rcases hz with ⟨k, rfl, hk, _⟩ | ⟨e, _⟩
  · exact (h ⟨k, hk⟩).elim
  · exact e
theorem readCode_no {ss : List ShD} {nm : ByteArray} {b : Int} (h : ¬MdFine ss) : readCode ss nm b = 4 := by unfold readCode; rw [if_neg h]
theorem readCode_none {ss : List ShD} {nm : ByteArray} {b : Int} (h : MdFine ss) (hn : ¬HasNm ss nm) : readCode ss nm b = 2 := by unfold readCode; rw [if_pos h, if_neg hn]
theorem readCode_bad {ss : List ShD} {nm : ByteArray} {b : Int} (h : MdFine ss) (hn : HasNm ss nm) (hb : ¬(0 ≤ b ∧ b ≤ 2)) : readCode ss nm b = 4 := by unfold readCode; rw [if_pos h, if_pos hn, if_neg hb]
theorem readCode_ok {ss : List ShD} {nm : ByteArray} {b : Int} (h : MdFine ss) (hn : HasNm ss nm) (hb : 0 ≤ b ∧ b ≤ 2) : readCode ss nm b = 0 := by unfold readCode; rw [if_pos h, if_pos hn, if_pos hb]
theorem readTo_ok {ss : List ShD} {nm : ByteArray} {b : Int} (h : readCode ss nm b = 0) : readTo ss nm b = (blAt ss (whereSh ss nm)).getD b.toNat ByteArray.empty := by unfold readTo; rw [if_pos h]
theorem readTo_not {ss : List ShD} {nm : ByteArray} {b : Int} (h : readCode ss nm b ≠ 0) : readTo ss nm b = ByteArray.empty := by unfold readTo; rw [if_neg h]
theorem ret_si {a b : ByteArray} {x y : Int} (h : a = b) (k : x = y) : Ending.returned (.tuple #[.string a, .int .i64 x]) = .returned (.tuple #[.string b, .int .i64 y]) := by rw [h, k]

set_option maxRecDepth 100000 in
set_option maxHeartbeats 2000000 in
theorem specMdRead_any (a : Option Addr) (cap : Nat) (ss : List ShD) (nm : ByteArray) (b : Int) (w : World) (hs : MdSmall ss) (hx : Hid (ShAt w a ss)) :
    Calls Try.prog 32 #[.agg #[.slice a ss.length cap], .string nm, .int .i64 b] w fun e w' => e = .returned (.tuple #[.string (readTo ss nm b), .int .i64 (readCode ss nm b)]) ∧ Below w.heap.size w w' := by
  have hB : Below w.heap.size w (w.alloc (.cells #[.slice a ss.length cap] 25)) := (Below.refl _ _).alloc (Nat.le_refl _) _
  have HB := Lib.hid hB
  have c0 : (w.alloc (.cells #[.slice a ss.length cap] 25)).cell? ⟨w.heap.size, 0, none⟩ = some (.slice a ss.length cap) := by rw [World.cell?_alloc_mark]; rfl
  have HX := Lib.hid (hx.out.below hB)
  have HM := Lib.hid (specMdOk_any a cap ss _ hs (hx.out.below hB))
  have HS := Lib.hid hs
  have hsl := hs.1
  clear hB hs
  by_cases hok : MdFine ss
  · rw [tt_true hok] at HM
    have HOK := Lib.hid hok
    have h4 := hok.1
    have HF := Lib.hid (fun W (h : Below (w.alloc (.cells #[.slice a ss.length cap] 25)).heap.size (w.alloc (.cells #[.slice a ss.length cap] 25)) W) => l14Find_any a cap ss nm W (by unfold maxLen; omega) (HX.out.below h))
    by_cases hh : HasNm ss nm
    · have hat := whereSh_at hh
      have HWY : Hid (∀ z, WhereSh ss nm z → z = (whereSh ss nm : Int)) := fun z hz => where_yes HOK.out.2.2 hh hz
      have HRd : Hid (readCode ss nm b = 0 → readTo ss nm b = (blAt ss (whereSh ss nm)).getD b.toNat ByteArray.empty) := fun h => readTo_ok h
      have HCOK := Lib.hid (fun b hb => readCode_ok (b := b) hok hh hb)
      have HCB := Lib.hid (fun b hb => readCode_bad (b := b) hok hh hb)
      clear hok
      generalize whereSh ss nm = k at hat HWY HRd
      obtain ⟨hk, _⟩ := hat
      have hd1 : decide ((k : Int) < 0) = false := by simp
      clear hh
      by_cases hb : 0 ≤ b ∧ b ≤ 2
      · have HI := Lib.hid (fun W => in_yes b 0 2 W hb)
        have HCz := Lib.hid (HCOK.out b hb)
        have HRz := Lib.hid (HRd.out HCz.out)
        obtain ⟨q, rfl⟩ := Int.eq_ofNat_of_zero_le hb.1
        have hq : q ≤ 2 := by omega
        have hbl := (HOK.out.2.1 k hk).2.1
        have hbl3 : (blAt ss k).length = 3 := hbl
        clear hb HRd hbl
        go_enter Try.func32, Try.ntmps32
        go_wp2_with fail
        refine HM.out.mono ?_
        rintro e w1 ⟨rfl, hB1⟩
        have c1 := cell_below hB1 c0
        have HB1 := Lib.hid hB1
        clear hB1
        go_wp2_with fail
        refine (HF.out _ HB1.out).mono ?_
        rintro e w2 ⟨⟨z, rfl, hz⟩, hB2⟩
        obtain rfl := HWY.out z hz
        have c2 := cell_below hB2 c1
        have HB2 := Lib.hid (HB1.out.trans (hB2.mono HB1.out.size))
        clear hz hB2
        go_wp2_with fail
        refine (HI.out _).mono ?_
        rintro e w3 ⟨rfl, rfl⟩
        obtain ⟨b1, off, rfl, hc⟩ := (HX.out.below HB2.out).resolve_left (fun e => by subst e; simp at hk)
        obtain ⟨e0, v, e1, hv⟩ := hc k hk
        obtain ⟨a1, cap1, rfl, hc1, hm1, hx1⟩ := hv
        have h1 : (ss.getD k sh0).blocks = blAt ss k := rfl
        rw [h1] at e1 hx1 hc1
        obtain ⟨b2, off2, rfl, hc2⟩ := hx1.resolve_left (fun e => by rw [e] at hbl3; simp at hbl3)
        have e2 := hc2 q (by omega)
        have HRq : Hid (readTo ss nm (q : Int) = (blAt ss k).getD q ByteArray.empty) := by show readTo ss nm (q : Int) = _; rw [HRz.out]; rfl
        have HE := Lib.hid (HB.out.trans (HB2.out.mono HB.out.size))
        have hkl : (k : Int) < (ss.length : Int) := by omega
        have hk0 : (0 : Int) ≤ (k : Int) := by omega
        have hql : (q : Int) < ((blAt ss k).length : Int) := by omega
        have hq0 : (0 : Int) ≤ (q : Int) := by omega
        clear hc hc2 e0 h1 hbl3 HRz
        generalize (blAt ss k).getD q ByteArray.empty = t at e2 HRq
        generalize (blAt ss k).length = n at e1 hql hc1
        go_wp2
        go_ret2
        exact ⟨ret_si HRq.out.symm HCz.out.symm, HE.out⟩
      · have HI := Lib.hid (fun W => in_no b 0 2 W hb)
        have HCz := Lib.hid (HCB.out b hb)
        have HRz := Lib.hid (readTo_not (ss := ss) (nm := nm) (b := b) (by rw [HCz.out]; decide))
        clear hb
        go_enter Try.func32, Try.ntmps32
        go_wp2_with fail
        refine HM.out.mono ?_
        rintro e w1 ⟨rfl, hB1⟩
        have c1 := cell_below hB1 c0
        have HB1 := Lib.hid hB1
        clear hB1
        go_wp2_with fail
        refine (HF.out _ HB1.out).mono ?_
        rintro e w2 ⟨⟨z, rfl, hz⟩, hB2⟩
        obtain rfl := HWY.out z hz
        have HB2 := Lib.hid (HB1.out.trans (hB2.mono HB1.out.size))
        clear hz hB2
        go_wp2_with fail
        refine (HI.out _).mono ?_
        rintro e w3 ⟨rfl, rfl⟩
        have HE := Lib.hid (HB.out.trans (HB2.out.mono HB.out.size))
        go_wp2
        go_ret2
        exact ⟨ret_si HRz.out.symm HCz.out.symm, HE.out⟩
    · have HCz := Lib.hid (readCode_none (b := b) hok hh)
      have HRz := Lib.hid (readTo_not (ss := ss) (nm := nm) (b := b) (by rw [HCz.out]; decide))
      have HWN : Hid (∀ z, WhereSh ss nm z → z = -1) := fun z hz => where_no hh hz
      clear hh hok
      go_enter Try.func32, Try.ntmps32
      go_wp2_with fail
      refine HM.out.mono ?_
      rintro e w1 ⟨rfl, hB1⟩
      have c1 := cell_below hB1 c0
      have HB1 := Lib.hid hB1
      clear hB1
      go_wp2_with fail
      refine (HF.out _ HB1.out).mono ?_
      rintro e w2 ⟨⟨z, rfl, hz⟩, hB2⟩
      obtain rfl := HWN.out z hz
      have HB2 := Lib.hid (HB1.out.trans (hB2.mono HB1.out.size))
      have HE := Lib.hid (HB.out.trans (HB2.out.mono HB.out.size))
      clear hz hB2
      go_wp2
      go_ret2
      exact ⟨ret_si HRz.out.symm HCz.out.symm, HE.out⟩
  · rw [tt_false hok] at HM
    have HCz := Lib.hid (readCode_no (nm := nm) (b := b) hok)
    have HRz := Lib.hid (readTo_not (ss := ss) (nm := nm) (b := b) (by rw [HCz.out]; decide))
    clear hok
    go_enter Try.func32, Try.ntmps32
    go_wp2_with fail
    refine HM.out.mono ?_
    rintro e w1 ⟨rfl, hB1⟩
    have HB1 := Lib.hid (HB.out.trans (hB1.mono HB.out.size))
    clear hB1
    go_wp2
    go_ret2
    exact ⟨ret_si HRz.out.symm HCz.out.symm, HB1.out⟩

end Go.Proofs.Ytmmckpjapnkepaa

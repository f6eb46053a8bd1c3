/- What the laws over models say, as data: what was written is read, a copy is as what was copied, what was made and dropped is not there, what is dropped takes nothing else with it. Conditions: none. -/
import Derived.Test.YtmmckpjapnkepaaI9
import Derived.Test.YtmmckpjapnkepaaIP
import Derived.Test.YtmmckpjapnkepaaIJ
import Derived.Test.YtmmckpjapnkepaaIB
import Derived.Test.YtmmckpjapnkepaaIO
namespace Go.Proofs.Ytmmckpjapnkepaa
open Go.RowKit Go.Sort

/-- Reading a block of a volume that stands at a place. -/
theorem read_at {ss : List ShD} (h : MdFine ss) {nm : ByteArray} {i : Nat} (hi : At ss nm i) {b : Nat} (hb : b < 3) : readCode ss nm (b : Int) = 0 ∧ readTo ss nm (b : Int) = (blAt ss i).getD b ByteArray.empty := by
  have hc : readCode ss nm (b : Int) = 0 := readCode_ok h ⟨i, hi⟩ ⟨by omega, by omega⟩
  refine ⟨hc, ?_⟩
  rw [readTo_ok hc, whereSh_eq h.2.2 hi]; rfl
theorem blAt_app {ss : List ShD} {s : ShD} {j : Nat} (h : j < ss.length) : blAt (ss ++ [s]) j = blAt ss j := by show ((ss ++ [s]).getD j sh0).blocks = _; rw [getD_app_lt h]; rfl
theorem blAt_last (ss : List ShD) (s : ShD) : blAt (ss ++ [s]) ss.length = s.blocks := by show ((ss ++ [s]).getD ss.length sh0).blocks = _; rw [getD_app_eq]
theorem at_app {ss : List ShD} {s : ShD} {nm : ByteArray} {j : Nat} (h : At ss nm j) : At (ss ++ [s]) nm j := ⟨by rw [List.length_append]; have := h.1; omega, by rw [nmAt_app h.1]; exact h.2⟩
theorem at_last (ss : List ShD) (s : ShD) : At (ss ++ [s]) s.name ss.length := ⟨by rw [List.length_append]; simp, nmAt_last ss s⟩

/-- WHAT IS MADE AND DROPPED. -/
theorem make_drop {ss : List ShD} {nm : ByteArray} (h : (makeTo ss nm).2 = 0) : dropTo (makeTo ss nm).1 nm = (ss, 0) ∧ readCode ss nm 0 = 2 ∧ readCode (makeTo ss nm).1 nm 2 = 0 ∧ readTo (makeTo ss nm).1 nm 2 = ⟨#[]⟩ ∧ MdFine ss := by
  have hf : MdFine ss := by
    by_cases hf : MdFine ss
    · exact hf
    · rw [makeTo_no hf] at h; exact absurd h (by decide)
  have hc : addCode ss nm = 0 := by
    by_cases hc : addCode ss nm = 0
    · exact hc
    · rw [makeTo_not hf hc] at h; exact h
  obtain ⟨hn, hnm, h4⟩ := addCode_zero hc
  have hr := make_fine ss nm
  rw [makeTo_yes hf hc] at hr ⊢
  have ha : At (ss ++ [⟨nm, none3⟩]) nm ss.length := at_last ss ⟨nm, none3⟩
  refine ⟨?_, readCode_none hf hn, (read_at hr ha (b := 2) (by omega)).1, ?_, hf⟩
  · show dropTo (ss ++ [⟨nm, none3⟩]) nm = (ss, 0)
    rw [dropTo_any hr ⟨_, ha⟩, whereSh_eq hr.2.2 ha]
    congr 1
    rw [List.eraseIdx_append_of_length_le (Nat.le_refl _), Nat.sub_self]
    simp
  · have := (read_at hr ha (b := 2) (by omega)).2
    rw [blAt_last] at this
    exact this

/-- WHAT IS DROPPED TAKES NOTHING ELSE WITH IT. -/
theorem drop_less {ss : List ShD} {nm : ByteArray} (h : (dropTo ss nm).2 = 0) : MdFine ss ∧ (dropTo ss nm).1.length + 1 = ss.length ∧
    ∀ (i b : Nat), i < ss.length → b < 3 → nmAt ss i ≠ nm → readTo ss (nmAt ss i) (b : Int) = readTo (dropTo ss nm).1 (nmAt ss i) (b : Int) ∧ readCode ss (nmAt ss i) (b : Int) = 0 ∧ readCode (dropTo ss nm).1 (nmAt ss i) (b : Int) = 0 := by
  have hf : MdFine ss := by
    by_cases hf : MdFine ss
    · exact hf
    · rw [dropTo_no hf] at h; exact absurd h (by decide)
  have hh : HasNm ss nm := by
    by_cases hh : HasNm ss nm
    · exact hh
    · rw [dropTo_none hf hh] at h; exact absurd h (show (2 : Int) ≠ 0 by decide)
  have hr := drop_fine ss nm
  rw [dropTo_any hf hh] at hr ⊢
  have hw := whereSh_at hh
  generalize whereSh ss nm = k at hw hr ⊢
  have hl := erase_len hw.1
  refine ⟨hf, by show (ss.eraseIdx k).length + 1 = _; have := hw.1; omega, fun i b hi hb hne => ?_⟩
  have hik : i ≠ k := fun e => hne (by rw [e]; exact hw.2)
  obtain ⟨c1, r1⟩ := read_at hf (nm := nmAt ss i) ⟨hi, rfl⟩ hb
  have hkl := hw.1
  have idx : (if (if i < k then i else i - 1) < k then (if i < k then i else i - 1) else (if i < k then i else i - 1) + 1) = i := by
    by_cases hik' : i < k
    · rw [if_pos hik', if_pos hik']
    · rw [if_neg hik', if_neg (by omega)]; omega
  have hat : At (ss.eraseIdx k) (nmAt ss i) (if i < k then i else i - 1) := by
    refine ⟨?_, ?_⟩
    · rw [hl]; split <;> omega
    · rw [nmAt_erase, idx]
  obtain ⟨c2, r2⟩ := read_at hr hat hb
  refine ⟨?_, c1, c2⟩
  rw [r1]
  show _ = readTo (ss.eraseIdx k) (nmAt ss i) (b : Int)
  rw [r2]
  congr 1
  show (ss.getD i sh0).blocks = ((ss.eraseIdx k).getD (if i < k then i else i - 1) sh0).blocks
  rw [erase_get, idx]

/-- WHAT WAS WRITTEN IS READ. -/
theorem write_read {ss : List ShD} {nm : ByteArray} {q : Int} {t : ByteArray} (h : (writeTo ss nm q t).2 = 0) : MdFine ss ∧
    ∀ (i b : Nat), i < ss.length → b < 3 → readCode (writeTo ss nm q t).1 (nmAt ss i) (b : Int) = 0 ∧ (readTo (writeTo ss nm q t).1 (nmAt ss i) (b : Int) = if nmAt ss i = nm ∧ (b : Int) = q then t else readTo ss (nmAt ss i) (b : Int)) := by
  have hf : MdFine ss := by
    by_cases hf : MdFine ss
    · exact hf
    · rw [writeTo_no hf] at h; exact absurd h (by decide)
  have hc : wrCode ss nm q t = 0 := by
    by_cases hc : wrCode ss nm q t = 0
    · exact hc
    · rw [writeTo_not hf hc] at h; exact h
  obtain ⟨hh, hq, ht⟩ := wrCode_zero hc
  have hr := write_fine ss nm q t
  rw [writeTo_ok hf hc] at hr ⊢
  have hw := whereSh_at hh
  generalize whereSh ss nm = k at hw hr ⊢
  obtain ⟨p, rfl⟩ := Int.eq_ofNat_of_zero_le hq.1
  have hp3 : p < 3 := by omega
  refine ⟨hf, fun i b hi hb => ?_⟩
  have hat : At (setSh ss k (p : Int).toNat t) (nmAt ss i) i := ⟨by rw [setSh_length]; exact hi, nmAt_set ss k _ t i hw.1⟩
  obtain ⟨c2, r2⟩ := read_at hr hat hb
  refine ⟨c2, ?_⟩
  show readTo (setSh ss k (p : Int).toNat t) (nmAt ss i) (b : Int) = _
  rw [r2, (read_at hf (nm := nmAt ss i) ⟨hi, rfl⟩ hb).2]
  have hbl : blAt (setSh ss k (p : Int).toNat t) i = if k = i then (blAt ss k).set p t else blAt ss i := by
    unfold blAt
    rw [setSh_get _ _ _ _ _ hw.1]
    split <;> rfl
  rw [hbl]
  have h3 : (blAt ss k).length = 3 := (hf.2.1 k hw.1).2.1
  by_cases e : k = i
  · subst e
    rw [if_pos rfl, List.getD, List.getElem?_set]
    by_cases e2 : p = b
    · subst e2
      rw [if_pos rfl, if_pos (by omega), if_pos ⟨hw.2, rfl⟩]; rfl
    · rw [if_neg e2, if_neg (fun c => e2 (by have := c.2; omega))]; rfl
  · rw [if_neg e, if_neg (fun c => e (at_one hf.2.2 hw ⟨hi, c.1⟩))]

/-- A COPY IS AS WHAT WAS COPIED, AND STAYS AS IT IS. -/
theorem copy_stays {ss : List ShD} {fr nm t : ByteArray} (ht : t.size ≤ 9) (h : (copyTo ss fr nm).2 = 0) : MdFine ss ∧ (writeTo (copyTo ss fr nm).1 fr 0 t).2 = 0 ∧
    ∀ b : Nat, b < 3 → readCode (copyTo ss fr nm).1 fr (b : Int) = 0 ∧ readCode (copyTo ss fr nm).1 nm (b : Int) = 0 ∧ readCode (writeTo (copyTo ss fr nm).1 fr 0 t).1 nm (b : Int) = 0 ∧
      readTo (copyTo ss fr nm).1 nm (b : Int) = readTo (copyTo ss fr nm).1 fr (b : Int) ∧ readTo (writeTo (copyTo ss fr nm).1 fr 0 t).1 nm (b : Int) = readTo (copyTo ss fr nm).1 fr (b : Int) := by
  have hf : MdFine ss := by
    by_cases hf : MdFine ss
    · exact hf
    · rw [copyTo_no' hf] at h; exact absurd h (by decide)
  have hh : HasNm ss fr := by
    by_cases hh : HasNm ss fr
    · exact hh
    · rw [copyTo_none' hf hh] at h; exact absurd h (show (2 : Int) ≠ 0 by decide)
  have hc : addCode ss nm = 0 := by
    by_cases hc : addCode ss nm = 0
    · exact hc
    · rw [copyTo_not hf hh hc] at h; exact h
  obtain ⟨hn, hnm, h4⟩ := addCode_zero hc
  have hr := copy_fine ss fr nm
  rw [copyTo_yes hf hh hc] at hr ⊢
  have hw := whereSh_at hh
  generalize whereSh ss fr = k at hw hr ⊢
  simp only at hr ⊢
  have hfr : At (ss ++ [⟨nm, blAt ss k⟩]) fr k := at_app hw
  have hna : At (ss ++ [⟨nm, blAt ss k⟩]) nm ss.length := at_last ss ⟨nm, blAt ss k⟩
  have hwc : wrCode (ss ++ [⟨nm, blAt ss k⟩]) fr 0 t = 0 := wrCode_ok ⟨k, hfr⟩ ⟨by omega, by omega⟩ ht
  have h0 : (writeTo (ss ++ [⟨nm, blAt ss k⟩]) fr 0 t).2 = 0 := by rw [writeTo_ok hr hwc]
  have hne : nm ≠ fr := fun e => hn (by rw [e]; exact hh)
  obtain ⟨_, hwr⟩ := write_read h0
  refine ⟨hf, h0, fun b hb => ?_⟩
  obtain ⟨c1, r1⟩ := read_at hr hfr hb
  obtain ⟨c2, r2⟩ := read_at hr hna hb
  obtain ⟨c3, r3⟩ := hwr ss.length b (by rw [List.length_append]; simp) hb
  rw [nmAt_last] at c3 r3
  simp only at c3 r3
  rw [if_neg (fun c => hne c.1)] at r3
  have e : readTo (ss ++ [⟨nm, blAt ss k⟩]) nm (b : Int) = readTo (ss ++ [⟨nm, blAt ss k⟩]) fr (b : Int) := by
    rw [r1, r2, blAt_last, blAt_app hw.1]
  exact ⟨c1, c2, c3, e, r3.trans e⟩

end Go.Proofs.Ytmmckpjapnkepaa

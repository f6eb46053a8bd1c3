/- What is done to a model that is ok leaves a model that is ok. Conditions: none. -/
import Derived.Test.YtmmckpjapnkepaaIB
namespace Go.Proofs.Ytmmckpjapnkepaa
open Go.RowKit

theorem fine_nil : MdFine [] := ⟨by simp, fun j hj => by simp at hj, fun i j _ hj => by simp at hj⟩
theorem nmAt_set (ss : List ShD) (k q : Nat) (t : ByteArray) (j : Nat) (hk : k < ss.length) : nmAt (setSh ss k q t) j = nmAt ss j := by
  show ((setSh ss k q t).getD j sh0).name = (ss.getD j sh0).name
  rw [setSh_get ss k q t j hk]
  by_cases e : k = j
  · subst e; rw [if_pos rfl]; rfl
  · rw [if_neg e]
theorem fine_set {ss : List ShD} (h : MdFine ss) {k q : Nat} {t : ByteArray} (hk : k < ss.length) (ht : t.size ≤ 9) : MdFine (setSh ss k q t) := by
  refine ⟨by rw [setSh_length]; exact h.1, fun j hj => ?_, fun i j hij hj => ?_⟩
  · rw [setSh_length] at hj
    rw [setSh_get ss k q t j hk]
    by_cases e : k = j
    · subst e
      rw [if_pos rfl]
      obtain ⟨h1, h2, h3⟩ := h.2.1 k hk
      refine ⟨h1, by simp only [List.length_set]; exact h2, fun i hi => ?_⟩
      simp only [List.length_set] at hi
      have h3i := h3 i hi
      show (((blAt ss k).set q t).getD i ByteArray.empty).size ≤ 9
      rw [List.getD, List.getElem?_set]
      by_cases e2 : q = i
      · subst e2
        rw [if_pos rfl]
        split
        · exact ht
        · exact absurd hi (by assumption)
      · rw [if_neg e2]; exact h3i
    · rw [if_neg e]; exact h.2.1 j hj
  · rw [setSh_length] at hj
    rw [nmAt_set ss k q t i hk, nmAt_set ss k q t j hk]
    exact h.2.2 i j hij hj
theorem wrCode_zero {ss : List ShD} {nm : ByteArray} {b : Int} {t : ByteArray} (h : wrCode ss nm b t = 0) : HasNm ss nm ∧ (0 ≤ b ∧ b ≤ 2) ∧ t.size ≤ 9 := by
  by_cases h1 : HasNm ss nm
  · by_cases h2 : (0 ≤ b ∧ b ≤ 2) ∧ t.size ≤ 9
    · exact ⟨h1, h2⟩
    · rw [wrCode_bad h1 h2] at h; cases h
  · rw [wrCode_none h1] at h; cases h
theorem write_fine (ss : List ShD) (nm : ByteArray) (b : Int) (t : ByteArray) : MdFine (writeTo ss nm b t).1 := by
  by_cases h : MdFine ss
  · by_cases hc : wrCode ss nm b t = 0
    · rw [writeTo_ok h hc]
      obtain ⟨h1, _, h3⟩ := wrCode_zero hc
      exact fine_set h (whereSh_at h1).1 h3
    · rw [writeTo_not h hc]; exact h
  · rw [writeTo_no h]; exact fine_nil
theorem addCode_zero {ss : List ShD} {nm : ByteArray} (h : addCode ss nm = 0) : ¬HasNm ss nm ∧ NameOk nm ∧ ss.length ≠ 4 := by
  unfold addCode at h
  by_cases h1 : HasNm ss nm ∨ ¬NameOk nm
  · rw [if_pos h1] at h; cases h
  · rw [if_neg h1] at h
    by_cases h2 : ss.length = 4
    · rw [if_pos h2] at h; cases h
    · exact ⟨fun k => h1 (.inl k), Classical.byContradiction (fun k => h1 (.inr k)), h2⟩
theorem nmAt_app {ss : List ShD} {s : ShD} {j : Nat} (h : j < ss.length) : nmAt (ss ++ [s]) j = nmAt ss j := by show ((ss ++ [s]).getD j sh0).name = _; rw [getD_app_lt h]; rfl
theorem nmAt_last (ss : List ShD) (s : ShD) : nmAt (ss ++ [s]) ss.length = s.name := by show ((ss ++ [s]).getD ss.length sh0).name = _; rw [getD_app_eq]
theorem fine_add {ss : List ShD} (h : MdFine ss) {nm : ByteArray} {xs : List ByteArray} (hl : xs.length = 3) (hx : AllTx Short9 xs) : MdFine (addTo ss nm xs) := by
  unfold addTo
  by_cases hc : addCode ss nm = 0
  · rw [if_pos hc]
    obtain ⟨h1, h2, h3⟩ := addCode_zero hc
    have h4 := h.1
    refine ⟨by rw [List.length_append, List.length_singleton]; omega, fun j hj => ?_, fun i j hij hj => ?_⟩
    · rw [List.length_append, List.length_singleton] at hj
      by_cases e : j < ss.length
      · rw [getD_app_lt e]; exact h.2.1 j e
      · obtain rfl : j = ss.length := by omega
        rw [getD_app_eq]
        exact ⟨h2, hl, hx⟩
    · rw [List.length_append, List.length_singleton] at hj
      rw [nmAt_app (show i < ss.length by omega)]
      by_cases e : j < ss.length
      · rw [nmAt_app e]; exact h.2.2 i j hij e
      · obtain rfl : j = ss.length := by omega
        rw [nmAt_last]
        exact fun q => h1 ⟨i, by omega, q⟩
  · rw [if_neg hc]; exact h
theorem none3_short : AllTx Short9 none3 := by
  intro j hj
  have : j = 0 ∨ j = 1 ∨ j = 2 := by have : j < 3 := hj; omega
  rcases this with rfl | rfl | rfl <;> exact Nat.zero_le _
theorem make_fine (ss : List ShD) (nm : ByteArray) : MdFine (makeTo ss nm).1 := by
  unfold makeTo
  by_cases h : MdFine ss
  · rw [if_pos h]; exact fine_add h rfl none3_short
  · rw [if_neg h]; exact fine_nil
theorem copy_fine (ss : List ShD) (fr nm : ByteArray) : MdFine (copyTo ss fr nm).1 := by
  unfold copyTo
  by_cases h : MdFine ss
  · rw [if_pos h]
    by_cases h2 : HasNm ss fr
    · rw [if_pos h2]
      have hat := (whereSh_at h2).1
      exact fine_add h (h.2.1 _ hat).2.1 (h.2.1 _ hat).2.2
    · rw [if_neg h2]; exact h
  · rw [if_neg h]; exact fine_nil
theorem MdFine.three {ss : List ShD} (h : MdFine ss) : AllSh (fun s => s.blocks.length = 3) ss := fun j hj => (h.2.1 j hj).2.1

end Go.Proofs.Ytmmckpjapnkepaa

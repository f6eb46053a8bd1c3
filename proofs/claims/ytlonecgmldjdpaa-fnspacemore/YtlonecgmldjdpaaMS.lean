/- Plain facts of the free places of two roots that are ok. Conditions: none. -/
import Derived.Test.YtlonecgmldjdpaaF0
import Derived.Test.YtlonecgmldjdpaaMR
namespace Go.Proofs.Ytlonecgmldjdpaa
open Go.RowKit Go.Sort Go.Lib

theorem none_ok {n : Int} (h : Pool n) : RootOkP n ⟨0, []⟩ := ⟨h, ⟨by simp, by simp⟩, ⟨by simp, fun k hk => by simp at hk⟩, fun i hi => by simp [allOf] at hi⟩
theorem not_used_none (q : PlD) : ¬UsedBy' [] q := fun h => by simp [UsedBy', plsOf, allOf] at h
/-- A PLACE THAT IS FREE is used by none of both. -/
theorem in_fre {n : Int} {ra rb : RootD} (h : RootOkP n ra) (k : RootOkP n rb) {q : PlD} : PlIn q (fre n ra rb) ↔ q ∈ gridTo n.toNat ∧ ¬UsedBy' ra.vols q ∧ ¬UsedBy' rb.vols q := by
  rw [plIn_mem, fre_ok h k, mem_pick]
  rfl
theorem fre_comm (n : Int) (ra rb : RootD) : fre n ra rb = fre n rb ra := by
  by_cases h : RootOkP n ra ∧ RootOkP n rb
  · rw [fre_ok h.1 h.2, fre_ok h.2 h.1]
    congr 1
    funext q
    unfold FreeP
    exact propext And.comm
  · rw [fre_no h, fre_no (fun k => h k.symm)]
/-- OF EVERY PLACE one of three holds. -/
theorem free_cases {n : Int} {ra rb : RootD} (h : RootOkP n ra) (k : RootOkP n rb) {d s : Nat} (hd : (d : Int) < n) (hs : s < 12) :
    (PlIn ((d : Int), (s : Int)) (rpl n ra) ∧ ¬PlIn ((d : Int), (s : Int)) (fre n ra rb)) ∨ (¬PlIn ((d : Int), (s : Int)) (rpl n ra) ∧ PlIn ((d : Int), (s : Int)) (rpl n rb) ∧ ¬PlIn ((d : Int), (s : Int)) (fre n ra rb)) ∨
    (¬PlIn ((d : Int), (s : Int)) (rpl n ra) ∧ ¬PlIn ((d : Int), (s : Int)) (rpl n rb) ∧ PlIn ((d : Int), (s : Int)) (fre n ra rb)) := by
  have hg : ((d : Int), (s : Int)) ∈ gridTo n.toNat := by
    rw [mem_grid, ok_nat h]
    exact ⟨by simp, hd, by simp, by simp; omega⟩
  rw [in_fre h k, in_rpl h, in_rpl k]
  by_cases h1 : UsedBy' ra.vols ((d : Int), (s : Int))
  · exact .inl ⟨h1, fun x => x.2.1 h1⟩
  · by_cases h2 : UsedBy' rb.vols ((d : Int), (s : Int))
    · exact .inr (.inl ⟨h1, h2, fun x => x.2.2 h2⟩)
    · exact .inr (.inr ⟨h1, h2, hg, h1, h2⟩)

/-- OF MORE THAT IS USED less is free. -/
theorem fre_one {n : Int} {ra rb : RootD} (h : RootOkP n ra) (k : RootOkP n rb) {q : PlD} (hq : PlIn q (fre n ra rb)) : PlIn q (fre n ra ⟨0, []⟩) := by
  rw [in_fre h k] at hq
  rw [in_fre h (none_ok h.1)]
  exact ⟨hq.1, hq.2.1, not_used_none q⟩
theorem fre_all {n : Int} {ra rb : RootD} (h : RootOkP n ra) (k : RootOkP n rb) {q : PlD} (hq : PlIn q (fre n ra rb)) : PlIn q (fre n ⟨0, []⟩ ⟨0, []⟩) := by
  rw [in_fre h k] at hq
  rw [in_fre (none_ok h.1) (none_ok h.1)]
  exact ⟨hq.1, not_used_none q, not_used_none q⟩
theorem all_length {n : Int} (h : Pool n) : ((fre n ⟨0, []⟩ ⟨0, []⟩).length : Int) = n * 12 := by
  rw [fre_ok (none_ok h) (none_ok h)]
  have e : pick (FreeP [] []) (gridTo n.toNat) = gridTo n.toNat := by
    unfold pick
    rw [List.filter_eq_self]
    intro q _
    exact tt_true ⟨not_used_none q, not_used_none q⟩
  show ((pick (FreeP [] []) (gridTo n.toNat)).length : Int) = _
  rw [e, grid_length]
  have := h.1
  omega
theorem filter_two {α : Type} (p : α → Bool) (l : List α) : (l.filter fun x => !p x).length + (l.filter p).length = l.length := by
  induction l with
  | nil => rfl
  | cons x l ih =>
    rw [List.filter_cons, List.filter_cons]
    cases hp : p x <;> simp <;> omega
theorem one_length {n : Int} {ra : RootD} (h : RootOkP n ra) : (fre n ra ⟨0, []⟩).length + (rpl n ra).length = (fre n ⟨0, []⟩ ⟨0, []⟩).length := by
  have h0 := all_length h.1
  have e0 : (fre n ⟨0, []⟩ ⟨0, []⟩).length = (gridTo n.toNat).length := by rw [grid_length]; have := ok_nat h; omega
  rw [e0, fre_ok h (none_ok h.1), rpl_ok h, ← filter_two (fun q => tt (UsedBy' ra.vols q)) (gridTo n.toNat)]
  congr 2
  unfold pick
  congr 1
  funext q
  by_cases hu : UsedBy' ra.vols q
  · rw [tt_true hu]; exact tt_false (fun x => x.1 hu)
  · rw [tt_false hu]; exact tt_true ⟨hu, not_used_none q⟩

end Go.Proofs.Ytlonecgmldjdpaa

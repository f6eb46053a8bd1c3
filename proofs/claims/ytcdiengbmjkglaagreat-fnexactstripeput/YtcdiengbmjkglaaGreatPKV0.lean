/- A statement that draws the order of its operations, walked by one invariant over what has been done. Conditions: each theorem names its own. -/
import Derived.RegionTactic
import Derived.WalkKit
import Derived.Test.YtcdiengbmjkglaaGreatRows
namespace Go.Proofs.YtcdiengbmjkglaaGreat
open Go.RowKit

section
variable {P : Program} {ops : Array Oper} {Q : Exit → Act → World → Prop} {md : Region.Mode}
theorem ready_spec {l : Array Bool} {i : Nat} (h : i ∈ Region.ready md ops l) : i < ops.size ∧ l.getD i true = false ∧ ((ops[i]?).map (·.after.all fun e => !Region.binds md e || l.getD e.on false)).getD false = true := by
  unfold Region.ready at h
  obtain ⟨h1, h2⟩ := List.mem_filter.1 h
  rw [Bool.and_eq_true] at h2
  exact ⟨List.mem_range.1 h1, by simpa using h2.1, h2.2⟩
theorem gd_ne {l : Array Bool} {i j : Nat} (h : i ≠ j) : (l.setIfInBounds i true).getD j false = l.getD j false := by
  simp [Array.getD_eq_getD_getElem?, Array.getElem?_setIfInBounds_ne h]
theorem gd_eq {l : Array Bool} {i : Nat} (h : i < l.size) : (l.setIfInBounds i true).getD i false = true := by
  simp [Array.getD_eq_getD_getElem?, h]
theorem gd_in {l : Array Bool} {i : Nat} (h : l.getD i true = false) : i < l.size ∧ l[i]? = some false := by
  rw [Array.getD_eq_getD_getElem?] at h
  cases hl : l[i]? with
  | none => rw [hl] at h; cases h
  | some b => rw [hl] at h; cases h; exact ⟨(Array.getElem?_eq_some_iff.1 hl).1, rfl⟩
theorem gd_not {l : Array Bool} {i : Nat} (h : l.getD i true = false) : l.getD i false = false := by
  rw [Array.getD_eq_getD_getElem?, (gd_in h).2]; rfl
theorem count_set {l : List Bool} {i : Nat} (h : l[i]? = some false) : (l.set i true).count false + 1 = l.count false := by
  induction l generalizing i with
  | nil => cases h
  | cons b l ih =>
    cases i with
    | zero => cases h; simp
    | succ i =>
      have := ih (i := i) h
      simp only [List.set_cons_succ, List.count_cons]
      omega
theorem gd_up {l : Array Bool} {i j : Nat} (h : l.getD j false = true) : (l.setIfInBounds i true).getD j false = true := by
  by_cases e : i = j
  · subst e
    refine gd_eq ?_
    rw [Array.getD_eq_getD_getElem?] at h
    cases hl : l[i]? with
    | none => rw [hl] at h; cases h
    | some b => exact (Array.getElem?_eq_some_iff.1 hl).1
  · rw [gd_ne e]; exact h
theorem dep_at {l : Array Bool} {i : Nat} {o : Oper} {e : Edge} (j : Nat) (hi : i ∈ Region.ready md ops l) (ho : ops[i]? = some o) (he : o.after[j]? = some e) (hb : Region.binds md e = true) : l.getD e.on false = true := by
  have h := (ready_spec hi).2.2
  rw [ho] at h
  simp only [Option.map_some, Option.getD_some] at h
  rw [Array.all_eq_true_iff_forall_mem] at h
  have := h e (Array.mem_of_getElem? he)
  rw [hb] at this
  simpa using this
/-- ONE INVARIANT over what has been done, whatever the order. -/
theorem wpAny_inv (J : Array Bool → Act → World → Prop) (hdone : ∀ l a w, J l a w → Region.ready md ops l = [] → Q .normal a w)
    (hstep : ∀ l a w i, J l a w → i ∈ Region.ready md ops l → wpOp P ops Q i (J (l.setIfInBounds i true)) a w) :
    ∀ (fuel : Nat) (l : Array Bool) (a : Act) (w : World), l.toList.count false ≤ fuel → J l a w → wpAny P md ops Q fuel l a w := by
  intro fuel
  induction fuel with
  | zero =>
    intro l a w hc hJ
    have hr : Region.ready md ops l = [] := by
      cases h : Region.ready md ops l with
      | nil => rfl
      | cons i rs =>
        exfalso
        have hi := (gd_in (ready_spec (show i ∈ Region.ready md ops l by rw [h]; exact List.mem_cons_self)).2.1).2
        have hm : false ∈ l.toList := List.mem_of_getElem? (by rw [Array.getElem?_toList]; exact hi)
        have := List.count_pos_iff.2 hm
        omega
    exact ⟨hr, hdone l a w hJ hr⟩
  | succ fuel ih =>
    intro l a w hc hJ
    refine ⟨fun hr => hdone l a w hJ hr, fun i hi => ?_⟩
    have hl := (gd_in (ready_spec hi).2.1).2
    refine wpOp_mono (fun a' w' h' => ih _ a' w' ?_ h') (hstep l a w i hJ hi)
    rw [Array.toList_setIfInBounds]
    have := count_set (l := l.toList) (i := i) (by rw [Array.getElem?_toList]; exact hl)
    omega
/-- Edges lead back: where nothing is ready all is done. -/
theorem ready_nil {l : Array Bool} (hb : (List.range ops.size).all (fun j => ((ops[j]?).map (·.after.all fun e => decide (e.on < j))).getD false) = true) (hr : Region.ready md ops l = []) : ∀ j, j < ops.size → l.getD j false = true ∨ l.getD j true = true := by
  intro j
  induction j using Nat.strongRecOn with
  | _ j ih =>
    intro hj
    by_cases h : l.getD j true = true
    · exact .inr h
    · exfalso
      have hf : l.getD j true = false := by simpa using h
      have hb' := List.all_eq_true.1 hb j (List.mem_range.2 hj)
      have hmem : j ∈ Region.ready md ops l := by
        unfold Region.ready
        refine List.mem_filter.2 ⟨List.mem_range.2 hj, ?_⟩
        rw [hf]
        cases ho : ops[j]? with
        | none => rw [ho] at hb'; cases hb'
        | some o =>
          rw [ho] at hb'
          simp only [Option.map_some, Option.getD_some, Bool.not_false, Bool.true_and] at hb' ⊢
          rw [Array.all_eq_true_iff_forall_mem] at hb' ⊢
          intro e he
          have hlt : e.on < j := by simpa using hb' e he
          rcases ih e.on hlt (by omega) with h1 | h1
          · rw [h1]; simp
          · by_cases h2 : e.on < l.size
            · have : l.getD e.on false = true := by
                rw [Array.getD_eq_getD_getElem?] at h1 ⊢
                rw [Array.getElem?_eq_getElem h2] at h1 ⊢
                exact h1
              rw [this]; simp
            · exfalso
              have := (gd_in hf).1
              omega
      rw [hr] at hmem
      cases hmem
end

end Go.Proofs.YtcdiengbmjkglaaGreat

/- A statement that draws the order of its operations, all of which one last operation waits for: what is read is read first. Conditions: each theorem names its own. A statement that draws the order of its operations, walked by one invariant over what has been done. Conditions: each theorem names its own. -/
import Derived.OrdersHeld
import Derived.StillTail
import Derived.RegionTactic
import Derived.WalkKit
import Derived.Test.YtceielkcplcccaaGreatDoorRows
namespace Go.Proofs.YtceielkcplcccaaGreatDoor
open Go.RowKit

section
variable {P : Program} {ops : Array Oper} {Q : Exit → Act → World → Prop} {md : Region.Mode} {S : World → Prop} {L : Nat}
/-- WHATEVER ORDER IS DRAWN, and S holds till the last operation, number L, is done. -/
def AnyS (P : Program) (md : Region.Mode) (ops : Array Oper) (Q : Exit → Act → World → Prop) (S : World → Prop) (L : Nat) : Nat → Array Bool → Act → World → Prop
  | 0, done, a, w => Region.ready md ops done = [] ∧ Q .normal a w
  | n + 1, done, a, w => (∀ k ∈ Region.ready md ops done, wpOp P ops Q k (fun a' w' => AnyS P md ops Q S L n (done.setIfInBounds k true) a' w' ∧ (k ≠ L → S w')) a w) ∧ (Region.ready md ops done = [] → Q .normal a w)
theorem AnyS.any : ∀ (n : Nat) (done : Array Bool) (a : Act) (w : World), AnyS P md ops Q S L n done a w → wpAny P md ops Q n done a w := by
  intro n
  induction n with
  | zero => intro done a w h; exact h
  | succ n ih => intro done a w h; exact ⟨h.2, fun k hk => wpOp_mono (fun a' w' h' => ih _ a' w' h'.1) (h.1 k hk)⟩
theorem AnyS.start {id : Nat} {a : Act} {w : World} (hm : P.follows .mixedOrders = true) (h : AnyS P .any ops Q S L ops.size (Array.replicate ops.size false) a w.drew) : (Code.region id ops true).wp P Q a w :=
  wp_region_any hm (AnyS.any _ _ _ _ h)
theorem AnyS.before {i : Nat} {oi : Oper} {v : Value} (hi : ops[i]? = some oi) (hsel : ∀ (j : Nat) (o : Oper) cs b, ops[j]? = some o → o.op ≠ .select cs b) (hQ : ∀ c a w, Q (.panic c) (a.put oi.dst v) w → Q (.panic c) a w) (hL : Region.waitsFor md ops L i = true) :
    ∀ (n : Nat) (done : Array Bool) (a : Act) (w : World), (∀ j oj, ops[j]? = some oj → j ≠ i → done.getD j true = false → (∀ e ∈ oj.after, Region.binds md e = true → e.on ≠ i) → oi.apart ops oj = true) →
      i ∈ Region.ready md ops done → YieldsIf P ops S oi v a → S w → AnyS P md ops Q S L n (done.setIfInBounds i true) (a.put oi.dst v) w → AnyS P md ops Q S L (n + 1) done a w := by
  intro n
  induction n with
  | zero =>
    intro done a w _ hr hy hS h
    refine ⟨fun j hj => ?_, fun h0 => by rw [h0] at hr; cases hr⟩
    by_cases e : j = i
    · subst e; exact hy.wpOp hi hS ⟨h, fun _ => hS⟩
    · have hj' := ready_mono hj e
      rw [h.1] at hj'
      cases hj'
  | succ n ih =>
    intro done a w hfr hr hy hS h
    refine ⟨fun j hj => ?_, fun h0 => by rw [h0] at hr; cases hr⟩
    by_cases e : j = i
    · subst e; exact hy.wpOp hi hS ⟨h, fun _ => hS⟩
    · obtain ⟨hun, oj, hoj, hdeps⟩ := mem_ready.1 hj
      have hiu := getD_both (mem_ready.1 hr).1
      have hne : ∀ d ∈ oj.after, Region.binds md d = true → d.on ≠ i := fun d hd hb heq => by
        have := hdeps d hd hb
        rw [heq, hiu] at this
        cases this
      have hjL : j ≠ L := fun heq => by
        subst heq
        obtain ⟨o', ho', d, hd, hb, hon⟩ := Region.waitsFor_spec hL
        rw [hoj] at ho'
        cases ho'
        exact hne d hd hb hon
      refine wpOp_mono (fun a' w' h3 => ?_) (wpOp_putIf hoj (hfr j oj hoj e hun hne) (fun cs b => hsel i oi cs b hi) (fun cs b => hsel j oj cs b hoj) hQ hy (h.1 j (ready_mono hj e)))
      obtain ⟨hy', hA, hS'⟩ := h3
      refine ⟨ih _ a' w' (fun k ok hk hki hku hno => hfr k ok hk hki ?_ hno) (ready_mono hr (fun q => e q.symm)) hy' (hS' hjL) ?_, fun _ => hS' hjL⟩
      · by_cases ejk : j = k
        · subst ejk; exact hun
        · rwa [getD_set_ne true ejk] at hku
      · rw [Array.setIfInBounds_comm _ _ e]
        exact hA
/-- What is ready and only reads is taken first. -/
theorem AnyS.take (i : Nat) {d : Option Tmp} {oi : Oper} {v : Value} {n : Nat} {done : Array Bool} {a : Act} {w : World} (hi : ops[i]? = some oi) (hd : oi.dst = d) (hs : Region.noSelect ops = true) (hf : Region.free md ops done i = true) (hr : (Region.ready md ops done).contains i = true)
    (hL : Region.waitsFor md ops L i = true) (hQ : ∀ c a w, Q (.panic c) (a.put d v) w → Q (.panic c) a w) (hS : S w) (hy : Region.wanted oi (yielded ops a.tmps) = true) (hrun : ∀ w, S w → (execOp a.eval oi).run P w = .ok (.value v) w)
    (h : AnyS P md ops Q S L n (done.setIfInBounds i true) (a.put d v) w) : AnyS P md ops Q S L (n + 1) done a w := by
  subst hd
  exact AnyS.before hi (Region.noSelect_spec hs) hQ hL n done a w (Region.free_spec hi hf) (by simpa using hr) (.inl ⟨hy, hrun⟩) hS h
/-- One alone is ready. -/
theorem AnyS.one (i : Nat) {o : Oper} {n : Nat} {done : Array Bool} {a : Act} {w : World} (hr : Region.ready md ops done = [i]) (ho : ops[i]? = some o)
    (h : ∀ K' : Act → World → Prop, (∀ a w, AnyS P md ops Q S L n (done.setIfInBounds i true) a w ∧ (i ≠ L → S w) → K' a w) → if Region.wanted o (yielded ops a.tmps) = true then Oper.wp P o a w K' Q else K' (a.put o.dst undef) w) : AnyS P md ops Q S L (n + 1) done a w := by
  refine ⟨fun k hk => ?_, fun h0 => by rw [hr] at h0; cases h0⟩
  rw [hr] at hk
  obtain rfl : k = i := by simpa using hk
  exact wpOp_step ho h
theorem AnyS.done {n : Nat} {done : Array Bool} {a : Act} {w : World} (hr : Region.ready md ops done = []) (h : Q .normal a w) : AnyS P md ops Q S L n done a w := by
  cases n with
  | zero => exact ⟨hr, h⟩
  | succ n => exact ⟨fun k hk => (by rw [hr] at hk; cases hk), fun _ => h⟩
/-- append, by its run. -/
theorem step_append_run {w w' : World} {o : Oper} {a : Act} {K : Act → World → Prop} {E : Prop} (hgd : o.guard = none) (s x : Operand) (t : TypeId) (d : Option Tmp)
    (ho : o.op = .call { callee := .builtin .append, args := #[s, x], argTypes := #[t, t] }) (hd : o.dst = d) (vs vx u : Value) (hs : a.eval s = vs) (hx : a.eval x = vx) (hrun : (Builtin.append_ #[t, t] o.type #[vs, vx]).run P w = .ok u w')
    (h : K (a.put d u) w') : if Region.wanted o (yielded ops a.tmps) = true then Oper.wp P o a w K Q else E := by
  subst hd
  have hw : Region.wanted o (yielded ops a.tmps) = true := by simp [Region.wanted, hgd]
  rw [if_pos hw]
  unfold Oper.wp
  simp [execOp, ho, resolve, invoke, builtin, hs, hx, hrun, Result.andThen]
  exact h
end

end Go.Proofs.YtceielkcplcccaaGreatDoor

namespace Go.Proofs.YtceielkcplcccaaGreatDoor
open Go.RowKit

section
variable {P : Program} {ops : Array Oper} {Q : Exit → Act → World → Prop} {md : Region.Mode}
theorem ready_spec {l : Array Bool} {i : Nat} (h : i ∈ Region.ready md ops l) : i < ops.size ∧ l.getD i true = false ∧ ((ops[i]?).map (·.after.all fun e => !Region.binds md e || l.getD e.on false)).getD false = true := by
  unfold Region.ready at h
  obtain ⟨h1, h2⟩ := List.mem_filter.1 h
  rw [Bool.and_eq_true] at h2
  exact ⟨List.mem_range.1 h1, by simpa using h2.1, h2.2⟩
theorem gd_ne {l : Array Bool} {i j : Nat} (h : i ≠ j) : (l.setIfInBounds i true).getD j false = l.getD j false := by
  simp [Array.getD_eq_getD_getElem?, Array.getElem?_setIfInBounds_ne h]
theorem gd_eq {l : Array Bool} {i : Nat} (h : i < l.size) : (l.setIfInBounds i true).getD i false = true := by
  simp [Array.getD_eq_getD_getElem?, h]
theorem gd_in {l : Array Bool} {i : Nat} (h : l.getD i true = false) : i < l.size ∧ l[i]? = some false := by
  rw [Array.getD_eq_getD_getElem?] at h
  cases hl : l[i]? with
  | none => rw [hl] at h; cases h
  | some b => rw [hl] at h; cases h; exact ⟨(Array.getElem?_eq_some_iff.1 hl).1, rfl⟩
theorem gd_not {l : Array Bool} {i : Nat} (h : l.getD i true = false) : l.getD i false = false := by
  rw [Array.getD_eq_getD_getElem?, (gd_in h).2]; rfl
theorem count_set {l : List Bool} {i : Nat} (h : l[i]? = some false) : (l.set i true).count false + 1 = l.count false := by
  induction l generalizing i with
  | nil => cases h
  | cons b l ih =>
    cases i with
    | zero => cases h; simp
    | succ i =>
      have := ih (i := i) h
      simp only [List.set_cons_succ, List.count_cons]
      omega
theorem gd_up {l : Array Bool} {i j : Nat} (h : l.getD j false = true) : (l.setIfInBounds i true).getD j false = true := by
  by_cases e : i = j
  · subst e
    refine gd_eq ?_
    rw [Array.getD_eq_getD_getElem?] at h
    cases hl : l[i]? with
    | none => rw [hl] at h; cases h
    | some b => exact (Array.getElem?_eq_some_iff.1 hl).1
  · rw [gd_ne e]; exact h
theorem dep_at {l : Array Bool} {i : Nat} {o : Oper} {e : Edge} (j : Nat) (hi : i ∈ Region.ready md ops l) (ho : ops[i]? = some o) (he : o.after[j]? = some e) (hb : Region.binds md e = true) : l.getD e.on false = true := by
  have h := (ready_spec hi).2.2
  rw [ho] at h
  simp only [Option.map_some, Option.getD_some] at h
  rw [Array.all_eq_true_iff_forall_mem] at h
  have := h e (Array.mem_of_getElem? he)
  rw [hb] at this
  simpa using this
/-- ONE INVARIANT over what has been done, whatever the order. -/
theorem wpAny_inv (J : Array Bool → Act → World → Prop) (hdone : ∀ l a w, J l a w → Region.ready md ops l = [] → Q .normal a w)
    (hstep : ∀ l a w i, J l a w → i ∈ Region.ready md ops l → wpOp P ops Q i (J (l.setIfInBounds i true)) a w) :
    ∀ (fuel : Nat) (l : Array Bool) (a : Act) (w : World), l.toList.count false ≤ fuel → J l a w → wpAny P md ops Q fuel l a w := by
  intro fuel
  induction fuel with
  | zero =>
    intro l a w hc hJ
    have hr : Region.ready md ops l = [] := by
      cases h : Region.ready md ops l with
      | nil => rfl
      | cons i rs =>
        exfalso
        have hi := (gd_in (ready_spec (show i ∈ Region.ready md ops l by rw [h]; exact List.mem_cons_self)).2.1).2
        have hm : false ∈ l.toList := List.mem_of_getElem? (by rw [Array.getElem?_toList]; exact hi)
        have := List.count_pos_iff.2 hm
        omega
    exact ⟨hr, hdone l a w hJ hr⟩
  | succ fuel ih =>
    intro l a w hc hJ
    refine ⟨fun hr => hdone l a w hJ hr, fun i hi => ?_⟩
    have hl := (gd_in (ready_spec hi).2.1).2
    refine wpOp_mono (fun a' w' h' => ih _ a' w' ?_ h') (hstep l a w i hJ hi)
    rw [Array.toList_setIfInBounds]
    have := count_set (l := l.toList) (i := i) (by rw [Array.getElem?_toList]; exact hl)
    omega
/-- Edges lead back: where nothing is ready all is done. -/
theorem ready_nil {l : Array Bool} (hb : (List.range ops.size).all (fun j => ((ops[j]?).map (·.after.all fun e => decide (e.on < j))).getD false) = true) (hr : Region.ready md ops l = []) : ∀ j, j < ops.size → l.getD j false = true ∨ l.getD j true = true := by
  intro j
  induction j using Nat.strongRecOn with
  | _ j ih =>
    intro hj
    by_cases h : l.getD j true = true
    · exact .inr h
    · exfalso
      have hf : l.getD j true = false := by simpa using h
      have hb' := List.all_eq_true.1 hb j (List.mem_range.2 hj)
      have hmem : j ∈ Region.ready md ops l := by
        unfold Region.ready
        refine List.mem_filter.2 ⟨List.mem_range.2 hj, ?_⟩
        rw [hf]
        cases ho : ops[j]? with
        | none => rw [ho] at hb'; cases hb'
        | some o =>
          rw [ho] at hb'
          simp only [Option.map_some, Option.getD_some, Bool.not_false, Bool.true_and] at hb' ⊢
          rw [Array.all_eq_true_iff_forall_mem] at hb' ⊢
          intro e he
          have hlt : e.on < j := by simpa using hb' e he
          rcases ih e.on hlt (by omega) with h1 | h1
          · rw [h1]; simp
          · by_cases h2 : e.on < l.size
            · have : l.getD e.on false = true := by
                rw [Array.getD_eq_getD_getElem?] at h1 ⊢
                rw [Array.getElem?_eq_getElem h2] at h1 ⊢
                exact h1
              rw [this]; simp
            · exfalso
              have := (gd_in hf).1
              omega
      rw [hr] at hmem
      cases hmem
end

end Go.Proofs.YtceielkcplcccaaGreatDoor

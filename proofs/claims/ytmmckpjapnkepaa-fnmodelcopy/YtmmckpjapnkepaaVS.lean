/- A statement that draws the order of its operations, all of which one last operation waits for: what is read is read first. Conditions: each theorem names its own. -/
import Derived.OrdersHeld
import Derived.StillTail
import Derived.RegionTactic
import Derived.WalkKit
import Derived.Test.YtmmckpjapnkepaaRows
namespace Go.Proofs.Ytmmckpjapnkepaa
open Go.RowKit

section
variable {P : Program} {ops : Array Oper} {Q : Exit → Act → World → Prop} {md : Region.Mode} {S : World → Prop} {L : Nat}
/-- WHATEVER ORDER IS DRAWN, and S holds till the last operation, number L, is done. -/
def AnyS (P : Program) (md : Region.Mode) (ops : Array Oper) (Q : Exit → Act → World → Prop) (S : World → Prop) (L : Nat) : Nat → Array Bool → Act → World → Prop
  | 0, done, a, w => Region.ready md ops done = [] ∧ Q .normal a w
  | n + 1, done, a, w => (∀ k ∈ Region.ready md ops done, wpOp P ops Q k (fun a' w' => AnyS P md ops Q S L n (done.setIfInBounds k true) a' w' ∧ (k ≠ L → S w')) a w) ∧ (Region.ready md ops done = [] → Q .normal a w)
theorem AnyS.any : ∀ (n : Nat) (done : Array Bool) (a : Act) (w : World), AnyS P md ops Q S L n done a w → wpAny P md ops Q n done a w := by
  intro n
  induction n with
  | zero => intro done a w h; exact h
  | succ n ih => intro done a w h; exact ⟨h.2, fun k hk => wpOp_mono (fun a' w' h' => ih _ a' w' h'.1) (h.1 k hk)⟩
theorem AnyS.start {id : Nat} {a : Act} {w : World} (hm : P.follows .mixedOrders = true) (h : AnyS P .any ops Q S L ops.size (Array.replicate ops.size false) a w.drew) : (Code.region id ops true).wp P Q a w :=
  wp_region_any hm (AnyS.any _ _ _ _ h)
theorem AnyS.before {i : Nat} {oi : Oper} {v : Value} (hi : ops[i]? = some oi) (hsel : ∀ (j : Nat) (o : Oper) cs b, ops[j]? = some o → o.op ≠ .select cs b) (hQ : ∀ c a w, Q (.panic c) (a.put oi.dst v) w → Q (.panic c) a w) (hL : Region.waitsFor md ops L i = true) :
    ∀ (n : Nat) (done : Array Bool) (a : Act) (w : World), (∀ j oj, ops[j]? = some oj → j ≠ i → done.getD j true = false → (∀ e ∈ oj.after, Region.binds md e = true → e.on ≠ i) → oi.apart ops oj = true) →
      i ∈ Region.ready md ops done → YieldsIf P ops S oi v a → S w → AnyS P md ops Q S L n (done.setIfInBounds i true) (a.put oi.dst v) w → AnyS P md ops Q S L (n + 1) done a w := by
  intro n
  induction n with
  | zero =>
    intro done a w _ hr hy hS h
    refine ⟨fun j hj => ?_, fun h0 => by rw [h0] at hr; cases hr⟩
    by_cases e : j = i
    · subst e; exact hy.wpOp hi hS ⟨h, fun _ => hS⟩
    · have hj' := ready_mono hj e
      rw [h.1] at hj'
      cases hj'
  | succ n ih =>
    intro done a w hfr hr hy hS h
    refine ⟨fun j hj => ?_, fun h0 => by rw [h0] at hr; cases hr⟩
    by_cases e : j = i
    · subst e; exact hy.wpOp hi hS ⟨h, fun _ => hS⟩
    · obtain ⟨hun, oj, hoj, hdeps⟩ := mem_ready.1 hj
      have hiu := getD_both (mem_ready.1 hr).1
      have hne : ∀ d ∈ oj.after, Region.binds md d = true → d.on ≠ i := fun d hd hb heq => by
        have := hdeps d hd hb
        rw [heq, hiu] at this
        cases this
      have hjL : j ≠ L := fun heq => by
        subst heq
        obtain ⟨o', ho', d, hd, hb, hon⟩ := Region.waitsFor_spec hL
        rw [hoj] at ho'
        cases ho'
        exact hne d hd hb hon
      refine wpOp_mono (fun a' w' h3 => ?_) (wpOp_putIf hoj (hfr j oj hoj e hun hne) (fun cs b => hsel i oi cs b hi) (fun cs b => hsel j oj cs b hoj) hQ hy (h.1 j (ready_mono hj e)))
      obtain ⟨hy', hA, hS'⟩ := h3
      refine ⟨ih _ a' w' (fun k ok hk hki hku hno => hfr k ok hk hki ?_ hno) (ready_mono hr (fun q => e q.symm)) hy' (hS' hjL) ?_, fun _ => hS' hjL⟩
      · by_cases ejk : j = k
        · subst ejk; exact hun
        · rwa [getD_set_ne true ejk] at hku
      · rw [Array.setIfInBounds_comm _ _ e]
        exact hA
/-- What is ready and only reads is taken first. -/
theorem AnyS.take (i : Nat) {d : Option Tmp} {oi : Oper} {v : Value} {n : Nat} {done : Array Bool} {a : Act} {w : World} (hi : ops[i]? = some oi) (hd : oi.dst = d) (hs : Region.noSelect ops = true) (hf : Region.free md ops done i = true) (hr : (Region.ready md ops done).contains i = true)
    (hL : Region.waitsFor md ops L i = true) (hQ : ∀ c a w, Q (.panic c) (a.put d v) w → Q (.panic c) a w) (hS : S w) (hy : Region.wanted oi (yielded ops a.tmps) = true) (hrun : ∀ w, S w → (execOp a.eval oi).run P w = .ok (.value v) w)
    (h : AnyS P md ops Q S L n (done.setIfInBounds i true) (a.put d v) w) : AnyS P md ops Q S L (n + 1) done a w := by
  subst hd
  exact AnyS.before hi (Region.noSelect_spec hs) hQ hL n done a w (Region.free_spec hi hf) (by simpa using hr) (.inl ⟨hy, hrun⟩) hS h
/-- One alone is ready. -/
theorem AnyS.one (i : Nat) {o : Oper} {n : Nat} {done : Array Bool} {a : Act} {w : World} (hr : Region.ready md ops done = [i]) (ho : ops[i]? = some o)
    (h : ∀ K' : Act → World → Prop, (∀ a w, AnyS P md ops Q S L n (done.setIfInBounds i true) a w ∧ (i ≠ L → S w) → K' a w) → if Region.wanted o (yielded ops a.tmps) = true then Oper.wp P o a w K' Q else K' (a.put o.dst undef) w) : AnyS P md ops Q S L (n + 1) done a w := by
  refine ⟨fun k hk => ?_, fun h0 => by rw [hr] at h0; cases h0⟩
  rw [hr] at hk
  obtain rfl : k = i := by simpa using hk
  exact wpOp_step ho h
theorem AnyS.done {n : Nat} {done : Array Bool} {a : Act} {w : World} (hr : Region.ready md ops done = []) (h : Q .normal a w) : AnyS P md ops Q S L n done a w := by
  cases n with
  | zero => exact ⟨hr, h⟩
  | succ n => exact ⟨fun k hk => (by rw [hr] at hk; cases hk), fun _ => h⟩
/-- append, by its run. -/
theorem step_append_run {w w' : World} {o : Oper} {a : Act} {K : Act → World → Prop} {E : Prop} (hgd : o.guard = none) (s x : Operand) (t : TypeId) (d : Option Tmp)
    (ho : o.op = .call { callee := .builtin .append, args := #[s, x], argTypes := #[t, t] }) (hd : o.dst = d) (vs vx u : Value) (hs : a.eval s = vs) (hx : a.eval x = vx) (hrun : (Builtin.append_ #[t, t] o.type #[vs, vx]).run P w = .ok u w')
    (h : K (a.put d u) w') : if Region.wanted o (yielded ops a.tmps) = true then Oper.wp P o a w K Q else E := by
  subst hd
  have hw : Region.wanted o (yielded ops a.tmps) = true := by simp [Region.wanted, hgd]
  rw [if_pos hw]
  unfold Oper.wp
  simp [execOp, ho, resolve, invoke, builtin, hs, hx, hrun, Result.andThen]
  exact h
end

end Go.Proofs.Ytmmckpjapnkepaa

/- Facts about disks as plain data: what comes keeps a disk ok, and what is read of one. Conditions: each theorem names its own. A statement that draws the order of its operations, all of which one last operation waits for: what is read is read first. Conditions: each theorem names its own. -/
import Derived.Test.YtcdiengbmjkglaaGreatPKHA
import Derived.Test.YtcdiengbmjkglaaGreatPKHB
import Derived.OrdersHeld
import Derived.StillTail
import Derived.RegionTactic
import Derived.WalkKit
import Derived.Test.YtcdiengbmjkglaaGreatRows
namespace Go.Proofs.YtcdiengbmjkglaaGreat

/-- What stays ok while writes come. -/
def Parts (d : DiskD) : Prop := HasRows d ∧ SlotsFine d.slots d.spoilt ∧ AllTx Ring7 d.rings
theorem come_parts {d : DiskD} {p : PutD} (h : Parts d) (hp : PutOk p) : Parts (comeD d p) := by
  obtain ⟨hr, hs, ht⟩ := h
  refine ⟨comeD_rows hr p, ?_⟩
  have h1 := hr.1
  have h2 := hr.2.1
  have h3 := hr.2.2
  obtain ⟨r, z, s⟩ := p
  cases r
  · have hp' : SlotOk z ∧ s.size = 3 := by simpa [PutOk] using hp
    have hz1 := hp'.1.1
    have hz2 := hp'.1.2
    refine ⟨?_, ht⟩
    intro j hj
    have hj' : j < d.slots.length := by simpa [comeD] using hj
    show SlotFine ((d.slots.set z.toNat s).getD j ByteArray.empty) ((d.spoilt.set z.toNat false).getD j false)
    rw [set_getD _ _ _ _ _ (by omega), set_getD _ _ _ _ _ (by omega)]
    by_cases e : z.toNat = j
    · rw [if_pos e, if_pos e]; exact .inr hp'.2
    · rw [if_neg e, if_neg e]; exact hs j hj'
  · have hp' : (0 ≤ z ∧ z ≤ 1) ∧ s.size ≤ 700 := by simpa [PutOk] using hp
    refine ⟨hs, ?_⟩
    intro j hj
    have hj' : j < d.rings.length := by simpa [comeD] using hj
    show Ring7 ((d.rings.set z.toNat s).getD j ByteArray.empty)
    rw [set_getD _ _ _ _ _ (by omega)]
    by_cases e : z.toNat = j
    · rw [if_pos e]; exact hp'.2
    · rw [if_neg e]; exact ht j hj'
theorem crashTo_parts {d : DiskD} (h : Parts d) (keep : Int) (ps : List PutD) (hp : AllPu PutOk ps) : Parts (crashTo d keep ps) := by
  induction ps generalizing d keep with
  | nil => exact h
  | cons q ps ih =>
    obtain ⟨h1, h2⟩ := allPu_cons hp
    refine ih ?_ _ h2
    split
    · exact come_parts h h1
    · exact h
theorem fine_parts {d : DiskD} (h : DiskFine d) : Parts d := ⟨(fine_sizes h).1, h.2.2.1, h.2.2.2.1⟩
theorem gone_wait {d : DiskD} (h : DiskFine d) (hg : d.state = 1) : d.wait = [] := List.eq_nil_of_length_eq_zero (h.2.2.2.2.2 hg).2.2
theorem crash_state (d : DiskD) (keep : Int) : (crashD d keep).state = d.state := (crashTo_wait d keep d.wait).2
theorem crash_fine {d : DiskD} (h : DiskFine d) (keep : Int) : DiskFine (crashD d keep) := by
  obtain ⟨hr, hs, ht⟩ := crashTo_parts (fine_parts h) keep d.wait h.2.2.2.2.1
  have hst := (crashTo_wait d keep d.wait).2
  refine ⟨by show StateOk (crashTo d keep d.wait).state; rw [hst]; exact h.1, ⟨hr.1, hr.2.1, hr.2.2, by simp [crashD]⟩, hs, ht, fun j hj => by simp [crashD] at hj, fun hg => ?_⟩
  have hg' : d.state = 1 := by rw [← hst]; exact hg
  have hw := gone_wait h hg'
  have hn := h.2.2.2.2.2 hg'
  have e : crashTo d keep d.wait = d := by rw [hw]; rfl
  refine ⟨?_, ?_, rfl⟩
  · show AllTx Empty0 (crashTo d keep d.wait).slots
    rw [e]; exact hn.1
  · show AllTx Empty0 (crashTo d keep d.wait).rings
    rw [e]; exact hn.2.1
theorem base_fine {d : DiskD} (h : DiskFine d) : DiskFine (putBase d) ∧ (putBase d).wait.length < 40 ∧ (putBase d).state = d.state := by
  unfold putBase
  split
  · exact ⟨crash_fine h _, by simp [crashD], crash_state d _⟩
  · have := h.2.1.2.2.2
    exact ⟨h, by omega, rfl⟩
theorem put_gone {d : DiskD} (h : d.state = 1) (p : PutD) : putD d p = d := by unfold putD; rw [if_pos h]
theorem put_live {d : DiskD} (h : d.state ≠ 1) (p : PutD) : putD d p = ⟨(putBase d).state, (putBase d).slots, (putBase d).rings, (putBase d).spoilt, (putBase d).wait ++ [p]⟩ := by unfold putD; rw [if_neg h]
theorem put_state {d : DiskD} (h : DiskFine d) (p : PutD) : (putD d p).state = d.state := by
  by_cases hs : d.state = 1
  · rw [put_gone hs]
  · rw [put_live hs]; exact (base_fine h).2.2
theorem put_fine {d : DiskD} {p : PutD} (h : DiskFine d) (hp : PutOk p) : DiskFine (putD d p) := by
  by_cases hs : d.state = 1
  · rw [put_gone hs]; exact h
  · rw [put_live hs]
    obtain ⟨hb, hl, hst⟩ := base_fine h
    refine ⟨hb.1, ⟨hb.2.1.1, hb.2.1.2.1, hb.2.1.2.2.1, by simp; omega⟩, hb.2.2.1, hb.2.2.2.1, fun j hj => ?_, fun hg => absurd (hst ▸ hg) hs⟩
    simp only [List.length_append, List.length_singleton] at hj
    show PutOk (((putBase d).wait ++ [p]).getD j put0)
    by_cases e : j = (putBase d).wait.length
    · subst e; rw [getD_snoc_eq]; exact hp
    · rw [getD_snoc_lt _ _ _ _ (by omega)]; exact hb.2.2.2.2.1 j (by omega)

theorem flush_slot {d : DiskD} (h : DiskFine d) (k : Nat) : (crashD d (-1)).slots.getD k ByteArray.empty = lastTo k (d.slots.getD k ByteArray.empty) d.wait := crash_last d d.wait k (fine_sizes h).1 h.2.2.2.2.1
theorem read_eq {d : DiskD} (h : DiskFine d) {k : Nat} (hk : k < 12) : readD d (k : Int) = lastTo k (d.slots.getD k ByteArray.empty) d.wait := by
  unfold readD
  rw [tt_true ⟨h, by constructor <;> omega⟩]
  exact flush_slot h k
theorem read_flush {d : DiskD} (h : DiskFine d) {k : Nat} (hk : k < 12) : readD (crashD d (-1)) (k : Int) = readD d (k : Int) := by
  rw [read_eq (crash_fine h _) hk, read_eq h hk, ← flush_slot h k]; rfl
theorem base_last {d : DiskD} (h : DiskFine d) (k : Nat) : lastTo k ((putBase d).slots.getD k ByteArray.empty) (putBase d).wait = lastTo k (d.slots.getD k ByteArray.empty) d.wait := by
  unfold putBase
  split
  · exact flush_slot h k
  · rfl
theorem read_put {d : DiskD} {p : PutD} (h : DiskFine d) (hp : PutOk p) {k : Nat} (hk : k < 12) : readD (putD d p) (k : Int) = if (p.ring = false ∧ p.pos = (k : Int)) ∧ d.state ≠ 1 then p.text else readD d (k : Int) := by
  rw [read_eq (put_fine h hp) hk, read_eq h hk]
  by_cases hs : d.state = 1
  · rw [put_gone hs, if_neg (fun h => h.2 hs)]
  · rw [put_live hs]
    show lastTo k ((putBase d).slots.getD k ByteArray.empty) ((putBase d).wait ++ [p]) = _
    rw [lastTo_snoc, base_last h k]
    by_cases hc : p.ring = false ∧ p.pos = (k : Int)
    · rw [if_pos hc, if_pos ⟨hc, hs⟩]
    · rw [if_neg hc, if_neg (fun h => hc h.1)]
theorem crash_none (d : DiskD) (keep : Int) (h : d.wait = []) : crashD d keep = d := by
  obtain ⟨st, xs, ys, bs, ps⟩ := d
  simp only at h
  subst h
  rfl
theorem crash_wait (d : DiskD) (keep : Int) : (crashD d keep).wait = [] := rfl
theorem crash_crash (d : DiskD) (keep k : Int) : crashD (crashD d keep) k = crashD d keep := crash_none _ _ rfl
theorem crashTo_zero (d : DiskD) (ps : List PutD) : crashTo d 0 ps = d := by
  induction ps with
  | nil => rfl
  | cons p ps ih => exact ih
theorem crashTo_all (d : DiskD) (ps : List PutD) (n : Nat) (h : ps.length ≤ n) : crashTo d (2 ^ n - 1) ps = crashTo d (-1) ps := by
  induction ps generalizing d n with
  | nil => rfl
  | cons p ps ih =>
    cases n with
    | zero => simp at h
    | succ n =>
      have e1 : ((2 : Int) ^ (n + 1) - 1) % 2 = 1 := by rw [Int.pow_succ]; omega
      have e2 : ((2 : Int) ^ (n + 1) - 1) / 2 = 2 ^ n - 1 := by rw [Int.pow_succ]; omega
      show crashTo (if ((2 : Int) ^ (n + 1) - 1) % 2 = 1 then comeD d p else d) (((2 : Int) ^ (n + 1) - 1) / 2) ps = crashTo (if (-1 : Int) % 2 = 1 then comeD d p else d) ((-1 : Int) / 2) ps
      rw [if_pos e1, e2, if_pos (by decide), show (-1 : Int) / 2 = -1 by decide]
      exact ih _ n (by simpa using h)
theorem crash_all {d : DiskD} (h : DiskFine d) : crashD d 9223372036854775807 = crashD d (-1) := by
  unfold crashD
  rw [show (9223372036854775807 : Int) = 2 ^ 63 - 1 by decide, crashTo_all d d.wait 63 (by have := h.2.1.2.2.2; omega)]
theorem crash_slots0 (d : DiskD) : (crashD d 0).slots = d.slots ∧ (crashD d 0).rings = d.rings := by
  unfold crashD
  rw [crashTo_zero]
  exact ⟨rfl, rfl⟩
/-- Behind a fall a slot has what it had, or what waited for it. -/
def Hit (ps : List PutD) (i : Nat) (t : ByteArray) (j : Nat) : Prop := (ps.getD j put0).ring = false ∧ (ps.getD j put0).pos = (i : Int) ∧ (ps.getD j put0).text = t
theorem come_slot {d : DiskD} {p : PutD} (hr : HasRows d) (hp : PutOk p) (i : Nat) : (comeD d p).slots.getD i ByteArray.empty = if p.ring = false ∧ p.pos = (i : Int) then p.text else d.slots.getD i ByteArray.empty := by
  obtain ⟨r, z, s⟩ := p
  cases r
  · have hp' : SlotOk z ∧ s.size = 3 := by simpa [PutOk] using hp
    obtain ⟨m, rfl⟩ := Int.eq_ofNat_of_zero_le hp'.1.1
    have hm := hp'.1.2
    have hlen := hr.1
    show (d.slots.set m s).getD i ByteArray.empty = _
    rw [set_getD _ _ _ _ _ (by omega)]
    by_cases e : m = i
    · subst e; simp
    · rw [if_neg e, if_neg (fun h => e (by have := h.2; simp only at this; omega))]
  · show d.slots.getD i ByteArray.empty = _
    simp
theorem crash_hit (d : DiskD) (keep : Int) (ps : List PutD) (i : Nat) (hr : HasRows d) (hp : AllPu PutOk ps) : (crashTo d keep ps).slots.getD i ByteArray.empty = d.slots.getD i ByteArray.empty ∨ ∃ j, j < ps.length ∧ Hit ps i ((crashTo d keep ps).slots.getD i ByteArray.empty) j := by
  induction ps generalizing d keep with
  | nil => exact .inl rfl
  | cons p ps ih =>
    obtain ⟨h1, h2⟩ := allPu_cons hp
    show (crashTo (if keep % 2 = 1 then comeD d p else d) (keep / 2) ps).slots.getD i ByteArray.empty = _ ∨ ∃ j, j < (p :: ps).length ∧ Hit (p :: ps) i ((crashTo (if keep % 2 = 1 then comeD d p else d) (keep / 2) ps).slots.getD i ByteArray.empty) j
    have hr' : HasRows (if keep % 2 = 1 then comeD d p else d) := by split; exact comeD_rows hr p; exact hr
    rcases ih _ (keep / 2) hr' h2 with h | ⟨j, hj, hh⟩
    · by_cases hk : keep % 2 = 1
      · rw [if_pos hk] at h ⊢
        rw [come_slot hr h1] at h
        by_cases e : p.ring = false ∧ p.pos = (i : Int)
        · rw [if_pos e] at h
          exact .inr ⟨0, by simp, e.1, e.2, h.symm⟩
        · rw [if_neg e] at h
          exact .inl h
      · rw [if_neg hk] at h ⊢
        exact .inl h
    · exact .inr ⟨j + 1, by simpa using hj, hh⟩

end Go.Proofs.YtcdiengbmjkglaaGreat

namespace Go.Proofs.YtcdiengbmjkglaaGreat
open Go.RowKit

section
variable {P : Program} {ops : Array Oper} {Q : Exit → Act → World → Prop} {md : Region.Mode} {S : World → Prop} {L : Nat}
/-- WHATEVER ORDER IS DRAWN, and S holds till the last operation, number L, is done. -/
def AnyS (P : Program) (md : Region.Mode) (ops : Array Oper) (Q : Exit → Act → World → Prop) (S : World → Prop) (L : Nat) : Nat → Array Bool → Act → World → Prop
  | 0, done, a, w => Region.ready md ops done = [] ∧ Q .normal a w
  | n + 1, done, a, w => (∀ k ∈ Region.ready md ops done, wpOp P ops Q k (fun a' w' => AnyS P md ops Q S L n (done.setIfInBounds k true) a' w' ∧ (k ≠ L → S w')) a w) ∧ (Region.ready md ops done = [] → Q .normal a w)
theorem AnyS.any : ∀ (n : Nat) (done : Array Bool) (a : Act) (w : World), AnyS P md ops Q S L n done a w → wpAny P md ops Q n done a w := by
  intro n
  induction n with
  | zero => intro done a w h; exact h
  | succ n ih => intro done a w h; exact ⟨h.2, fun k hk => wpOp_mono (fun a' w' h' => ih _ a' w' h'.1) (h.1 k hk)⟩
theorem AnyS.start {id : Nat} {a : Act} {w : World} (hm : P.follows .mixedOrders = true) (h : AnyS P .any ops Q S L ops.size (Array.replicate ops.size false) a w.drew) : (Code.region id ops true).wp P Q a w :=
  wp_region_any hm (AnyS.any _ _ _ _ h)
theorem AnyS.before {i : Nat} {oi : Oper} {v : Value} (hi : ops[i]? = some oi) (hsel : ∀ (j : Nat) (o : Oper) cs b, ops[j]? = some o → o.op ≠ .select cs b) (hQ : ∀ c a w, Q (.panic c) (a.put oi.dst v) w → Q (.panic c) a w) (hL : Region.waitsFor md ops L i = true) :
    ∀ (n : Nat) (done : Array Bool) (a : Act) (w : World), (∀ j oj, ops[j]? = some oj → j ≠ i → done.getD j true = false → (∀ e ∈ oj.after, Region.binds md e = true → e.on ≠ i) → oi.apart ops oj = true) →
      i ∈ Region.ready md ops done → YieldsIf P ops S oi v a → S w → AnyS P md ops Q S L n (done.setIfInBounds i true) (a.put oi.dst v) w → AnyS P md ops Q S L (n + 1) done a w := by
  intro n
  induction n with
  | zero =>
    intro done a w _ hr hy hS h
    refine ⟨fun j hj => ?_, fun h0 => by rw [h0] at hr; cases hr⟩
    by_cases e : j = i
    · subst e; exact hy.wpOp hi hS ⟨h, fun _ => hS⟩
    · have hj' := ready_mono hj e
      rw [h.1] at hj'
      cases hj'
  | succ n ih =>
    intro done a w hfr hr hy hS h
    refine ⟨fun j hj => ?_, fun h0 => by rw [h0] at hr; cases hr⟩
    by_cases e : j = i
    · subst e; exact hy.wpOp hi hS ⟨h, fun _ => hS⟩
    · obtain ⟨hun, oj, hoj, hdeps⟩ := mem_ready.1 hj
      have hiu := getD_both (mem_ready.1 hr).1
      have hne : ∀ d ∈ oj.after, Region.binds md d = true → d.on ≠ i := fun d hd hb heq => by
        have := hdeps d hd hb
        rw [heq, hiu] at this
        cases this
      have hjL : j ≠ L := fun heq => by
        subst heq
        obtain ⟨o', ho', d, hd, hb, hon⟩ := Region.waitsFor_spec hL
        rw [hoj] at ho'
        cases ho'
        exact hne d hd hb hon
      refine wpOp_mono (fun a' w' h3 => ?_) (wpOp_putIf hoj (hfr j oj hoj e hun hne) (fun cs b => hsel i oi cs b hi) (fun cs b => hsel j oj cs b hoj) hQ hy (h.1 j (ready_mono hj e)))
      obtain ⟨hy', hA, hS'⟩ := h3
      refine ⟨ih _ a' w' (fun k ok hk hki hku hno => hfr k ok hk hki ?_ hno) (ready_mono hr (fun q => e q.symm)) hy' (hS' hjL) ?_, fun _ => hS' hjL⟩
      · by_cases ejk : j = k
        · subst ejk; exact hun
        · rwa [getD_set_ne true ejk] at hku
      · rw [Array.setIfInBounds_comm _ _ e]
        exact hA
/-- What is ready and only reads is taken first. -/
theorem AnyS.take (i : Nat) {d : Option Tmp} {oi : Oper} {v : Value} {n : Nat} {done : Array Bool} {a : Act} {w : World} (hi : ops[i]? = some oi) (hd : oi.dst = d) (hs : Region.noSelect ops = true) (hf : Region.free md ops done i = true) (hr : (Region.ready md ops done).contains i = true)
    (hL : Region.waitsFor md ops L i = true) (hQ : ∀ c a w, Q (.panic c) (a.put d v) w → Q (.panic c) a w) (hS : S w) (hy : Region.wanted oi (yielded ops a.tmps) = true) (hrun : ∀ w, S w → (execOp a.eval oi).run P w = .ok (.value v) w)
    (h : AnyS P md ops Q S L n (done.setIfInBounds i true) (a.put d v) w) : AnyS P md ops Q S L (n + 1) done a w := by
  subst hd
  exact AnyS.before hi (Region.noSelect_spec hs) hQ hL n done a w (Region.free_spec hi hf) (by simpa using hr) (.inl ⟨hy, hrun⟩) hS h
/-- One alone is ready. -/
theorem AnyS.one (i : Nat) {o : Oper} {n : Nat} {done : Array Bool} {a : Act} {w : World} (hr : Region.ready md ops done = [i]) (ho : ops[i]? = some o)
    (h : ∀ K' : Act → World → Prop, (∀ a w, AnyS P md ops Q S L n (done.setIfInBounds i true) a w ∧ (i ≠ L → S w) → K' a w) → if Region.wanted o (yielded ops a.tmps) = true then Oper.wp P o a w K' Q else K' (a.put o.dst undef) w) : AnyS P md ops Q S L (n + 1) done a w := by
  refine ⟨fun k hk => ?_, fun h0 => by rw [hr] at h0; cases h0⟩
  rw [hr] at hk
  obtain rfl : k = i := by simpa using hk
  exact wpOp_step ho h
theorem AnyS.done {n : Nat} {done : Array Bool} {a : Act} {w : World} (hr : Region.ready md ops done = []) (h : Q .normal a w) : AnyS P md ops Q S L n done a w := by
  cases n with
  | zero => exact ⟨hr, h⟩
  | succ n => exact ⟨fun k hk => (by rw [hr] at hk; cases hk), fun _ => h⟩
/-- append, by its run. -/
theorem step_append_run {w w' : World} {o : Oper} {a : Act} {K : Act → World → Prop} {E : Prop} (hgd : o.guard = none) (s x : Operand) (t : TypeId) (d : Option Tmp)
    (ho : o.op = .call { callee := .builtin .append, args := #[s, x], argTypes := #[t, t] }) (hd : o.dst = d) (vs vx u : Value) (hs : a.eval s = vs) (hx : a.eval x = vx) (hrun : (Builtin.append_ #[t, t] o.type #[vs, vx]).run P w = .ok u w')
    (h : K (a.put d u) w') : if Region.wanted o (yielded ops a.tmps) = true then Oper.wp P o a w K Q else E := by
  subst hd
  have hw : Region.wanted o (yielded ops a.tmps) = true := by simp [Region.wanted, hgd]
  rw [if_pos hw]
  unfold Oper.wp
  simp [execOp, ho, resolve, invoke, builtin, hs, hx, hrun, Result.andThen]
  exact h
end

end Go.Proofs.YtcdiengbmjkglaaGreat

/- Plain facts of places that are taken: each was free, on a disk of its own; how many disks have a free place. Conditions: none. A row of how many free places each disk has. Conditions: none. -/
import Derived.Test.YtlonecgmldjdpaaFT
namespace Go.Proofs.Ytlonecgmldjdpaa
open Go.RowKit Go.Sort Go.Lib

theorem countP_less {f g : Nat → Bool} {x : Nat} (hf : f x = true) (hg : g x = false) (h : ∀ y, y ≠ x → g y = f y) : ∀ n, x < n → (List.range n).countP g + 1 = (List.range n).countP f
  | 0, hx => by omega
  | n + 1, hx => by
    rw [List.range_succ, List.countP_append, List.countP_append]
    by_cases e : x = n
    · subst e
      have : (List.range x).countP g = (List.range x).countP f := by
        apply List.countP_congr
        intro y hy
        rw [List.mem_range] at hy
        rw [h y (by omega)]
      rw [this]
      simp [hf, hg]
    · have ih := countP_less hf hg h n (by omega)
      have hn := h n (fun k => e k.symm)
      simp only [List.countP_cons, List.countP_nil, hn]
      omega
/-- WHETHER A DISK HAS ONE of some places; how many disks have. -/
def Has (ps : List PlD) (d : Int) : Prop := ∃ q ∈ ps, q.1 = d
noncomputable def dks (ps : List PlD) (k : Nat) : Nat := (List.range k).countP (fun d : Nat => tt (Has ps (d : Int)))
noncomputable def left (ps acc : List PlD) (k : Nat) : Nat := (List.range k).countP (fun d : Nat => tt (Has ps (d : Int) ∧ ¬Gave acc (d : Int)))
theorem dks_succ (ps : List PlD) (k : Nat) : dks ps (k + 1) = dks ps k + if tt (Has ps (k : Int)) = true then 1 else 0 := by
  unfold dks
  rw [List.range_succ, List.countP_append]
  simp [List.countP_cons]
theorem dks_le (ps : List PlD) (k : Nat) : dks ps k ≤ k := by
  unfold dks
  have := List.countP_le_length (p := fun d : Nat => tt (Has ps (d : Int))) (l := List.range k)
  simpa using this
theorem left_nil (ps : List PlD) (k : Nat) : left ps [] k = dks ps k := by
  unfold left dks
  apply List.countP_congr
  intro d _
  rw [tt_congr (show (Has ps (d : Int) ∧ ¬Gave [] (d : Int)) ↔ Has ps (d : Int) from ⟨fun h => h.1, fun h => ⟨h, fun ⟨q, hq, _⟩ => by simp at hq⟩⟩)]
theorem has_take_succ {ps : List PlD} {i : Nat} (hi : i < ps.length) (d : Int) : Has (ps.take (i + 1)) d ↔ Has (ps.take i) d ∨ (ps.getD i pl0).1 = d := by
  rw [take_snoc hi]
  exact gave_snoc
theorem has_nil (d : Int) : ¬Has [] d := fun ⟨q, hq, _⟩ => by simp at hq
theorem has_take_all (ps : List PlD) (d : Int) : Has (ps.take ps.length) d ↔ Has ps d := by rw [List.take_length]

/-- WHAT IS TAKEN. -/
structure Taken (ps acc : List PlD) (k : Nat) : Prop where
  free : ∀ q ∈ acc, q ∈ ps
  own : ∀ i j, j < i → i < acc.length → (acc.getD j pl0).1 ≠ (acc.getD i pl0).1
  best : ∀ i, i < acc.length → IsBest ps (acc.take i) (acc.getD i pl0)
  left : acc.length + left ps acc k = dks ps k
theorem snocD {acc : List PlD} {p : PlD} {i : Nat} (h : i < acc.length) : (acc ++ [p]).getD i pl0 = acc.getD i pl0 := by rw [List.getD, List.getElem?_append_left h]; rfl
theorem snocE {acc : List PlD} {p : PlD} : (acc ++ [p]).getD acc.length pl0 = p := by rw [List.getD, List.getElem?_append_right (Nat.le_refl _), Nat.sub_self]; rfl
theorem taken_of {ps : List PlD} {n : Nat} (hr : ∀ q ∈ ps, 0 ≤ q.1 ∧ q.1 < (n : Int)) : ∀ {k : Nat} {acc : List PlD}, tks ps k = some acc → Taken ps acc n
  | 0, acc, h => by
    rw [tks] at h
    cases h
    exact ⟨fun q hq => by simp at hq, fun i j _ hi => by simp at hi, fun i hi => by simp at hi, by rw [left_nil]; simp⟩
  | k + 1, acc, h => by
    rw [tks] at h
    cases h1 : tks ps k with
    | none => rw [h1] at h; cases h
    | some a1 =>
      rw [h1] at h
      cases h2 : nxt ps a1 with
      | none => simp [h2] at h
      | some p =>
        simp [h2] at h
        subst h
        have ih := taken_of hr h1
        have hb := nxt_best h2
        obtain ⟨r0, r1⟩ := hr p hb.1
        obtain ⟨d, hd⟩ := Int.eq_ofNat_of_zero_le r0
        refine ⟨fun q hq => ?_, fun i j hji hi => ?_, fun i hi => ?_, ?_⟩
        · rcases List.mem_append.1 hq with h | h
          · exact ih.free q h
          · rw [List.mem_singleton] at h; subst h; exact hb.1
        · rw [List.length_append, List.length_singleton] at hi
          by_cases e : i = a1.length
          · subst e
            rw [snocE, snocD hji]
            intro h
            exact hb.2.1 ⟨_, getD_mem' hji, h⟩
          · rw [snocD (show i < a1.length by omega), snocD (show j < a1.length by omega)]
            exact ih.own i j hji (by omega)
        · rw [List.length_append, List.length_singleton] at hi
          by_cases e : i = a1.length
          · subst e
            rw [snocE, List.take_left]
            exact hb
          · rw [snocD (show i < a1.length by omega), List.take_append_of_le_length (by omega)]
            exact ih.best i (by omega)
        · have h1 := countP_less (f := fun d : Nat => tt (Has ps (d : Int) ∧ ¬Gave a1 (d : Int))) (g := fun d : Nat => tt (Has ps (d : Int) ∧ ¬Gave (a1 ++ [p]) (d : Int))) (x := d)
            (tt_true ⟨⟨p, hb.1, hd⟩, by rw [← hd]; exact hb.2.1⟩) (tt_false (fun h => h.2 (gave_snoc.2 (.inr hd))))
            (fun y hy => tt_congr ⟨fun h => ⟨h.1, fun k => h.2 (gave_snoc.2 (.inl k))⟩, fun h => ⟨h.1, fun k => (gave_snoc.1 k).elim h.2 (fun e => hy (by omega))⟩⟩) n (by omega)
          have h2 := ih.left
          unfold left at h2 ⊢
          rw [List.length_append, List.length_singleton]
          omega
/-- NONE IS TAKEN only if disks are missing. -/
theorem tks_none_ex {ps : List PlD} : ∀ {m : Nat}, tks ps m = none → ∃ k acc, k < m ∧ tks ps k = some acc ∧ nxt ps acc = none
  | 0, h => by rw [tks] at h; cases h
  | m + 1, h => by
    cases h1 : tks ps m with
    | none =>
      obtain ⟨k, acc, hk, r⟩ := tks_none_ex h1
      exact ⟨k, acc, by omega, r⟩
    | some acc =>
      rw [tks, h1] at h
      cases h2 : nxt ps acc with
      | none => exact ⟨m, acc, by omega, h1, h2⟩
      | some p => simp [h2] at h
theorem nxt_none_gave {ps acc : List PlD} (hs : ps.Pairwise plLt) (h : nxt ps acc = none) : ∀ q ∈ ps, Gave acc q.1 := by
  -- of all that did not give one is the best: walked as the program does
  have key : ∀ k, k ≤ ps.length → ∃ p m, NInv (cU ps acc) ps k p m := by
    intro k
    induction k with
    | zero => intro _; exact ⟨pl0, 0, NInv.start _ _ _⟩
    | succ k ih =>
      intro hk
      obtain ⟨p, m, hI⟩ := ih (by omega)
      by_cases hgt : m < cU ps acc (ps.getD k pl0).1
      · exact ⟨_, _, hI.more hgt⟩
      · exact ⟨_, _, hI.same hgt⟩
  obtain ⟨p, m, hI⟩ := key ps.length (Nat.le_refl _)
  by_cases hm : 0 < m
  · rw [nxt_some (hI.best hs hm)] at h; cases h
  · exact hI.no hm
theorem few_disks {ps : List PlD} {n m : Nat} (hs : ps.Pairwise plLt) (hr : ∀ q ∈ ps, 0 ≤ q.1 ∧ q.1 < (n : Int)) (h : tks ps m = none) : dks ps n < m := by
  obtain ⟨k, acc, hk, h1, h2⟩ := tks_none_ex h
  have ht := (taken_of hr h1).left
  have hl : left ps acc n = 0 := by
    unfold left
    rw [List.countP_eq_zero]
    intro d _ hd
    obtain ⟨⟨q, hq, e⟩, hn⟩ := (tt_iff _).1 hd
    exact hn (e ▸ nxt_none_gave hs h2 q hq)
  have := tks_length h1
  omega
/-- COUNTS FALL along what is taken; and each is the first of its disk. -/
theorem Taken.falls {ps acc : List PlD} {n : Nat} (h : Taken ps acc n) {i : Nat} (hi : i + 1 < acc.length) : cnt ps (acc.getD (i + 1) pl0).1 ≤ cnt ps (acc.getD i pl0).1 := by
  have h1 := h.best i (by omega)
  have h2 := h.best (i + 1) hi
  have hng : ¬Gave (acc.take i) (acc.getD (i + 1) pl0).1 := fun ⟨q, hq, e⟩ => h2.2.1 ⟨q, by rw [take_snoc (by omega)]; exact List.mem_append_left _ hq, e⟩
  rcases h1.2.2 _ h2.1 hng with k | ⟨k, _⟩ <;> omega
theorem Taken.first {ps acc : List PlD} {n : Nat} (h : Taken ps acc n) {i : Nat} (hi : i < acc.length) {q : PlD} (hq : q ∈ ps) (e : q.1 = (acc.getD i pl0).1) : ¬q.2 < (acc.getD i pl0).2 := fun hlt => by
  have h1 := h.best i hi
  rcases h1.2.2 q hq (by rw [e]; exact h1.2.1) with k | ⟨_, k⟩
  · rw [e] at k; omega
  · exact k (.inr ⟨e, hlt⟩)

end Go.Proofs.Ytlonecgmldjdpaa

namespace Go.Proofs.Ytlonecgmldjdpaa
open Go.RowKit Go.Sort Go.Lib

theorem tak_true {n : Int} {ra rb : RootD} {cols : Int} (h : takB n ra rb cols = true) : 1 ≤ cols ∧ cols ≤ n ∧ tks (fre n ra rb) cols.toNat = some (tak n ra rb cols) := by
  by_cases hc : 1 ≤ cols ∧ cols ≤ n
  · obtain ⟨e1, e2⟩ := tak_in (ra := ra) (rb := rb) hc
    rw [e2] at h
    rw [e1]
    cases hk : tks (fre n ra rb) cols.toNat with
    | none => rw [hk] at h; cases h
    | some acc => exact ⟨hc.1, hc.2, rfl⟩
  · rw [(tak_out hc).2] at h; cases h
theorem infoIn : (Try.prog.info? 3).map (fun i => (i.zero, i.size, i.bytes)) = some (some (.int .i64 0), 1, 8) := by kernel_rfl
def MsR (w : World) (g nn : Nat) (l : List PlD) : Prop := ∃ ms : Array Value, ms.size = nn ∧ Bk w g ms 3 ∧ ∀ d, d < nn → ms[d]? = some (.int .i64 (cnt l (d : Int) : Int))
theorem msR_new (w : World) (nn : Nat) : MsR (w.alloc (.cells (madeCells #[.int .i64 0] nn) 3)) w.heap.size nn [] :=
  ⟨_, size_madeCells _ _, Bk.new w _ _, fun d hd => by
    show _ = some (Value.int .i64 0)
    simp [madeCells, hd, Nat.mod_one]⟩
theorem MsR.cell {w : World} {g nn : Nat} {l : List PlD} (h : MsR w g nn l) {d : Nat} (hd : d < nn) : w.cell? ⟨g, d, none⟩ = some (.int .i64 (cnt l (d : Int) : Int)) ∧ w.frozen? ⟨g, d, none⟩ = false := by
  obtain ⟨ms, h1, h2, h3⟩ := h
  exact ⟨(h2.cell d).trans (h3 d hd), h2.frozen d⟩
theorem MsR.more {w : World} {g nn : Nat} {l : List PlD} (h : MsR w g nn l) {d : Nat} {q : PlD} (hd : d < nn) (hq : q.1 = (d : Int)) : MsR (w.setCell ⟨g, d, none⟩ (.int .i64 ((cnt l (d : Int) : Int) + 1))) g nn (l ++ [q]) := by
  obtain ⟨ms, h1, h2, h3⟩ := h
  refine ⟨ms.setIfInBounds d _, by simp [h1], h2.set d _, fun j hj => ?_⟩
  rw [cnt_snoc]
  by_cases e : d = j
  · subst e
    rw [Array.getElem?_setIfInBounds_self_of_lt (by omega), if_pos hq]
    rfl
  · rw [Array.getElem?_setIfInBounds_ne e, h3 j hj, if_neg (fun x => e (by omega))]
theorem cellB {w w' : World} {g b o : Nat} {v : Value} (hB : Below g w w') (hg : w.heap.size = g) (h : w.cell? ⟨b, o, none⟩ = some v) : w'.cell? ⟨b, o, none⟩ = some v := by
  subst hg
  exact cell_below hB h

end Go.Proofs.Ytlonecgmldjdpaa

/- Taking places, as plain data: again and again the first free place of the disk that has most free ones and gave none yet. Conditions: none. SpaceTake of the program: free places are counted in a map from disks. Conditions: none but the row's own bound on sizes. SpaceTake of the program and of the specification. Conditions: none but the row's own bound on sizes. SpaceTake of the specification. Conditions: none but the row's own bound on sizes. SpaceTake of the specification, whole. Conditions: none but the row's own bound on sizes. -/
import Derived.Test.YtlonecgmldjdpaaF0
import Derived.Test.YtlonecgmldjdpaaF3
import Derived.Maps.OwnSet
import Derived.Maps.OwnOps
import Derived.Maps.Views
import Derived.Deep.AppendLies
import Derived.WalkArith
import Derived.Deep.OwnRows
namespace Go.Proofs.Ytlonecgmldjdpaa
open Go.RowKit Go.Sort Go.Lib

/-- HOW MANY of some places a disk has; whether it gave. -/
def cnt (ps : List PlD) (d : Int) : Nat := ps.countP (fun q => q.1 == d)
def Gave (acc : List PlD) (d : Int) : Prop := ∃ q ∈ acc, q.1 = d
noncomputable def cU (ps acc : List PlD) (d : Int) : Int := if tt (Gave acc d) = true then 0 else (cnt ps d : Int)
theorem cU_gave {ps acc : List PlD} {d : Int} (h : Gave acc d) : cU ps acc d = 0 := by unfold cU; rw [if_pos (tt_true h)]
theorem cU_not {ps acc : List PlD} {d : Int} (h : ¬Gave acc d) : cU ps acc d = (cnt ps d : Int) := by unfold cU; rw [if_neg (by rw [tt_false h]; simp)]
theorem cU_nil (ps : List PlD) (d : Int) : cU ps [] d = (cnt ps d : Int) := cU_not (fun ⟨q, h, _⟩ => by simp at h)
theorem gave_snoc {acc : List PlD} {p : PlD} {d : Int} : Gave (acc ++ [p]) d ↔ Gave acc d ∨ p.1 = d := by
  unfold Gave
  constructor
  · rintro ⟨q, hq, e⟩
    rcases List.mem_append.1 hq with h | h
    · exact .inl ⟨q, h, e⟩
    · rw [List.mem_singleton] at h; subst h; exact .inr e
  · rintro (⟨q, hq, e⟩ | e)
    · exact ⟨q, List.mem_append_left _ hq, e⟩
    · exact ⟨p, List.mem_append_right _ (by simp), e⟩
theorem cU_snoc (ps acc : List PlD) (p : PlD) (d : Int) : cU ps (acc ++ [p]) d = if p.1 = d then 0 else cU ps acc d := by
  by_cases h : p.1 = d
  · rw [if_pos h, cU_gave (gave_snoc.2 (.inr h))]
  · rw [if_neg h]
    by_cases k : Gave acc d
    · rw [cU_gave k, cU_gave (gave_snoc.2 (.inl k))]
    · rw [cU_not k, cU_not (fun x => (gave_snoc.1 x).elim k h)]
theorem cU_nonneg (ps acc : List PlD) (d : Int) : 0 ≤ cU ps acc d := by
  by_cases k : Gave acc d
  · rw [cU_gave k]; omega
  · rw [cU_not k]; omega
theorem cnt_pos {ps : List PlD} {q : PlD} (h : q ∈ ps) : 0 < cnt ps q.1 := List.countP_pos_iff.2 ⟨q, h, by simp⟩
theorem cnt_le (ps : List PlD) (d : Int) : cnt ps d ≤ ps.length := List.countP_le_length
theorem cU_le (ps acc : List PlD) (d : Int) : cU ps acc d ≤ ps.length := by
  by_cases k : Gave acc d
  · rw [cU_gave k]; omega
  · rw [cU_not k]; have := cnt_le ps d; omega
theorem take_snoc {ps : List PlD} {k : Nat} (hk : k < ps.length) : ps.take (k + 1) = ps.take k ++ [ps.getD k pl0] := by
  rw [List.take_succ_eq_append_getElem hk, List.getD, List.getElem?_eq_getElem hk]; rfl
theorem cnt_snoc (l : List PlD) (x : PlD) (d : Int) : cnt (l ++ [x]) d = if x.1 = d then cnt l d + 1 else cnt l d := by
  unfold cnt
  rw [List.countP_append]
  by_cases h : x.1 = d <;> simp [h]

/-- THE PLACE THAT IS TAKEN NEXT. -/
def IsBest (ps acc : List PlD) (p : PlD) : Prop := p ∈ ps ∧ ¬Gave acc p.1 ∧ ∀ q ∈ ps, ¬Gave acc q.1 → cnt ps q.1 < cnt ps p.1 ∨ (cnt ps q.1 = cnt ps p.1 ∧ ¬plLt q p)
theorem best_one {ps acc : List PlD} {p q : PlD} (h : IsBest ps acc p) (k : IsBest ps acc q) : p = q := by
  rcases h.2.2 q k.1 k.2.1 with a | ⟨a, b⟩
  · rcases k.2.2 p h.1 h.2.1 with c | ⟨c, _⟩ <;> omega
  · rcases k.2.2 p h.1 h.2.1 with c | ⟨_, d⟩
    · omega
    · exact plLt_tri d b
noncomputable def nxt (ps acc : List PlD) : Option PlD := @dite _ (∃ p, IsBest ps acc p) (Classical.propDecidable _) (fun h => some (Classical.choose h)) (fun _ => none)
theorem nxt_some {ps acc : List PlD} {p : PlD} (h : IsBest ps acc p) : nxt ps acc = some p := by
  unfold nxt
  rw [dif_pos ⟨p, h⟩]
  exact congrArg some (best_one (Classical.choose_spec (⟨p, h⟩ : ∃ p, IsBest ps acc p)) h)
theorem nxt_none {ps acc : List PlD} (h : ∀ q ∈ ps, Gave acc q.1) : nxt ps acc = none := by
  unfold nxt
  rw [dif_neg]
  rintro ⟨p, hp, hn, _⟩
  exact hn (h p hp)
theorem nxt_best {ps acc : List PlD} {p : PlD} (h : nxt ps acc = some p) : IsBest ps acc p := by
  unfold nxt at h
  by_cases k : ∃ p, IsBest ps acc p
  · rw [dif_pos k] at h
    exact Option.some.inj h ▸ Classical.choose_spec k
  · rw [dif_neg k] at h
    cases h
/-- SO MANY PLACES, one behind the other; none, if a disk is missing. -/
noncomputable def tks (ps : List PlD) : Nat → Option (List PlD)
  | 0 => some []
  | k + 1 => (tks ps k).bind fun acc => (nxt ps acc).map fun p => acc ++ [p]
theorem tks_step {ps acc : List PlD} {k : Nat} {p : PlD} (h : tks ps k = some acc) (hn : nxt ps acc = some p) : tks ps (k + 1) = some (acc ++ [p]) := by
  rw [tks, h]; simp [hn]
theorem tks_no {ps acc : List PlD} {k : Nat} (h : tks ps k = some acc) (hn : nxt ps acc = none) : tks ps (k + 1) = none := by
  rw [tks, h]; simp [hn]
theorem tks_none {ps : List PlD} {k : Nat} (h : tks ps k = none) : ∀ m, tks ps (k + m) = none
  | 0 => h
  | m + 1 => by rw [← Nat.add_assoc, tks, tks_none h m]; rfl
theorem tks_stop {ps acc : List PlD} {k m : Nat} (h : tks ps k = some acc) (hn : nxt ps acc = none) (hk : k < m) : tks ps m = none := by
  have := tks_none (tks_no h hn) (m - (k + 1))
  rw [show k + 1 + (m - (k + 1)) = m by omega] at this
  exact this
theorem tks_length {ps : List PlD} : ∀ {k : Nat} {acc : List PlD}, tks ps k = some acc → acc.length = k
  | 0, acc, h => by rw [tks] at h; cases h; rfl
  | k + 1, acc, h => by
    rw [tks] at h
    cases h1 : tks ps k with
    | none => rw [h1] at h; cases h
    | some a1 =>
      rw [h1] at h
      cases h2 : nxt ps a1 with
      | none => simp [h2] at h
      | some p =>
        simp [h2] at h
        subst h
        rw [List.length_append, tks_length h1]
        rfl
theorem tks_nil (k : Nat) : tks [] (k + 1) = none := by
  have h0 : tks [] 0 = some [] := rfl
  exact tks_stop h0 (nxt_none (fun q h => by simp at h)) (Nat.succ_pos k)

/-- WHAT A ROUND OVER THE PLACES KEEPS. -/
def NInv (c : Int → Int) (ps : List PlD) (k : Nat) (p : PlD) (m : Int) : Prop :=
  0 ≤ m ∧ (∀ i, i < k → c (ps.getD i pl0).1 ≤ m) ∧ (0 < m → ∃ i, i < k ∧ ps.getD i pl0 = p ∧ c p.1 = m ∧ ∀ j, j < i → c (ps.getD j pl0).1 < m)
theorem NInv.start (c : Int → Int) (ps : List PlD) (p : PlD) : NInv c ps 0 p 0 := ⟨by omega, fun i hi => by omega, fun h => by omega⟩
theorem NInv.more {c : Int → Int} {ps : List PlD} {k : Nat} {p : PlD} {m : Int} (h : NInv c ps k p m) (hgt : m < c (ps.getD k pl0).1) : NInv c ps (k + 1) (ps.getD k pl0) (c (ps.getD k pl0).1) := by
  obtain ⟨h0, h1, h2⟩ := h
  refine ⟨by omega, fun i hi => ?_, fun _ => ⟨k, by omega, rfl, rfl, fun j hj => by have := h1 j hj; omega⟩⟩
  by_cases e : i = k
  · subst e; omega
  · have := h1 i (by omega); omega
theorem NInv.same {c : Int → Int} {ps : List PlD} {k : Nat} {p : PlD} {m : Int} (h : NInv c ps k p m) (hle : ¬m < c (ps.getD k pl0).1) : NInv c ps (k + 1) p m := by
  obtain ⟨h0, h1, h2⟩ := h
  refine ⟨h0, fun i hi => ?_, fun hm => ?_⟩
  · by_cases e : i = k
    · subst e; omega
    · exact h1 i (by omega)
  · obtain ⟨i, hi, r⟩ := h2 hm
    exact ⟨i, by omega, r⟩
theorem getD_mem' {l : List PlD} {i : Nat} (h : i < l.length) : l.getD i pl0 ∈ l := by
  rw [List.getD, List.getElem?_eq_getElem h]; exact List.getElem_mem h
theorem mem_getD {l : List PlD} {q : PlD} (h : q ∈ l) : ∃ i, i < l.length ∧ l.getD i pl0 = q := by
  obtain ⟨i, hi, e⟩ := List.getElem_of_mem h
  exact ⟨i, hi, by rw [List.getD, List.getElem?_eq_getElem hi]; exact e⟩
theorem sorted_getD {l : List PlD} (h : l.Pairwise plLt) {i j : Nat} (hij : i < j) (hj : j < l.length) : plLt (l.getD i pl0) (l.getD j pl0) := by
  have := (List.pairwise_iff_getElem.1 h) i j (by omega) hj hij
  rw [List.getD, List.getElem?_eq_getElem (show i < l.length by omega), List.getD, List.getElem?_eq_getElem hj]
  exact this
theorem not_plLt {l : List PlD} (h : l.Pairwise plLt) {i j : Nat} (hij : i ≤ j) (hj : j < l.length) : ¬plLt (l.getD j pl0) (l.getD i pl0) := fun k => by
  by_cases e : i = j
  · subst e; exact plLt_irr _ k
  · exact plLt_irr _ (plLt_trans k (sorted_getD h (by omega) hj))
theorem NInv.best {ps acc : List PlD} {p : PlD} {m : Int} (hs : ps.Pairwise plLt) (h : NInv (cU ps acc) ps ps.length p m) (hm : 0 < m) : IsBest ps acc p := by
  obtain ⟨_, h1, h2⟩ := h
  obtain ⟨i, hi, rfl, h3, h4⟩ := h2 hm
  have hg : ¬Gave acc (ps.getD i pl0).1 := fun k => by rw [cU_gave k] at h3; omega
  refine ⟨getD_mem' hi, hg, fun q hq hqg => ?_⟩
  obtain ⟨j, hj, rfl⟩ := mem_getD hq
  have k1 := h1 j hj
  rw [cU_not hqg] at k1
  rw [cU_not hg] at h3
  by_cases e : cnt ps (ps.getD j pl0).1 = cnt ps (ps.getD i pl0).1
  · refine .inr ⟨e, ?_⟩
    by_cases hji : j < i
    · have := h4 j hji
      rw [cU_not hqg] at this
      omega
    · exact not_plLt hs (by omega) hj
  · exact .inl (by omega)
theorem NInv.no {ps acc : List PlD} {p : PlD} {m : Int} (h : NInv (cU ps acc) ps ps.length p m) (hm : ¬0 < m) : ∀ q ∈ ps, Gave acc q.1 := fun q hq => by
  obtain ⟨j, hj, rfl⟩ := mem_getD hq
  refine Classical.byContradiction fun hg => ?_
  have := h.2.1 j hj
  rw [cU_not hg] at this
  have := cnt_pos hq
  omega

/-- THE FIRST of some places on a disk. -/
def fstOn (ps : List PlD) (d : Int) : PlD := (ps.find? (fun q => q.1 == d)).getD pl0
theorem find_none {l : List PlD} {d : Int} (h : cnt l d = 0) : l.find? (fun q => q.1 == d) = none := by
  rw [List.find?_eq_none]
  intro x hx hd
  have : 0 < cnt l d := List.countP_pos_iff.2 ⟨x, hx, hd⟩
  omega
theorem fst_first {l : List PlD} {x : PlD} {d : Int} (h : cnt l d = 0) (hx : x.1 = d) : fstOn (l ++ [x]) d = x := by
  unfold fstOn
  rw [List.find?_append, find_none h]
  simp [hx]
theorem fst_more {l : List PlD} {x : PlD} {d : Int} (h : ¬cnt l d = 0) : fstOn (l ++ [x]) d = fstOn l d := by
  unfold fstOn
  rw [List.find?_append]
  cases hf : l.find? (fun q => q.1 == d) with
  | some y => rfl
  | none =>
    exfalso
    apply h
    unfold cnt
    rw [List.countP_eq_zero]
    intro a ha
    exact List.find?_eq_none.1 hf a ha
theorem fst_other {l : List PlD} {x : PlD} {d : Int} (hx : ¬x.1 = d) : fstOn (l ++ [x]) d = fstOn l d := by
  unfold fstOn
  rw [List.find?_append]
  cases hf : l.find? (fun q => q.1 == d) with
  | some y => rfl
  | none => simp [hx]
theorem fst_spec {ps : List PlD} {d : Int} (h : 0 < cnt ps d) : ∃ i, i < ps.length ∧ ps.getD i pl0 = fstOn ps d ∧ (fstOn ps d).1 = d ∧ ∀ j, j < i → (ps.getD j pl0).1 ≠ d := by
  cases hf : ps.find? (fun q => q.1 == d) with
  | none =>
    exfalso
    have : cnt ps d = 0 := by unfold cnt; rw [List.countP_eq_zero]; exact fun a ha => List.find?_eq_none.1 hf a ha
    omega
  | some y =>
    have e : fstOn ps d = y := by unfold fstOn; rw [hf]; rfl
    rw [e]
    rw [List.find?_eq_some_iff_getElem] at hf
    obtain ⟨hy, i, hi, e2, h2⟩ := hf
    refine ⟨i, hi, by rw [List.getD, List.getElem?_eq_getElem hi]; exact e2, by simpa using hy, fun j hj => ?_⟩
    have := h2 j hj
    rw [List.getD, List.getElem?_eq_getElem (show j < ps.length by omega)]
    simpa using this
/-- WHAT A ROUND OVER THE DISKS KEEPS. -/
def DInv (ps acc : List PlD) (k : Nat) (b m : Int) (p : PlD) : Prop :=
  0 ≤ m ∧ (∀ d : Nat, d < k → cU ps acc (d : Int) ≤ m) ∧ (m = 0 → b = -1) ∧ (0 < m → ∃ d : Nat, d < k ∧ b = (d : Int) ∧ cU ps acc (d : Int) = m ∧ (∀ j : Nat, j < d → cU ps acc (j : Int) < m) ∧ p = fstOn ps (d : Int))
theorem DInv.start (ps acc : List PlD) (p : PlD) : DInv ps acc 0 (-1) 0 p := ⟨by omega, fun d hd => by omega, fun _ => rfl, fun h => by omega⟩
theorem DInv.more {ps acc : List PlD} {k : Nat} {b m : Int} {p : PlD} (h : DInv ps acc k b m p) (hg : ¬Gave acc (k : Int)) (hgt : m < (cnt ps (k : Int) : Int)) : DInv ps acc (k + 1) (k : Int) (cnt ps (k : Int) : Int) (fstOn ps (k : Int)) := by
  obtain ⟨h0, h1, _, _⟩ := h
  refine ⟨by omega, fun d hd => ?_, fun e => by omega, fun _ => ⟨k, by omega, rfl, cU_not hg, fun j hj => by have := h1 j hj; omega, rfl⟩⟩
  by_cases e : d = k
  · subst e; rw [cU_not hg]; omega
  · have := h1 d (by omega); omega
theorem DInv.same {ps acc : List PlD} {k : Nat} {b m : Int} {p : PlD} (h : DInv ps acc k b m p) (hle : cU ps acc (k : Int) ≤ m) : DInv ps acc (k + 1) b m p := by
  obtain ⟨h0, h1, h2, h3⟩ := h
  refine ⟨h0, fun d hd => ?_, h2, fun hm => ?_⟩
  · by_cases e : d = k
    · subst e; exact hle
    · exact h1 d (by omega)
  · obtain ⟨i, hi, r⟩ := h3 hm
    exact ⟨i, by omega, r⟩
theorem DInv.best {ps acc : List PlD} {k : Nat} {b m : Int} {p : PlD} (hs : ps.Pairwise plLt) (hr : ∀ q ∈ ps, 0 ≤ q.1 ∧ q.1 < (k : Int)) (h : DInv ps acc k b m p) (hm : 0 < m) : IsBest ps acc p ∧ b = p.1 := by
  obtain ⟨_, h1, _, h3⟩ := h
  obtain ⟨d, hd, rfl, hc, hl, rfl⟩ := h3 hm
  have hg : ¬Gave acc (d : Int) := fun x => by rw [cU_gave x] at hc; omega
  rw [cU_not hg] at hc
  obtain ⟨i, hi, e, e1, hf⟩ := fst_spec (ps := ps) (d := (d : Int)) (by omega)
  refine ⟨⟨e ▸ getD_mem' hi, by rw [e1]; exact hg, fun q hq hqg => ?_⟩, e1.symm⟩
  rw [e1]
  obtain ⟨r1, r2⟩ := hr q hq
  obtain ⟨dq, hdq⟩ := Int.eq_ofNat_of_zero_le r1
  have k1 := h1 dq (by omega)
  rw [← hdq, cU_not hqg] at k1
  by_cases ec : cnt ps q.1 = cnt ps (d : Int)
  · refine .inr ⟨ec, ?_⟩
    by_cases hlt : dq < d
    · have := hl dq hlt
      rw [← hdq, cU_not hqg] at this
      omega
    · obtain ⟨j, hj, rfl⟩ := mem_getD hq
      by_cases ed : dq = d
      · subst ed
        rw [← e]
        refine not_plLt hs ?_ hj
        exact Nat.le_of_not_lt (fun hji => hf j hji hdq)
      · intro x
        unfold plLt at x
        rw [e1] at x
        omega
  · exact .inl (by omega)
theorem DInv.no {ps acc : List PlD} {k : Nat} {b m : Int} {p : PlD} (hr : ∀ q ∈ ps, 0 ≤ q.1 ∧ q.1 < (k : Int)) (h : DInv ps acc k b m p) (hm : ¬0 < m) : (∀ q ∈ ps, Gave acc q.1) ∧ b = -1 := by
  refine ⟨fun q hq => Classical.byContradiction fun hg => ?_, h.2.2.1 (by have := h.1; omega)⟩
  obtain ⟨r1, r2⟩ := hr q hq
  obtain ⟨dq, hdq⟩ := Int.eq_ofNat_of_zero_le r1
  have := h.2.1 dq (by omega)
  rw [← hdq, cU_not hg] at this
  have := cnt_pos hq
  omega

/-- WHAT IS TAKEN, and whether. -/
noncomputable def tak (n : Int) (ra rb : RootD) (cols : Int) : List PlD := if 1 ≤ cols ∧ cols ≤ n then (tks (fre n ra rb) cols.toNat).getD [] else []
noncomputable def takB (n : Int) (ra rb : RootD) (cols : Int) : Bool := if 1 ≤ cols ∧ cols ≤ n then (tks (fre n ra rb) cols.toNat).isSome else false
theorem tak_in {n : Int} {ra rb : RootD} {cols : Int} (h : 1 ≤ cols ∧ cols ≤ n) : tak n ra rb cols = (tks (fre n ra rb) cols.toNat).getD [] ∧ takB n ra rb cols = (tks (fre n ra rb) cols.toNat).isSome := by unfold tak takB; rw [if_pos h, if_pos h]; exact ⟨rfl, rfl⟩
theorem tak_out {n : Int} {ra rb : RootD} {cols : Int} (h : ¬(1 ≤ cols ∧ cols ≤ n)) : tak n ra rb cols = [] ∧ takB n ra rb cols = false := by unfold tak takB; rw [if_neg h, if_neg h]; exact ⟨rfl, rfl⟩
theorem tak_bad {n : Int} {ra rb : RootD} {cols : Int} (h : ¬(RootOkP n ra ∧ RootOkP n rb)) : tak n ra rb cols = [] ∧ takB n ra rb cols = false := by
  by_cases hc : 1 ≤ cols ∧ cols ≤ n
  · obtain ⟨e1, e2⟩ := tak_in (ra := ra) (rb := rb) hc
    rw [e1, e2, fre_no h]
    obtain ⟨k, hk⟩ : ∃ k, cols.toNat = k + 1 := ⟨cols.toNat - 1, by omega⟩
    rw [hk, tks_nil]
    exact ⟨rfl, rfl⟩
  · exact tak_out hc
theorem tak_length (n : Int) (ra rb : RootD) (cols : Int) : (tak n ra rb cols).length ≤ 48 := by
  by_cases hok : RootOkP n ra ∧ RootOkP n rb
  · by_cases hc : 1 ≤ cols ∧ cols ≤ n
    · rw [(tak_in hc).1]
      cases h : tks (fre n ra rb) cols.toNat with
      | none => simp
      | some acc =>
        have := tks_length h
        have := hok.1.1.2
        simp only [Option.getD_some]
        omega
    · rw [(tak_out hc).1]; simp
  · rw [(tak_bad hok).1]; simp
theorem fre_sorted (n : Int) (ra rb : RootD) : (fre n ra rb).Pairwise plLt := by
  by_cases h : RootOkP n ra ∧ RootOkP n rb
  · rw [fre_ok h.1 h.2]; exact pick_sorted (grid_sorted _)
  · rw [fre_no h]; exact List.Pairwise.nil
theorem fre_range (n : Int) (ra rb : RootD) : ∀ q ∈ fre n ra rb, (0 ≤ q.1 ∧ q.1 < n) ∧ q.1 < 100 := by
  by_cases h : RootOkP n ra ∧ RootOkP n rb
  · intro q hq
    rw [fre_ok h.1 h.2, mem_pick, mem_grid] at hq
    have h3 := h.1.1.1
    have h4 := h.1.1.2
    omega
  · intro q hq
    rw [fre_no h] at hq
    simp at hq

end Go.Proofs.Ytlonecgmldjdpaa

namespace Go.Proofs.Ytlonecgmldjdpaa
open Go.RowKit Go.Sort Go.Lib Go.Maps

theorem grownB {w w' : World} (hB : Below w.heap.size w w') (r : Option Nat) : w.grownBy w' r := ⟨hB.os, hB.tape, hB.output, hB.size, fun k hk _ => hB.block k hk⟩
theorem gsetB (w : World) (B o : Nat) (v : Value) : w.grownBy (w.setCell ⟨B, o, none⟩ v) (some B) :=
  ⟨rfl, rfl, rfl, by rw [World.size_setCell]; exact Nat.le_refl _, fun k _ hne => Below.heap_setCell _ _ _ _ (fun e => hne (by rw [e]))⟩
/-- BLOCKS known whole. -/
def Bk (w : World) (g : Nat) (cs : Array Value) (T : TypeId) : Prop := w.heap[g]? = some (.cells cs T (0, 0))
theorem Bk.lt {w : World} {g : Nat} {cs : Array Value} {T : TypeId} (h : Bk w g cs T) : g < w.heap.size := (Array.getElem?_eq_some_iff.1 h).1
theorem Bk.new (w : World) (cs : Array Value) (T : TypeId) : Bk (w.alloc (.cells cs T)) w.heap.size cs T := (MapKept.heap_alloc w _).1
theorem Bk.kept {w w' : World} {g : Nat} {cs : Array Value} {T : TypeId} {r : Option Nat} (h : Bk w g cs T) (hg : w.grownBy w' r) (hne : some g ≠ r) : Bk w' g cs T := (hg.block g h.lt hne).trans h
theorem Bk.cell {w : World} {g : Nat} {cs : Array Value} {T : TypeId} (h : Bk w g cs T) (j : Nat) : w.cell? ⟨g, j, none⟩ = cs[j]? := by unfold Bk at h; simp only [World.cell?, h]; rfl
theorem Bk.frozen {w : World} {g : Nat} {cs : Array Value} {T : TypeId} (h : Bk w g cs T) (j : Nat) : w.frozen? ⟨g, j, none⟩ = false := by unfold Bk at h; simp [World.frozen?, h]
theorem Bk.set {w : World} {g : Nat} {cs : Array Value} {T : TypeId} (h : Bk w g cs T) (j : Nat) (u : Value) : Bk (w.setCell ⟨g, j, none⟩ u) g (cs.setIfInBounds j u) T := by
  obtain ⟨hlt, hh⟩ := Array.getElem?_eq_some_iff.1 h
  show (w.heap.modify g _)[g]? = _
  rw [Array.getElem?_eq_getElem (by rw [Array.size_modify]; exact hlt), Array.getElem_modify_self, hh]
  rfl

theorem keysI : Keyed Try.prog 3 := int_keyed Try.underlying3
theorem zeroI (w : World) : (zeroValue 3).run Try.prog w = .ok (.int .i64 0) w := by kernel_rfl
theorem wf_small {d : Int} (h0 : 0 ≤ d) (h1 : d < 1000) : (Lit.int .i64 d).wf = true := WalkArith.wf_i64 ⟨by omega, by omega⟩

/-- A MAP FROM DISKS TO NUMBERS. -/
def Cnt (w : World) (b : Nat) (c : Int → Int) : Prop :=
  ∃ n D, n ≤ 60 ∧ w.ownsMap (H := Unit) Try.prog 3 (plainElem Try.prog 3) b n D ∧ ∀ d : Int, 0 ≤ d → d < 100 → D.atKey (.int .i64 d) (.lit (.int .i64 0)) = .lit (.int .i64 (c d))
def CntN (w : World) (b n : Nat) (c : Int → Int) : Prop :=
  ∃ D, w.ownsMap (H := Unit) Try.prog 3 (plainElem Try.prog 3) b n D ∧ ∀ d : Int, 0 ≤ d → d < 100 → D.atKey (.int .i64 d) (.lit (.int .i64 0)) = .lit (.int .i64 (c d))
theorem CntN.cnt {w : World} {b n : Nat} {c : Int → Int} (h : CntN w b n c) (hn : n ≤ 60) : Cnt w b c := by obtain ⟨D, h1, h2⟩ := h; exact ⟨n, D, hn, h1, h2⟩
theorem CntN.kept {w w' : World} {b n : Nat} {c : Int → Int} {r : Option Nat} (h : CntN w b n c) (hg : w.grownBy w' r) (hne : some b ≠ r) : CntN w' b n c := by obtain ⟨D, h1, h2⟩ := h; exact ⟨D, h1.kept hg hne, h2⟩
theorem Cnt.kept {w w' : World} {b : Nat} {c : Int → Int} {r : Option Nat} (h : Cnt w b c) (hg : w.grownBy w' r) (hne : some b ≠ r) : Cnt w' b c := by obtain ⟨n, D, hn, h1, h2⟩ := h; exact ⟨n, D, hn, h1.kept hg hne, h2⟩
theorem Cnt.lt {w : World} {b : Nat} {c : Int → Int} (h : Cnt w b c) : b < w.heap.size := by obtain ⟨n, D, _, h1, _⟩ := h; exact h1.lt
theorem CntN.made (w : World) : CntN (w.alloc (.map #[] 0)) w.heap.size 0 (fun _ => 0) := ⟨_, World.ownsMap_made _ _ _ _, fun _ _ _ => rfl⟩
theorem look_of {w : World} {b n : Nat} {c : Int → Int} {D : DataW Unit} {d : Int} (h0 : 0 ≤ d) (h1 : d < 100) (h : w.ownsMap (H := Unit) Try.prog 3 (plainElem Try.prog 3) b n D) (hc : ∀ d : Int, 0 ≤ d → d < 100 → D.atKey (.int .i64 d) (.lit (.int .i64 0)) = .lit (.int .i64 (c d))) :
    (Instr.lookup 75 (.map (some b)) (.int .i64 d) false).run Try.prog w = .ok (.int .i64 (c d)) w := by
  obtain ⟨x, hrun, hat, _⟩ := h.lookup_int keysI Try.underlying75 Try.underlying3 (zeroI w) (keyOf_int_mk Try.underlying3 (wf_small h0 (by omega)))
  rw [hc d h0 h1] at hat
  have e : c d = x := (Lit.int.inj (DataW.lit.inj hat)).2
  rw [hrun, e]
theorem CntN.look {w : World} {b n : Nat} {c : Int → Int} (h : CntN w b n c) {d : Int} (h0 : 0 ≤ d) (h1 : d < 100) : (Instr.lookup 75 (.map (some b)) (.int .i64 d) false).run Try.prog w = .ok (.int .i64 (c d)) w := by
  obtain ⟨D, hD, hc⟩ := h
  exact look_of h0 h1 hD hc
theorem Cnt.look {w : World} {b : Nat} {c : Int → Int} (h : Cnt w b c) {d : Int} (h0 : 0 ≤ d) (h1 : d < 100) : (Instr.lookup 75 (.map (some b)) (.int .i64 d) false).run Try.prog w = .ok (.int .i64 (c d)) w := by
  obtain ⟨n, D, _, hD, hc⟩ := h
  exact look_of h0 h1 hD hc
theorem keyI (d : Int) : WideAt.IsKeyLit (.int .i64 d) := trivial
theorem CntN.put {w : World} {b n : Nat} {c : Int → Int} (h : CntN w b n c) (hn : n ≤ 60) {d v : Int} (h0 : 0 ≤ d) (h1 : d < 100) (v0 : 0 ≤ v) (v1 : v < 1000) :
    ∃ w', (Instr.mapUpdate 75 (.map (some b)) (.int .i64 d) (.int .i64 v)).run Try.prog w = .ok () w' ∧ CntN w' b (n + 1) (fun x => if d = x then v else c x) ∧ w.grownBy w' (some b) := by
  obtain ⟨D, hD, hc⟩ := h
  obtain ⟨w', hrun, hown, hg⟩ := hD.update keysI Try.underlying75 (by unfold maxLen; omega) (keyOf_int_mk Try.underlying3 (wf_small h0 (by omega))) (plainElem_int Try.underlying3 (wf_small v0 v1))
  refine ⟨w', hrun, ⟨_, hown, fun x hx0 hx1 => ?_⟩, hg⟩
  show _ = DataW.lit (Lit.int .i64 (if d = x then v else c x))
  by_cases e : d = x
  · subst e
    rw [if_pos rfl]
    exact atKey_put_same hD.isMap (keyI _) _ _
  · rw [if_neg e, atKey_put_other (fun k => e (Lit.int.inj k).2.symm)]
    exact hc x hx0 hx1
theorem Cnt.drop {w : World} {b : Nat} {c : Int → Int} (h : Cnt w b c) {d : Int} (h0 : 0 ≤ d) (h1 : d < 100) (ty : TypeId) :
    ∃ w', (Builtin.delete_ #[75, 3] ty #[.map (some b), .int .i64 d]).run Try.prog w = .ok (.tuple #[]) w' ∧ Cnt w' b (fun x => if d = x then 0 else c x) ∧ w.grownBy w' (some b) := by
  obtain ⟨n, D, hn, hD, hc⟩ := h
  obtain ⟨w', hrun, hown, ht⟩ := hD.drop keysI Try.underlying75 (keyOf_int_mk Try.underlying3 (wf_small h0 (by omega))) ty
  refine ⟨w', hrun, ⟨n, _, hn, hown, fun x hx0 hx1 => ?_⟩, ht.grown⟩
  show _ = DataW.lit (Lit.int .i64 (if d = x then 0 else c x))
  by_cases e : d = x
  · subst e
    rw [if_pos rfl]
    exact atKey_del_same _
  · rw [if_neg e, atKey_del_other (fun k => e (Lit.int.inj k).2.symm)]
    exact hc x hx0 hx1
theorem Cnt.congr {w : World} {b : Nat} {c c' : Int → Int} (h : Cnt w b c) (e : ∀ d, c d = c' d) : Cnt w b c' := (funext e : c = c') ▸ h
theorem CntN.congr {w : World} {b n : Nat} {c c' : Int → Int} (h : CntN w b n c) (e : ∀ d, c d = c' d) : CntN w b n c' := (funext e : c = c') ▸ h

set_option maxRecDepth 100000 in
set_option maxHeartbeats 2000000 in
/-- countsOf: how many each disk has. -/
theorem countsOf_any (a : Option Addr) (cap : Nat) (ps : List PlD) (w : World) (hl : ps.length ≤ 48) (hr : Hid (∀ q ∈ ps, 0 ≤ q.1 ∧ q.1 < 100)) (hx : Hid (PlacesAt w a ps)) :
    Calls Try.prog 51 #[.slice a ps.length cap] w fun e w' => e = .returned (.map (some w.heap.size)) ∧ Cnt w' w.heap.size (fun d => (cnt ps d : Int)) ∧ Below w.heap.size w w' := by
  have hmm := @run_makeMap Try.prog
  go_enter Try.func51, Try.ntmps51
  go_wp2_with fail
  go_loopw [9] (fun i wr => ∃ k : Nat, i = .int .i64 (k : Int) ∧ k ≤ ps.length ∧ Hid (CntN wr w.heap.size k (fun d => (cnt (ps.take k) d : Int))) ∧ Hid (Below w.heap.size w wr)) (fun i _ => ps.length - (intOf i).toNat)
  case atStart => exact ⟨0, rfl, by omega, CntN.congr (CntN.made w) (fun d => rfl), (Below.refl _ _).alloc (Nat.le_refl _) _⟩
  case round =>
    obtain ⟨k, rfl, hk, hC, hB⟩ := hrel
    by_cases hlt : k < ps.length
    · obtain ⟨b, off, rfl, hc⟩ := (hx.out.below hB.out).resolve_left (fun e => by subst e; simp at hlt)
      obtain ⟨e0, e1⟩ := hc k hlt
      obtain ⟨r0, r1⟩ := hr.out _ (getD_mem' hlt)
      have i0 : (0 : Int) ≤ (k : Int) := by omega
      have i1 : (k : Int) < (ps.length : Int) := by omega
      have hs := Lib.hid (fun d => cnt_snoc (ps.take k) (ps.getD k pl0) d)
      have ht := Lib.hid (take_snoc hlt)
      have hcl : cnt (ps.take k) (ps.getD k pl0).1 ≤ 48 := Nat.le_trans (cnt_le _ _) (by rw [List.length_take]; omega)
      generalize ps.getD k pl0 = q at e0 e1 r0 r1 hs ht hcl
      obtain ⟨d, s⟩ := q
      simp only at e0 e1 r0 r1 hcl
      have hCa := hC.out.kept (World.grownBy_alloc wr (.cells #[.int .i64 d, .int .i64 s] 39) none) (by simp)
      have hlook := hCa.look r0 r1
      have hcw : (cnt (ps.take k) d : Int) ≤ 48 := by omega
      obtain ⟨w', hput, hC', hg'⟩ := hCa.put (v := (cnt (ps.take k) d : Int) + 1) (by omega) r0 r1 (by omega) (by omega)
      have HB' : Hid (Below w.heap.size w w') := (hB.out.alloc hB.out.size _).grown hg' (Nat.le_trans hB.out.size (by simp)) (fun j hj => by cases hj; exact Nat.le_refl _)
      have HC' : Hid (CntN w' w.heap.size (k + 1) (fun d => (cnt (ps.take (k + 1)) d : Int))) := CntN.congr hC' (fun x => by
        rw [ht.out, hs.out]
        by_cases e : d = x
        · subst e; simp
        · simp [e])
      generalize cnt (ps.take k) d = m at hlook hput hcw
      clear hC' hg' hCa hcl hc
      go_wp2
      exact ⟨⟨k + 1, by go_num, by omega, HC', HB'⟩, by simp [intOf]; omega⟩
    · obtain rfl : k = ps.length := by omega
      have hC' := hC.out.cnt (by omega)
      rw [List.take_length] at hC'
      have HC' := Lib.hid hC'
      clear hC hC'
      go_wp2
      go_ret
      exact ⟨rfl, HC'.out, hB.out⟩

set_option maxRecDepth 100000 in
set_option maxHeartbeats 2000000 in
/-- nextFree: the first free place of the disk that counts most. -/
theorem nextFree_any (a : Option Addr) (cap b : Nat) (ps : List PlD) (c : Int → Int) (w : World) (hl : ps.length ≤ 48) (hr : Hid (∀ q ∈ ps, 0 ≤ q.1 ∧ q.1 < 100)) (hcb : Hid (∀ d, 0 ≤ c d ∧ c d ≤ 48)) (hx : Hid (PlacesAt w a ps)) (hC : Hid (Cnt w b c)) :
    Calls Try.prog 52 #[.slice a ps.length cap, .map (some b)] w fun e w' => (∃ (p : PlD) (m : Int), e = .returned (.tuple #[.agg #[.int .i64 p.1, .int .i64 p.2], .bool (decide (0 < m))]) ∧ NInv c ps ps.length p m) ∧ Below w.heap.size w w' := by
  have hB0 : Below w.heap.size w ((w.alloc (.cells #[.int .i64 0, .int .i64 0] 39)).alloc (.cells #[.int .i64 0, .int .i64 0] 39)) := ((Below.refl _ _).alloc (Nat.le_refl _) _).alloc (by simp) _
  have hR0 : Bk ((w.alloc (.cells #[.int .i64 0, .int .i64 0] 39)).alloc (.cells #[.int .i64 0, .int .i64 0] 39)) w.heap.size #[.int .i64 0, .int .i64 0] 39 := (Bk.new w _ _).kept (World.grownBy_alloc _ _ none) (by simp)
  have hN0 : Bk ((w.alloc (.cells #[.int .i64 0, .int .i64 0] 39)).alloc (.cells #[.int .i64 0, .int .i64 0] 39)) (w.heap.size + 1) #[.int .i64 pl0.1, .int .i64 pl0.2] 39 := by
    have := Bk.new (w.alloc (.cells #[.int .i64 0, .int .i64 0] 39)) #[.int .i64 0, .int .i64 0] 39
    simp only [World.size_alloc] at this
    exact this
  have HB0 := Lib.hid hB0
  have HR0 := Lib.hid hR0
  have HN0 := Lib.hid hN0
  clear hB0 hR0 hN0
  go_enter Try.func52, Try.ntmps52
  go_wp2_with fail
  go_loopw [7, 13] (fun v i wr => ∃ (k : Nat) (p : PlD) (m : Int), i = .int .i64 (k : Int) ∧ v = .int .i64 m ∧ k ≤ ps.length ∧ m ≤ 48 ∧ Hid (NInv c ps k p m) ∧ Hid (Bk wr w.heap.size #[.int .i64 0, .int .i64 0] 39) ∧ Hid (Bk wr (w.heap.size + 1) #[.int .i64 p.1, .int .i64 p.2] 39) ∧ Hid (Below w.heap.size w wr)) (fun _ i _ => ps.length - (intOf i).toNat)
  case atStart => exact ⟨0, pl0, 0, rfl, rfl, by omega, by omega, NInv.start _ _ _, HR0, HN0, HB0⟩
  case round =>
    obtain ⟨k, p, m, rfl, rfl, hk, hm48, hI, hR, hN, hB⟩ := hrel
    have hm0 := hI.out.1
    by_cases hlt : k < ps.length
    · obtain ⟨b1, off, rfl, hc⟩ := (hx.out.below hB.out).resolve_left (fun e => by subst e; simp at hlt)
      obtain ⟨e0, e1⟩ := hc k hlt
      obtain ⟨r0, r1⟩ := hr.out _ (getD_mem' hlt)
      have i0 : (0 : Int) ≤ (k : Int) := by omega
      have i1 : (k : Int) < (ps.length : Int) := by omega
      have HM := Lib.hid (fun h => hI.out.more (k := k) h)
      have HS := Lib.hid (fun h => hI.out.same (k := k) h)
      obtain ⟨c0, c1⟩ := hcb.out (ps.getD k pl0).1
      generalize ps.getD k pl0 = q at e0 e1 r0 r1 HM HS c0 c1
      obtain ⟨d, s⟩ := q
      simp only at e0 e1 r0 r1 HM HS c0 c1
      have hCw := (hC.out.kept (grownB hB.out none) (by simp)).kept (World.grownBy_alloc wr (.cells #[.int .i64 d, .int .i64 s] 39) none) (by simp)
      have hlook := hCw.look r0 r1
      have hBa := hB.out.alloc hB.out.size (.cells #[.int .i64 d, .int .i64 s] 39)
      have hRa := hR.out.kept (World.grownBy_alloc wr (.cells #[.int .i64 d, .int .i64 s] 39) none) (by simp)
      have hNa := hN.out.kept (World.grownBy_alloc wr (.cells #[.int .i64 d, .int .i64 s] 39) none) (by simp)
      have hnl := hN.out.lt
      generalize c d = cd at hlook HM HS c0 c1
      clear hCw hc hI
      by_cases hgt : m < cd
      · have y0 : wr.cell? ⟨w.heap.size + 1, 0, none⟩ = some (.int .i64 p.1) := hN.out.cell 0
        have y1 : wr.cell? ⟨w.heap.size + 1, 1, none⟩ = some (.int .i64 p.2) := hN.out.cell 1
        have f0 := hN.out.frozen 0
        have f1 := hN.out.frozen 1
        have hN2 := ((hN.out.set 0 (.int .i64 d)).set 1 (.int .i64 s)).kept (World.grownBy_alloc _ (.cells #[.int .i64 d, .int .i64 s] 39) none) (by simp)
        have hR2 := ((hR.out.kept (gsetB _ (w.heap.size + 1) 0 (.int .i64 d)) (by simp)).kept (gsetB _ (w.heap.size + 1) 1 (.int .i64 s)) (by simp)).kept (World.grownBy_alloc _ (.cells #[.int .i64 d, .int .i64 s] 39) none) (by simp)
        have hB2 := ((hB.out.setCell (p := ⟨w.heap.size + 1, 0, none⟩) (Nat.le_succ _) (.int .i64 d)).setCell (p := ⟨w.heap.size + 1, 1, none⟩) (Nat.le_succ _) (.int .i64 s)).alloc (by simp; exact hB.out.size) (.cells #[.int .i64 d, .int .i64 s] 39)
        have HN2 := Lib.hid hN2
        have HR2 := Lib.hid hR2
        have HB2 := Lib.hid hB2
        have HI2 := Lib.hid (HM.out hgt)
        have ha1 : ¬wr.heap.size = w.heap.size + 1 := by omega
        clear hN2 hR2 hB2 hNa hRa hBa HM HS
        go_wp2
        exact ⟨⟨k + 1, (d, s), cd, by go_num, rfl, by omega, by omega, HI2, HR2, HN2, HB2⟩, by simp [intOf]; omega⟩
      · have HN2 := Lib.hid hNa
        have HR2 := Lib.hid hRa
        have HB2 := Lib.hid hBa
        have HI2 := Lib.hid (HS.out hgt)
        clear hNa hRa hBa HM HS
        go_wp2
        exact ⟨⟨k + 1, p, m, by go_num, rfl, by omega, by omega, HI2, HR2, HN2, HB2⟩, by simp [intOf]; omega⟩
    · obtain rfl : k = ps.length := by omega
      have y0 : wr.cell? ⟨w.heap.size + 1, 0, none⟩ = some (.int .i64 p.1) := hN.out.cell 0
      have y1 : wr.cell? ⟨w.heap.size + 1, 1, none⟩ = some (.int .i64 p.2) := hN.out.cell 1
      have z0 : wr.cell? ⟨w.heap.size, 0, none⟩ = some (.int .i64 0) := hR.out.cell 0
      have z1 : wr.cell? ⟨w.heap.size, 1, none⟩ = some (.int .i64 0) := hR.out.cell 1
      have f0 := hR.out.frozen 0
      have f1 := hR.out.frozen 1
      have HB2 := Lib.hid ((hB.out.setCell (p := ⟨w.heap.size, 0, none⟩) (Nat.le_refl _) (.int .i64 p.1)).setCell (p := ⟨w.heap.size, 1, none⟩) (Nat.le_refl _) (.int .i64 p.2))
      go_wp2
      exact bodyPost_ret (v := .tuple #[.agg #[.int .i64 p.1, .int .i64 p.2], .bool (decide (0 < m))]) (by simp [results, Try.results52, go_sem, z0, z1]) rfl ⟨⟨p, m, rfl, hI.out⟩, HB2.out⟩

end Go.Proofs.Ytlonecgmldjdpaa

namespace Go.Proofs.Ytlonecgmldjdpaa
open Go.RowKit Go.Sort Go.Lib Go.Maps

theorem ownNo (w : World) (base : Nat) : OwnPl w base (.slice none 0 0) [] := ⟨rfl, .inl ⟨rfl, rfl⟩⟩
theorem tak_some {n : Int} {ra rb : RootD} {cols : Int} {acc : List PlD} (h : 1 ≤ cols ∧ cols ≤ n) (hk : tks (fre n ra rb) cols.toNat = some acc) : tak n ra rb cols = acc ∧ takB n ra rb cols = true := by
  obtain ⟨e1, e2⟩ := tak_in (ra := ra) (rb := rb) h
  rw [e1, e2, hk]
  exact ⟨rfl, rfl⟩
theorem tak_none {n : Int} {ra rb : RootD} {cols : Int} (h : 1 ≤ cols ∧ cols ≤ n) (hk : tks (fre n ra rb) cols.toNat = none) : tak n ra rb cols = [] ∧ takB n ra rb cols = false := by
  obtain ⟨e1, e2⟩ := tak_in (ra := ra) (rb := rb) h
  rw [e1, e2, hk]
  exact ⟨rfl, rfl⟩
/-- WHAT A ROUND KEEPS. -/
structure TakI (P : List PlD) (f : Value) (b B : Nat) (w : World) (t : Value) (acc : List PlD) (wr : World) : Prop where
  own : OwnPl wr B t acc
  cn : Cnt wr b (cU P acc)
  fr : OwnPl wr w.heap.size f P
  bl : Below w.heap.size w wr
  sz : B ≤ wr.heap.size
theorem TakI.below {P : List PlD} {f : Value} {b B : Nat} {w : World} {t : Value} {acc : List PlD} {wr w' : World} (h : TakI P f b B w t acc wr) (hB : Below wr.heap.size wr w') : TakI P f b B w t acc w' :=
  ⟨h.own.below hB, h.cn.kept (grownB hB none) (by simp), h.fr.below hB, h.bl.trans (hB.mono h.bl.size), Nat.le_trans h.sz hB.size⟩
/-- A PLACE MORE, and its disk counts no more. -/
theorem TakI.add {P : List PlD} {f : Value} {b B : Nat} {w : World} {t : Value} {acc : List PlD} {wr w9 : World} {p : PlD} {g4 cap4 : Nat} (h : TakI P f b B w t acc wr) (hb : w.heap.size ≤ b) (hbB : b < B) (hf : ∀ g, f.ownBlock = some g → g < b) (p0 : 0 ≤ p.1) (p1 : p.1 < 100)
    (h4 : w9.ownsRow B 39 2 (.slice (some ⟨g4, 0, none⟩) (acc.length + 1) cap4) (acc.length + 1) (plCells acc ++ [.int .i64 p.1, .int .i64 p.2])) (hg : wr.grownBy w9 t.ownBlock) (ty : TypeId) :
    ∃ w', (Builtin.delete_ #[75, 3] ty #[.map (some b), .int .i64 p.1]).run Try.prog w9 = .ok (.tuple #[]) w' ∧ TakI P f b B w (.slice (some ⟨g4, 0, none⟩) (acc.length + 1) cap4) (acc ++ [p]) w' ∧ w9.grownBy w' (some b) := by
  have hlow : ∀ i, t.ownBlock = some i → B ≤ i := fun i e => (h.own.lt i e).1
  have hcn := h.cn.kept hg (fun e => by have := hlow b e.symm; omega)
  have hfr : OwnPl w9 w.heap.size f P := h.fr.kept hg (by
    cases hfo : f.ownBlock with
    | none => exact .inl rfl
    | some g => exact .inr (fun e => by have := hlow g (by rw [← e]); have := hf g hfo; omega))
  obtain ⟨w', hrun, hc', hg'⟩ := hcn.drop p0 p1 ty
  refine ⟨w', hrun, ⟨?_, hc'.congr (fun d => (cU_snoc P acc p d).symm), ?_, ?_, ?_⟩, hg'⟩
  · have h4' := h4.kept hg' (.inr (fun e => by have := (h4.lt b e).1; omega))
    unfold OwnPl
    rw [plCells_add, List.length_append]
    exact h4'
  · exact hfr.kept hg' (by
      cases hfo : f.ownBlock with
      | none => exact .inl rfl
      | some g => exact .inr (fun e => by have := hf g hfo; injection e with e; omega))
  · exact (h.bl.grown hg h.bl.size (fun i e => by have := hlow i e; omega)).grown hg' (Nat.le_trans h.bl.size hg.size) (fun i e => by cases e; exact hb)
  · exact Nat.le_trans h.sz (Nat.le_trans hg.size hg'.size)

set_option maxRecDepth 100000 in
set_option maxHeartbeats 4000000 in
theorem implTake_any (n ta tb cols : Int) (aa ab : Option Addr) (ca cb : Nat) (va vb : List VolD) (w : World) (hla : va.length ≤ ca) (hlb : vb.length ≤ cb) (hna : Hid (∀ j, j < va.length → (va.getD j vol0).name.size ≤ maxLen)) (hnb : Hid (∀ j, j < vb.length → (vb.getD j vol0).name.size ≤ maxLen)) (hxa : Hid (VolsAt w aa va)) (hxb : Hid (VolsAt w ab vb)) :
    Calls Try.prog 23 #[.int .i64 n, .agg #[.int .i64 ta, .slice aa va.length ca], .agg #[.int .i64 tb, .slice ab vb.length cb], .int .i64 cols] w fun e w' => ∃ v, e = .returned (.tuple #[v, .bool (takB n ⟨ta, va⟩ ⟨tb, vb⟩ cols)]) ∧ OwnPl w' w.heap.size v (tak n ⟨ta, va⟩ ⟨tb, vb⟩ cols) ∧ Below w.heap.size w w' := by
  have hB0 : Below w.heap.size w ((w.alloc (.cells #[.int .i64 ta, .slice aa va.length ca] 25)).alloc (.cells #[.int .i64 tb, .slice ab vb.length cb] 25)) := ((Below.refl _ _).alloc (Nat.le_refl _) _).alloc (by simp) _
  have HB0 := Lib.hid hB0
  clear hB0
  by_cases hin : 1 ≤ cols ∧ cols ≤ n
  · have HS := Lib.hid (fun acc h => tak_some (ra := ⟨ta, va⟩) (rb := ⟨tb, vb⟩) (acc := acc) hin h)
    have HNo := Lib.hid (fun h => tak_none (ra := ⟨ta, va⟩) (rb := ⟨tb, vb⟩) hin h)
    have hP48 := fre_length n ⟨ta, va⟩ ⟨tb, vb⟩
    have HPs := Lib.hid (fre_sorted n ⟨ta, va⟩ ⟨tb, vb⟩)
    have HPr := Lib.hid (fre_range n ⟨ta, va⟩ ⟨tb, vb⟩)
    have HF := Lib.hid (fun w' ha hb => implFree_any n ta tb aa ab ca cb va vb w' hla hlb hna hnb ha hb)
    have hn4 : fre n ⟨ta, va⟩ ⟨tb, vb⟩ = [] ∨ n ≤ 4 := by
      by_cases h : RootOkP n ⟨ta, va⟩ ∧ RootOkP n ⟨tb, vb⟩
      · exact .inr h.1.1.2
      · exact .inl (fre_no h)
    generalize tak n ⟨ta, va⟩ ⟨tb, vb⟩ cols = T at HS HNo ⊢
    generalize takB n ⟨ta, va⟩ ⟨tb, vb⟩ cols = tb' at HS HNo ⊢
    generalize fre n ⟨ta, va⟩ ⟨tb, vb⟩ = P at HS HNo hP48 HPs HPr HF hn4
    have HPq : Hid (∀ q ∈ P, 0 ≤ q.1 ∧ q.1 < 100) := fun q hq => ⟨(HPr.out q hq).1.1, (HPr.out q hq).2⟩
    obtain ⟨cc, rfl⟩ := Int.eq_ofNat_of_zero_le (show 0 ≤ cols by omega)
    obtain ⟨hin1, hin2⟩ := hin
    have d1 : decide ((cc : Int) < 1) = false := by simp; omega
    have d2 : decide (n < (cc : Int)) = false := by simp; omega
    have hcc : 1 ≤ cc := by omega
    obtain ⟨i0, hi0, hz0, hz1, hz2⟩ := info_parts infoPl
    simp only [Int.toNat_natCast] at HS HNo
    clear hin1
    go_enter Try.func23, Try.ntmps23
    go_wp2_with fail
    refine (HF.out _ (hxa.out.below HB0.out) (hxb.out.below HB0.out)).mono ?_
    rintro e w2 ⟨v2, rfl, ho2, hB2⟩
    obtain ⟨a2, c2, rfl, _, _, hx2⟩ := ho2.reads
    have HO2 := Lib.hid ho2
    have HP2 := Lib.hid hx2
    have HB2 := Lib.hid (HB0.out.trans (hB2.mono HB0.out.size))
    clear hB2 hx2 ho2
    go_wp2_with fail
    refine (countsOf_any a2 c2 P w2 hP48 HPq HP2).mono ?_
    rintro e w3 ⟨rfl, hC3, hB3⟩
    have HT3 : Hid (TakI P (.slice a2 P.length c2) w2.heap.size w3.heap.size w (.slice none 0 0) [] w3) :=
      ⟨ownNo _ _, hC3.congr (fun d => (cU_nil P d).symm), own_mono (HO2.out.below hB3) (Nat.le_trans HB0.out.size (by omega)), HB2.out.trans (hB3.mono HB2.out.size), Nat.le_refl _⟩
    have hbB : w2.heap.size < w3.heap.size := hC3.lt
    have hwb := HB2.out.size
    have Hf : Hid (∀ g, (Value.slice a2 P.length c2).ownBlock = some g → g < w2.heap.size) := fun g e => (HO2.out.lt g e).2
    clear hC3 hB3 HP2 HO2
    go_wp2_with fail
    go_loopw [12, 29] (fun t i wr => ∃ (k : Nat) (acc : List PlD), i = .int .i64 (k : Int) ∧ k ≤ cc ∧ (k = 0 ∨ n ≤ 4) ∧ Hid (tks P k = some acc) ∧ Hid (TakI P (.slice a2 P.length c2) w2.heap.size w3.heap.size w t acc wr)) (fun _ i _ => cc - (intOf i).toNat)
    case atStart => exact ⟨0, [], rfl, by omega, .inl rfl, rfl, HT3⟩
    case round =>
      obtain ⟨k, acc, rfl, hk, hkn, hT, hI⟩ := hrel
      have hal := tks_length hT.out
      by_cases hlt : k < cc
      · have hik : (k : Int) < (cc : Int) := by omega
        have HX : Hid (PlacesAt wr a2 P) := by
          obtain ⟨_, _, e, _, _, hx⟩ := hI.out.fr.reads
          cases e
          exact hx
        have HCb : Hid (∀ d, 0 ≤ cU P acc d ∧ cU P acc d ≤ 48) := fun d => ⟨cU_nonneg P acc d, by have := cU_le P acc d; omega⟩
        go_wp2_with fail
        refine (nextFree_any a2 c2 w2.heap.size P (cU P acc) wr hP48 HPq HCb HX hI.out.cn).mono ?_
        rintro e w5 ⟨⟨p, m, rfl, hN⟩, hB5⟩
        have hI5 := hI.out.below hB5
        by_cases hm : 0 < m
        · have q0 : decide (0 < m) = true := by simp [hm]
          have hbst := hN.best HPs.out hm
          have HT' := Lib.hid (tks_step hT.out (nxt_some hbst))
          obtain ⟨p0, p1⟩ := HPq.out p hbst.1
          have hn4' : n ≤ 4 := hn4.resolve_left (fun e => by have := hbst.1; rw [e] at this; simp at this)
          have hBp : Below w5.heap.size w5 ((w5.alloc (.cells #[.int .i64 p.1, .int .i64 p.2] 39)).alloc (.cells #[.int .i64 p.1, .int .i64 p.2] 39)) := ((Below.refl _ _).alloc (Nat.le_refl _) _).alloc (by simp) _
          have hI6 := hI5.below hBp
          have hown := hI6.own
          unfold OwnPl at hown
          have hnews : ∀ j u, [Value.int .i64 p.1, Value.int .i64 p.2][j]? = some u → ((w5.alloc (.cells #[.int .i64 p.1, .int .i64 p.2] 39)).alloc (.cells #[.int .i64 p.1, .int .i64 p.2] 39)).cell? ((⟨w5.heap.size + 1, 0, none⟩ : Addr).add j) = some u := by
            have h := World.news_of_block (cs := #[.int .i64 p.1, .int .i64 p.2]) (t := 39) (fr := (0, 0)) (Bk.new (w5.alloc (.cells #[.int .i64 p.1, .int .i64 p.2] 39)) #[.int .i64 p.1, .int .i64 p.2] 39)
            simp only [World.size_alloc] at h
            exact h
          have hbase : w3.heap.size ≤ ((w5.alloc (.cells #[.int .i64 p.1, .int .i64 p.2] 39)).alloc (.cells #[.int .i64 p.1, .int .i64 p.2] 39)).heap.size := hI6.sz
          have HD := Lib.hid (fun g4 cap4 w9 h4 hg ty => hI6.add (p := p) (g4 := g4) (cap4 := cap4) (w9 := w9) hwb hbB Hf.out p0 p1 h4 hg ty)
          have hal4 : acc.length ≤ 4 := by omega
          obtain ⟨ys, hys⟩ : ∃ ys, ys = plCells acc := ⟨_, rfl⟩
          rw [← hys] at hown HD
          generalize hN' : acc.length = N at hown HD hal4
          have HZ : Hid (∀ w9, ((w5.alloc (.cells #[.int .i64 p.1, .int .i64 p.2] 39)).alloc (.cells #[.int .i64 p.1, .int .i64 p.2] 39)).grownBy w9 u12.ownBlock → w9.cell? ⟨w5.heap.size, 0, none⟩ = some (.int .i64 p.1)) := fun w9 hg =>
            hg.cell (((Bk.new w5 #[.int .i64 p.1, .int .i64 p.2] 39).kept (World.grownBy_alloc _ (.cells #[.int .i64 p.1, .int .i64 p.2] 39) none) (by simp)).cell 0) (fun e => absurd (hI5.own.lt _ e.symm).2 (Nat.lt_irrefl _))
          clear hN hB5 hI5 hBp hI6 hbst HX HCb hI hys
          go_wp2_with (at_builtin; refine wpList_append_lies _ rfl _ _ 28 rfl w3.heap.size 39 i0 _ 2 16 Try.underlying28 hi0 hz0 hz1 hz2 rfl (by omega) _ N ys rfl hown ⟨_, 0, none⟩ 1 1 [.int .i64 p.1, .int .i64 p.2] rfl rfl hnews (by simp [Value.oneCell']) (by omega) (by simp [maxLen]; omega) (by omega) hbase _ rfl ?_; intro g4 cap4 w9 hown4 hgrow4 hat4 hlt4; obtain ⟨w', hdel, hI', _⟩ := HD.out g4 cap4 w9 hown4 hgrow4 0; have z9 := HZ.out w9 hgrow4; have HI' := Lib.hid hI'; clear hI' hown4 hgrow4 hat4 hlt4)
          exact ⟨⟨k + 1, acc ++ [p], by go_num, by omega, .inr hn4', HT', HI'⟩, by simp [intOf]; omega⟩
        · have q0 : decide (0 < m) = false := by simp; omega
          obtain ⟨rfl, rfl⟩ := HNo.out (tks_stop hT.out (nxt_none (hN.no hm)) hlt)
          have HBe := Lib.hid (hI5.bl.alloc hI5.bl.size (.cells #[.int .i64 p.1, .int .i64 p.2] 39))
          clear hN hB5 hI5 HX HCb hI HT3 HS HNo HF
          go_wp2
          exact bodyPost_ret (v := .tuple #[.slice none 0 0, .bool false]) (by simp [results, Try.results23, go_sem]) rfl ⟨_, rfl, ownNo _ _, HBe.out⟩
      · obtain rfl : k = cc := by omega
        obtain ⟨rfl, rfl⟩ := HS.out acc hT.out
        have HE : Hid (OwnPl wr w.heap.size u12 T ∧ Below w.heap.size w wr) := ⟨own_mono hI.out.own (by omega), hI.out.bl⟩
        clear hI HT3 HS HNo HF
        go_wp2
        exact bodyPost_ret (v := .tuple #[u12, .bool true]) (by simp [results, Try.results23, go_sem]) rfl ⟨_, rfl, HE.out⟩
  · obtain ⟨e1, e2⟩ := tak_out (ra := ⟨ta, va⟩) (rb := ⟨tb, vb⟩) hin
    rw [e1, e2]
    clear e1 e2
    by_cases h1 : cols < 1
    · have d1 : decide (cols < 1) = true := by simp [h1]
      clear hin h1
      go_enter Try.func23, Try.ntmps23
      go_wp2
      exact bodyPost_ret (v := .tuple #[.slice none 0 0, .bool false]) (by simp [results, Try.results23, go_sem]) rfl ⟨_, rfl, ownNo _ _, HB0.out⟩
    · have d1 : decide (cols < 1) = false := by simp; omega
      have d2 : decide (n < cols) = true := by simp; omega
      clear hin h1
      go_enter Try.func23, Try.ntmps23
      go_wp2
      exact bodyPost_ret (v := .tuple #[.slice none 0 0, .bool false]) (by simp [results, Try.results23, go_sem]) rfl ⟨_, rfl, ownNo _ _, HB0.out⟩

end Go.Proofs.Ytlonecgmldjdpaa

namespace Go.Proofs.Ytlonecgmldjdpaa
open Go.RowKit Go.Sort Go.Lib Go.Maps

set_option maxRecDepth 100000 in
set_option maxHeartbeats 2000000 in
theorem l12Count_any (a : Option Addr) (cap : Nat) (ps : List PlD) (d : Int) (w : World) (hl : ps.length ≤ 48) (hx : Hid (PlacesAt w a ps)) :
    Calls Try.prog 80 #[.slice a ps.length cap, .int .i64 d] w fun e w' => e = .returned (.tuple #[.int .i64 (cnt ps d : Int), .agg #[.int .i64 (fstOn ps d).1, .int .i64 (fstOn ps d).2]]) ∧ Below w.heap.size w w' := by
  have hB0 : Below w.heap.size w ((w.alloc (.cells #[.int .i64 0, .int .i64 0] 39)).alloc (.cells #[.int .i64 0, .int .i64 0] 39)) := ((Below.refl _ _).alloc (Nat.le_refl _) _).alloc (by simp) _
  have hR0 : Bk ((w.alloc (.cells #[.int .i64 0, .int .i64 0] 39)).alloc (.cells #[.int .i64 0, .int .i64 0] 39)) w.heap.size #[.int .i64 0, .int .i64 0] 39 := (Bk.new w _ _).kept (World.grownBy_alloc _ _ none) (by simp)
  have hN0 : Bk ((w.alloc (.cells #[.int .i64 0, .int .i64 0] 39)).alloc (.cells #[.int .i64 0, .int .i64 0] 39)) (w.heap.size + 1) #[.int .i64 (fstOn (ps.take 0) d).1, .int .i64 (fstOn (ps.take 0) d).2] 39 := by
    have := Bk.new (w.alloc (.cells #[.int .i64 0, .int .i64 0] 39)) #[.int .i64 0, .int .i64 0] 39
    simp only [World.size_alloc] at this
    exact this
  have HB0 := Lib.hid hB0
  have HR0 := Lib.hid hR0
  have HN0 := Lib.hid hN0
  clear hB0 hR0 hN0
  go_enter Try.func80, Try.ntmps80
  go_wp2_with fail
  go_loopw [6, 8] (fun v i wr => ∃ k : Nat, i = .int .i64 (k : Int) ∧ v = .int .i64 (cnt (ps.take k) d : Int) ∧ k ≤ ps.length ∧ Hid (Bk wr w.heap.size #[.int .i64 0, .int .i64 0] 39) ∧ Hid (Bk wr (w.heap.size + 1) #[.int .i64 (fstOn (ps.take k) d).1, .int .i64 (fstOn (ps.take k) d).2] 39) ∧ Hid (Below w.heap.size w wr)) (fun _ i _ => ps.length - (intOf i).toNat)
  case atStart => exact ⟨0, rfl, rfl, by omega, HR0, HN0, HB0⟩
  case round =>
    obtain ⟨k, rfl, rfl, hk, hR, hN, hB⟩ := hrel
    by_cases hlt : k < ps.length
    · obtain ⟨b1, off, rfl, hc⟩ := (hx.out.below hB.out).resolve_left (fun e => by subst e; simp at hlt)
      obtain ⟨e0, e1⟩ := hc k hlt
      have i0 : (0 : Int) ≤ (k : Int) := by omega
      have i1 : (k : Int) < (ps.length : Int) := by omega
      have hcl : cnt (ps.take k) d ≤ 48 := Nat.le_trans (cnt_le _ _) (by rw [List.length_take]; omega)
      have hE : Hid (cnt (ps.take (k + 1)) d = if (ps.getD k pl0).1 = d then cnt (ps.take k) d + 1 else cnt (ps.take k) d) := by show _ = _; rw [take_snoc hlt, cnt_snoc]
      have hF1 : Hid (cnt (ps.take k) d = 0 → (ps.getD k pl0).1 = d → fstOn (ps.take (k + 1)) d = ps.getD k pl0) := fun h h' => by rw [take_snoc hlt]; exact fst_first h h'
      have hF2 : Hid (¬cnt (ps.take k) d = 0 → fstOn (ps.take (k + 1)) d = fstOn (ps.take k) d) := fun h => by rw [take_snoc hlt]; exact fst_more h
      have hF3 : Hid (¬(ps.getD k pl0).1 = d → fstOn (ps.take (k + 1)) d = fstOn (ps.take k) d) := fun h => by rw [take_snoc hlt]; exact fst_other h
      generalize ps.getD k pl0 = q at e0 e1 hE hF1 hF2 hF3
      generalize cnt (ps.take k) d = c0 at hE hF1 hF2 hcl ⊢
      obtain ⟨dq, sq⟩ := q
      simp only at e0 e1 hE hF1 hF2 hF3
      clear hc
      by_cases hd : dq = d
      · have hcE := hE.out
        rw [if_pos hd] at hcE
        subst hd
        have HcE := Lib.hid hcE
        clear hcE
        by_cases hz : c0 = 0
        · have hfe := hF1.out hz rfl
          subst hz
          have y0 : wr.cell? ⟨w.heap.size + 1, 0, none⟩ = some (.int .i64 (fstOn (ps.take k) dq).1) := hN.out.cell 0
          have y1 : wr.cell? ⟨w.heap.size + 1, 1, none⟩ = some (.int .i64 (fstOn (ps.take k) dq).2) := hN.out.cell 1
          have f0 := hN.out.frozen 0
          have f1 := hN.out.frozen 1
          have HN2 : Hid (Bk ((wr.setCell ⟨w.heap.size + 1, 0, none⟩ (.int .i64 dq)).setCell ⟨w.heap.size + 1, 1, none⟩ (.int .i64 sq)) (w.heap.size + 1) #[.int .i64 (fstOn (ps.take (k + 1)) dq).1, .int .i64 (fstOn (ps.take (k + 1)) dq).2] 39) := by
            show Bk _ _ _ _
            rw [hfe]
            exact (hN.out.set 0 (.int .i64 dq)).set 1 (.int .i64 sq)
          have HR2 := Lib.hid ((hR.out.kept (gsetB _ (w.heap.size + 1) 0 (.int .i64 dq)) (by simp)).kept (gsetB _ (w.heap.size + 1) 1 (.int .i64 sq)) (by simp))
          have HB2 := Lib.hid ((hB.out.setCell (p := ⟨w.heap.size + 1, 0, none⟩) (Nat.le_succ _) (.int .i64 dq)).setCell (p := ⟨w.heap.size + 1, 1, none⟩) (Nat.le_succ _) (.int .i64 sq))
          have Hc1 : Hid (Value.int .i64 1 = .int .i64 (cnt (ps.take (k + 1)) dq : Int)) := by show _ = _; rw [HcE.out]; rfl
          clear hfe hE hF1 hF2 hF3 HcE hN hR hB
          go_wp2
          exact ⟨⟨k + 1, by go_num, Hc1.out, by omega, HR2, HN2, HB2⟩, by simp [intOf]; omega⟩
        · have dz : ((c0 : Int) == 0) = false := by simp; omega
          have hfe := hF2.out hz
          have HN2 : Hid (Bk wr (w.heap.size + 1) #[.int .i64 (fstOn (ps.take (k + 1)) dq).1, .int .i64 (fstOn (ps.take (k + 1)) dq).2] 39) := by
            show Bk _ _ _ _
            rw [hfe]
            exact hN.out
          have Hc1 : Hid (Value.int .i64 ((c0 : Int) + 1) = .int .i64 (cnt (ps.take (k + 1)) dq : Int)) := by show _ = _; rw [HcE.out]; rfl
          clear hfe hE hF1 hF2 hF3 HcE hN hz
          go_wp2
          exact ⟨⟨k + 1, by go_num, Hc1.out, by omega, hR, HN2, hB⟩, by simp [intOf]; omega⟩
      · have hcE := hE.out
        rw [if_neg hd] at hcE
        have dd : (dq == d) = false := by simp [hd]
        have hfe := hF3.out hd
        have HN2 : Hid (Bk wr (w.heap.size + 1) #[.int .i64 (fstOn (ps.take (k + 1)) d).1, .int .i64 (fstOn (ps.take (k + 1)) d).2] 39) := by
          show Bk _ _ _ _
          rw [hfe]
          exact hN.out
        have Hc1 : Hid (Value.int .i64 (c0 : Int) = .int .i64 (cnt (ps.take (k + 1)) d : Int)) := by show _ = _; rw [hcE]
        clear hfe hE hF1 hF2 hF3 hN hcE hd
        go_wp2
        exact ⟨⟨k + 1, by go_num, Hc1.out, by omega, hR, HN2, hB⟩, by simp [intOf]; omega⟩
    · obtain rfl : k = ps.length := by omega
      rw [List.take_length] at hN ⊢
      generalize hp : fstOn ps d = p at hN ⊢
      generalize hc0 : cnt ps d = c0
      have Hp := Lib.hid hp
      have Hc := Lib.hid hc0
      clear hp hc0
      have y0 : wr.cell? ⟨w.heap.size + 1, 0, none⟩ = some (.int .i64 p.1) := hN.out.cell 0
      have y1 : wr.cell? ⟨w.heap.size + 1, 1, none⟩ = some (.int .i64 p.2) := hN.out.cell 1
      have z0 : wr.cell? ⟨w.heap.size, 0, none⟩ = some (.int .i64 0) := hR.out.cell 0
      have z1 : wr.cell? ⟨w.heap.size, 1, none⟩ = some (.int .i64 0) := hR.out.cell 1
      have f0 := hR.out.frozen 0
      have f1 := hR.out.frozen 1
      have HB2 := Lib.hid (((hB.out.setCell (p := ⟨w.heap.size, 0, none⟩) (Nat.le_refl _) (.int .i64 p.1)).setCell (p := ⟨w.heap.size, 1, none⟩) (Nat.le_refl _) (.int .i64 p.2)).drew)
      go_wp2_with fail
      go_region
      all_goals
        go_wp2
        exact bodyPost_ret (v := .tuple #[.int .i64 (c0 : Int), .agg #[.int .i64 p.1, .int .i64 p.2]]) (by simp [results, Try.results80, go_sem, z0, z1]) rfl ⟨by rw [Hp.out, Hc.out], HB2.out⟩

/-- WHICH DISKS GAVE, as a row of truth values. -/
def UsR (w : World) (g nn : Nat) (acc : List PlD) : Prop := ∃ us : Array Value, us.size = nn ∧ Bk w g us 4 ∧ ∀ d, d < nn → us[d]? = some (.bool (tt (Gave acc (d : Int))))
theorem UsR.kept {w w' : World} {g nn : Nat} {acc : List PlD} {r : Option Nat} (h : UsR w g nn acc) (hg : w.grownBy w' r) (hne : some g ≠ r) : UsR w' g nn acc := by obtain ⟨us, h1, h2, h3⟩ := h; exact ⟨us, h1, h2.kept hg hne, h3⟩
theorem UsR.cell {w : World} {g nn : Nat} {acc : List PlD} (h : UsR w g nn acc) {d : Nat} (hd : d < nn) : w.cell? ⟨g, d, none⟩ = some (.bool (tt (Gave acc (d : Int)))) ∧ w.frozen? ⟨g, d, none⟩ = false := by
  obtain ⟨us, h1, h2, h3⟩ := h
  exact ⟨(h2.cell d).trans (h3 d hd), h2.frozen d⟩
theorem UsR.gave {w : World} {g nn : Nat} {acc : List PlD} (h : UsR w g nn acc) {p : PlD} {d : Nat} (hd : d < nn) (hp : p.1 = (d : Int)) : UsR (w.setCell ⟨g, d, none⟩ (.bool true)) g nn (acc ++ [p]) := by
  obtain ⟨us, h1, h2, h3⟩ := h
  refine ⟨us.setIfInBounds d (.bool true), by simp [h1], h2.set d _, fun j hj => ?_⟩
  by_cases e : d = j
  · subst e
    rw [Array.getElem?_setIfInBounds_self_of_lt (by omega), tt_true (gave_snoc.2 (.inr hp))]
  · rw [Array.getElem?_setIfInBounds_ne e, h3 j hj, tt_congr (show Gave (acc ++ [p]) (j : Int) ↔ Gave acc (j : Int) from gave_snoc.trans ⟨fun x => x.resolve_right (fun y => e (by omega)), .inl⟩)]
/-- A round of the outer loop keeps. -/
structure TkS (ps : List PlD) (a : Option Addr) (gU nn B : Nat) (w : World) (t : Value) (acc acc2 : List PlD) (wr : World) : Prop where
  own : OwnPl wr B t acc
  us : UsR wr gU nn acc2
  fr : PlacesAt wr a ps
  bl : Below w.heap.size w wr
  sz : B ≤ wr.heap.size
theorem TkS.below {ps : List PlD} {a : Option Addr} {gU nn B : Nat} {w : World} {t : Value} {acc acc2 : List PlD} {wr w' : World} (h : TkS ps a gU nn B w t acc acc2 wr) (hB : Below wr.heap.size wr w') : TkS ps a gU nn B w t acc acc2 w' :=
  ⟨h.own.below hB, h.us.kept (grownB hB none) (by simp), h.fr.below hB, h.bl.trans (hB.mono h.bl.size), Nat.le_trans h.sz hB.size⟩
theorem frAbove {w w' : World} {a : Option Addr} {ps : List PlD} {lo : Nat} {r : Option Nat} (h : PlacesAt w a ps) (hlo : ∀ b off, ps ≠ [] → a = some ⟨b, off, none⟩ → b < lo) (hg : w.grownBy w' r) (hr : ∀ i, r = some i → lo ≤ i) : PlacesAt w' a ps := by
  by_cases hp : ps = []
  · exact .inl hp
  rcases h with h | ⟨b, off, e, hc⟩
  · exact .inl h
  · have hne : some b ≠ r := fun x => by have := hr b x.symm; have := hlo b off hp e; omega
    exact .inr ⟨b, off, e, fun j hj => ⟨hg.cell (hc j hj).1 hne, hg.cell (hc j hj).2 hne⟩⟩
theorem own_us {w : World} {B g nn : Nat} {t : Value} {acc acc2 : List PlD} (h : OwnPl w B t acc) (k : UsR w g nn acc2) : t.ownBlock ≠ some g := fun e => by
  obtain ⟨us, _, hu, _⟩ := k
  rcases h.2 with ⟨rfl, _⟩ | ⟨g', cap, cur, rfl, _, hg, _⟩
  · cases e
  · have : g' = g := by simpa [Value.ownBlock] using e
    subst this
    unfold Bk at hu
    rw [hg] at hu
    injection hu with hu
    injection hu with _ hu
    simp at hu
theorem TkS.kept {ps : List PlD} {a : Option Addr} {gU nn B g : Nat} {w : World} {t : Value} {acc acc2 : List PlD} {wr w' : World} (h : TkS ps a gU nn B w t acc acc2 wr) (hg : wr.grownBy w' (some g)) (h1 : g ≠ gU) (h2 : t.ownBlock ≠ some g) (h3 : w.heap.size ≤ g) (hlo : ∀ b off, ps ≠ [] → a = some ⟨b, off, none⟩ → b < w.heap.size) : TkS ps a gU nn B w t acc acc2 w' :=
  ⟨h.own.kept hg (.inr h2), h.us.kept hg (fun e => h1 (by injection e with e; exact e.symm)), frAbove h.fr hlo hg (fun i e => by cases e; exact h3), h.bl.grown hg h.bl.size (fun i e => by cases e; exact h3), Nat.le_trans h.sz hg.size⟩
/-- ITS DISK GAVE. -/
theorem TkS.mark {ps : List PlD} {a : Option Addr} {gU nn B : Nat} {w : World} {t : Value} {acc : List PlD} {wr : World} {p : PlD} {d : Nat} (h : TkS ps a gU nn B w t acc acc wr) (hb : w.heap.size ≤ gU) (hlo : ∀ b off, ps ≠ [] → a = some ⟨b, off, none⟩ → b < w.heap.size) (hd : d < nn) (hp : p.1 = (d : Int)) :
    TkS ps a gU nn B w t acc (acc ++ [p]) (wr.setCell ⟨gU, d, none⟩ (.bool true)) := by
  have hg := gsetB wr gU d (.bool true)
  exact ⟨h.own.kept hg (.inr (own_us h.own h.us)), h.us.gave hd hp, frAbove h.fr hlo hg (fun i e => by cases e; exact hb), h.bl.grown hg h.bl.size (fun i e => by cases e; exact hb), Nat.le_trans h.sz hg.size⟩
/-- A PLACE MORE. -/
theorem TkS.add {ps : List PlD} {a : Option Addr} {gU nn B : Nat} {w : World} {t : Value} {acc : List PlD} {wr w9 : World} {p : PlD} {g4 cap4 : Nat} (h : TkS ps a gU nn B w t acc (acc ++ [p]) wr) (hwB : w.heap.size ≤ B) (hlo : ∀ b off, ps ≠ [] → a = some ⟨b, off, none⟩ → b < w.heap.size)
    (h4 : w9.ownsRow B 39 2 (.slice (some ⟨g4, 0, none⟩) (acc.length + 1) cap4) (acc.length + 1) (plCells acc ++ [.int .i64 p.1, .int .i64 p.2])) (hg : wr.grownBy w9 t.ownBlock) :
    TkS ps a gU nn B w (.slice (some ⟨g4, 0, none⟩) (acc.length + 1) cap4) (acc ++ [p]) (acc ++ [p]) w9 := by
  have hlow : ∀ i, t.ownBlock = some i → B ≤ i := fun i e => (h.own.lt i e).1
  refine ⟨?_, h.us.kept hg (fun e => own_us h.own h.us e.symm), frAbove h.fr hlo hg (fun i e => by have := hlow i e; omega), h.bl.grown hg h.bl.size (fun i e => by have := hlow i e; omega), Nat.le_trans h.sz hg.size⟩
  unfold OwnPl
  rw [plCells_add, List.length_append]
  exact h4

theorem infoBo : (Try.prog.info? 4).map (fun i => (i.zero, i.size, i.bytes)) = some (some (.bool false), 1, 1) := by kernel_rfl
theorem usR_new (w : World) (nn : Nat) : UsR (w.alloc (.cells (madeCells #[.bool false] nn) 4)) w.heap.size nn [] :=
  ⟨_, size_madeCells _ _, Bk.new w _ _, fun d hd => by
    rw [tt_false (fun ⟨q, h, _⟩ => by simp at h)]
    simp [madeCells, hd, Nat.mod_one]⟩
def lenV : Value → Nat
  | .slice _ n _ => n
  | _ => 0
theorem own_len {w : World} {B : Nat} {t : Value} {acc : List PlD} (h : OwnPl w B t acc) : ∃ a c, t = .slice a acc.length c := by
  rcases h.2 with ⟨rfl, hk⟩ | ⟨g, cap, cur, rfl, _⟩
  · exact ⟨none, 0, by rw [hk]⟩
  · exact ⟨_, _, rfl⟩

set_option maxRecDepth 100000 in
set_option maxHeartbeats 8000000 in
theorem l12Take_any (nn cc : Nat) (a : Option Addr) (cap : Nat) (ps : List PlD) (w : World) (hnn : nn ≤ 4) (hcn : cc ≤ nn) (hl : ps.length ≤ 48) (hs : Hid (ps.Pairwise plLt)) (hr : Hid (∀ q ∈ ps, 0 ≤ q.1 ∧ q.1 < (nn : Int))) (hx : Hid (PlacesAt w a ps)) :
    Calls Try.prog 50 #[.int .i64 (nn : Int), .slice a ps.length cap, .int .i64 (cc : Int)] w fun e w' => ∃ v, e = .returned (.tuple #[v, .bool (tks ps cc).isSome]) ∧ OwnPl w' w.heap.size v ((tks ps cc).getD []) ∧ Below w.heap.size w w' := by
  have hmk := run_make_row' (P := Try.prog) 103 4 (.bool false) 1 Try.underlying103 infoBo rfl .i64 .i64 nn (by omega) (by omega)
  have Hlo : Hid (∀ b off, ps ≠ [] → a = some ⟨b, off, none⟩ → b < w.heap.size) := fun b off hp e => by
    rcases hx.out with h | ⟨b', off', e', hc⟩
    · exact absurd h hp
    · rw [e] at e'
      cases e'
      exact World.block_lt_of_cell? w _ (hc 0 (List.length_pos_iff.2 hp)).1
  obtain ⟨i0, hi0, hz0, hz1, hz2⟩ := info_parts infoPl
  generalize hK : tks ps cc = K
  have HK := Lib.hid hK
  clear hK
  have hB0 : Below w.heap.size w ((w.alloc (.cells #[] 39)).alloc (.cells (madeCells #[.bool false] nn) 4)) := ((Below.refl _ _).alloc (Nat.le_refl _) _).alloc (by simp) _
  have HT0 : Hid (TkS ps a (w.heap.size + 1) nn w.heap.size w (.slice (some ⟨w.heap.size, 0, none⟩) 0 0) [] [] ((w.alloc (.cells #[] 39)).alloc (.cells (madeCells #[.bool false] nn) 4))) := by
    have hu := usR_new (w.alloc (.cells #[] 39)) nn
    simp only [World.size_alloc] at hu
    exact ⟨own_below (World.ownsRow_made (e := 39) (size := 2) w #[] 0 (Nat.le_refl _) (by simp [maxLen]) (by simp)) ((Below.refl _ _).alloc (Nat.le_refl _) _), hu, hx.out.below hB0, hB0, by simp; omega⟩
  clear hB0
  go_enter Try.func50, Try.ntmps50
  go_wp2_with fail
  go_loopw [8] (fun t wr => ∃ acc : List PlD, lenV t = acc.length ∧ acc.length ≤ cc ∧ Hid (tks ps acc.length = some acc) ∧ Hid (TkS ps a (w.heap.size + 1) nn w.heap.size w t acc acc wr)) (fun t _ => cc - lenV t)
  case atStart => exact ⟨[], rfl, by simp, rfl, HT0⟩
  case round =>
    obtain ⟨acc, hlv, hac, hT, hI⟩ := hrel
    obtain ⟨at0, ct, rfl⟩ := own_len hI.out.own
    by_cases hlt : acc.length < cc
    · have hik : (acc.length : Int) < (cc : Int) := by omega
      have hBp : Below wr.heap.size wr (wr.alloc (.cells #[.int .i64 0, .int .i64 0] 39)) := (Below.refl _ _).alloc (Nat.le_refl _) _
      have HI1 := Lib.hid (hI.out.below hBp)
      have HP1 : Hid (Bk (wr.alloc (.cells #[.int .i64 0, .int .i64 0] 39)) wr.heap.size #[.int .i64 pl0.1, .int .i64 pl0.2] 39) := Bk.new wr _ _
      have hle1 : w.heap.size ≤ wr.heap.size := hI.out.bl.size
      have htw : ∀ g, (Value.slice at0 acc.length ct).ownBlock = some g → g < wr.heap.size := fun g e => (hI.out.own.lt g e).2
      have hgU : w.heap.size + 1 < wr.heap.size := by obtain ⟨us, _, hu, _⟩ := hI.out.us; exact hu.lt
      have Htw := Lib.hid htw
      clear hBp htw
      go_wp2_with fail
      generalize hgP : wr.heap.size = gP at HP1 hle1 Htw hgU ⊢
      generalize wr.alloc (.cells #[.int .i64 0, .int .i64 0] 39) = w1 at HI1 HP1 ⊢
      clear hgP hI
      go_loopw [10, 11, 13] (fun b m d wq => ∃ (k : Nat) (b' m' : Int) (p : PlD), b = .int .i64 b' ∧ m = .int .i64 m' ∧ d = .int .i64 (k : Int) ∧ k ≤ nn ∧ m' ≤ 48 ∧ Hid (DInv ps acc k b' m' p) ∧ Hid (TkS ps a (w.heap.size + 1) nn w.heap.size w (.slice at0 acc.length ct) acc acc wq) ∧ Hid (Bk wq gP #[.int .i64 p.1, .int .i64 p.2] 39)) (fun _ _ d _ => nn - (intOf d).toNat)
      case atStart => exact ⟨0, -1, 0, pl0, rfl, rfl, rfl, by omega, by omega, DInv.start _ _ _, HI1, HP1⟩
      case round =>
        obtain ⟨k, b', m', p, rfl, rfl, rfl, hk, hm48, hD, hI, hP⟩ := hrel
        have hm0 := hD.out.1
        by_cases hkn : k < nn
        · have ik : (k : Int) < (nn : Int) := by omega
          have ik0 : (0 : Int) ≤ (k : Int) := by omega
          have hc48 := cnt_le ps (k : Int)
          have HCt := Lib.hid (fun w' h => l12Count_any a cap ps (k : Int) w' hl h)
          have HM := Lib.hid (fun h h' => hD.out.more (k := k) h h')
          have HSm := Lib.hid (fun h => hD.out.same (k := k) h)
          have hU0 := Lib.hid (fun h : Gave acc (k : Int) => cU_gave (ps := ps) h)
          have hU1 := Lib.hid (fun h : ¬Gave acc (k : Int) => cU_not (ps := ps) h)
          generalize cnt ps (k : Int) = ck at HCt HM hU1 hc48
          generalize fstOn ps (k : Int) = fk at HCt HM
          go_wp2_with fail
          refine (HCt.out _ hI.out.fr).mono ?_
          rintro e w5 ⟨rfl, hB5⟩
          have hI5 := hI.out.below hB5
          have hP5 := hP.out.kept (grownB hB5 none) (by simp)
          have hBb : Below w5.heap.size w5 (w5.alloc (.cells #[.int .i64 fk.1, .int .i64 fk.2] 39)) := (Below.refl _ _).alloc (Nat.le_refl _) _
          obtain ⟨c0, _⟩ := hI5.us.cell hkn
          have c0a := cell_below hBb c0
          have hgl := hP5.lt
          have hUl2 : w.heap.size + 1 < w5.heap.size := by omega
          have hgl' : ¬w5.heap.size = gP := by omega
          have hUl : ¬w5.heap.size = w.heap.size + 1 := by omega
          have hc48i : (ck : Int) ≤ 48 := by omega
          clear hB5 hI HCt hD
          by_cases hgv : Gave acc (k : Int)
          · rw [tt_true hgv] at c0 c0a
            have HD2 := Lib.hid (HSm.out (by rw [hU0.out hgv]; omega))
            have HI2 := Lib.hid (hI5.below hBb)
            have HP2 := Lib.hid (hP5.kept (grownB hBb none) (by simp))
            clear hgv HM HSm hU0 hU1 hI5 hP5 hBb
            go_wp2
            exact ⟨⟨k + 1, b', m', p, rfl, rfl, by go_num, by omega, by omega, HD2, HI2, HP2⟩, by simp [intOf]; omega⟩
          · rw [tt_false hgv] at c0 c0a
            by_cases hgt : m' < (ck : Int)
            · have q0 : decide (m' < (ck : Int)) = true := by simp [hgt]
              have HD2 := Lib.hid (HM.out hgv hgt)
              have y0 : w5.cell? ⟨gP, 0, none⟩ = some (.int .i64 p.1) := hP5.cell 0
              have y1 : w5.cell? ⟨gP, 1, none⟩ = some (.int .i64 p.2) := hP5.cell 1
              have f0 := hP5.frozen 0
              have f1 := hP5.frozen 1
              have hgs : w5.grownBy ((w5.setCell ⟨gP, 0, none⟩ (.int .i64 fk.1)).setCell ⟨gP, 1, none⟩ (.int .i64 fk.2)) (some gP) := (gsetB _ _ _ _).trans (gsetB _ _ _ _)
              have hBc : Below ((w5.setCell ⟨gP, 0, none⟩ (.int .i64 fk.1)).setCell ⟨gP, 1, none⟩ (.int .i64 fk.2)).heap.size ((w5.setCell ⟨gP, 0, none⟩ (.int .i64 fk.1)).setCell ⟨gP, 1, none⟩ (.int .i64 fk.2)) (((w5.setCell ⟨gP, 0, none⟩ (.int .i64 fk.1)).setCell ⟨gP, 1, none⟩ (.int .i64 fk.2)).alloc (.cells #[.int .i64 fk.1, .int .i64 fk.2] 39)) := (Below.refl _ _).alloc (Nat.le_refl _) _
              have HI2 := Lib.hid ((hI5.kept hgs (by omega) (fun e => by have := Htw.out gP e; omega) hle1 Hlo.out).below hBc)
              have HP2 := Lib.hid (((hP5.set 0 (.int .i64 fk.1)).set 1 (.int .i64 fk.2)).kept (grownB hBc none) (by simp))
              clear hgv hgt HM HSm hU0 hU1 hI5 hP5 hBb hBc hgs
              go_wp2
              exact ⟨⟨k + 1, (k : Int), (ck : Int), fk, rfl, rfl, by go_num, by omega, by omega, HD2, HI2, HP2⟩, by simp [intOf]; omega⟩
            · have q0 : decide (m' < (ck : Int)) = false := by simp; omega
              have HD2 := Lib.hid (HSm.out (by rw [hU1.out hgv]; omega))
              have HI2 := Lib.hid (hI5.below hBb)
              have HP2 := Lib.hid (hP5.kept (grownB hBb none) (by simp))
              clear hgv hgt HM HSm hU0 hU1 hI5 hP5 hBb
              go_wp2
              exact ⟨⟨k + 1, b', m', p, rfl, rfl, by go_num, by omega, by omega, HD2, HI2, HP2⟩, by simp [intOf]; omega⟩
        · obtain rfl : k = nn := by omega
          by_cases hm : 0 < m'
          · obtain ⟨hbst, hbp⟩ := hD.out.best hs.out hr.out hm
            obtain ⟨r0, r1⟩ := hr.out p hbst.1
            obtain ⟨d, hd⟩ := Int.eq_ofNat_of_zero_le r0
            have HT' := Lib.hid (tks_step hT.out (nxt_some hbst))
            have hdn : d < k := by omega
            rw [hd] at hbp
            subst hbp
            have q0 : decide ((d : Int) < 0) = false := by simp
            have id0 : (0 : Int) ≤ (d : Int) := by omega
            have id1 : (d : Int) < (k : Int) := by omega
            obtain ⟨c0, cf⟩ := hI.out.us.cell hdn
            have hIm := hI.out.mark (by omega) Hlo.out hdn hd
            have hBc : Below (wr.setCell ⟨w.heap.size + 1, d, none⟩ (.bool true)).heap.size (wr.setCell ⟨w.heap.size + 1, d, none⟩ (.bool true)) ((wr.setCell ⟨w.heap.size + 1, d, none⟩ (.bool true)).alloc (.cells #[.int .i64 p.1, .int .i64 p.2] 39)) := (Below.refl _ _).alloc (Nat.le_refl _) _
            have hI6 := hIm.below hBc
            have hown := hI6.own
            unfold OwnPl at hown
            have hnews : ∀ j u, [Value.int .i64 p.1, Value.int .i64 p.2][j]? = some u → ((wr.setCell ⟨w.heap.size + 1, d, none⟩ (.bool true)).alloc (.cells #[.int .i64 p.1, .int .i64 p.2] 39)).cell? ((⟨wr.heap.size, 0, none⟩ : Addr).add j) = some u := by
              have h := World.news_of_block (cs := #[.int .i64 p.1, .int .i64 p.2]) (t := 39) (fr := (0, 0)) (Bk.new (wr.setCell ⟨w.heap.size + 1, d, none⟩ (.bool true)) #[.int .i64 p.1, .int .i64 p.2] 39)
              simp only [World.size_setCell] at h
              exact h
            have hbase : w.heap.size ≤ ((wr.setCell ⟨w.heap.size + 1, d, none⟩ (.bool true)).alloc (.cells #[.int .i64 p.1, .int .i64 p.2] 39)).heap.size := hI6.bl.size
            have HD := Lib.hid (fun g4 cap4 w9 h4 hg => hI6.add (p := p) (g4 := g4) (cap4 := cap4) (w9 := w9) (Nat.le_refl _) Hlo.out h4 hg)
            have y0 : wr.cell? ⟨gP, 0, none⟩ = some (.int .i64 p.1) := hP.out.cell 0
            have y1 : wr.cell? ⟨gP, 1, none⟩ = some (.int .i64 p.2) := hP.out.cell 1
            have hgP : ¬gP = w.heap.size + 1 := by omega
            have hgP' : ¬w.heap.size + 1 = gP := by omega
            have HT2 : Hid (tks ps (acc ++ [p]).length = some (acc ++ [p])) := by
              show tks ps (acc ++ [p]).length = _
              rw [List.length_append]
              exact HT'.out
            obtain ⟨ys, hys⟩ : ∃ ys, ys = plCells acc := ⟨_, rfl⟩
            rw [← hys] at hown HD
            clear hI6 hIm hBc hys hI hP hD hbst hm HT' r0 r1 hd HT0 HI1 HP1
            go_wp2_with (at_builtin; refine wpList_append_lies _ rfl _ _ 28 rfl w.heap.size 39 i0 _ 2 16 Try.underlying28 hi0 hz0 hz1 hz2 rfl (by omega) _ acc.length ys rfl hown ⟨_, 0, none⟩ 1 1 [.int .i64 p.1, .int .i64 p.2] rfl rfl hnews (by simp [Value.oneCell']) (by omega) (by simp [maxLen]; omega) (by omega) hbase _ rfl ?_; intro g4 cap4 w9 hown4 hgrow4 hat4 hlt4; have HI' := Lib.hid (HD.out g4 cap4 w9 hown4 hgrow4); clear hown4 hgrow4 hat4 hlt4)
            exact ⟨⟨acc ++ [p], by simp [lenV], by simp; omega, HT2, HI'⟩, by simp [lenV]; omega⟩
          · obtain ⟨hno, rfl⟩ := hD.out.no hr.out hm
            obtain rfl : none = K := (tks_stop hT.out (nxt_none hno) hlt).symm.trans HK.out
            have HE : Hid (OwnPl (wr.alloc (.cells #[] 39)) w.heap.size (.slice (some ⟨wr.heap.size, 0, none⟩) 0 0) [] ∧ Below w.heap.size w (wr.alloc (.cells #[] 39))) :=
              ⟨own_mono (World.ownsRow_made (e := 39) (size := 2) wr #[] 0 (Nat.le_refl _) (by simp [maxLen]) (by simp)) hI.out.bl.size, hI.out.bl.alloc hI.out.bl.size _⟩
            clear hno hm hD hI hP HT0
            go_wp2
            exact bodyPost_ret (v := .tuple #[.slice (some ⟨wr.heap.size, 0, none⟩) 0 0, .bool false]) (by simp [results, Try.results50, go_sem]) rfl ⟨_, rfl, HE.out⟩
    · obtain hle : acc.length = cc := by omega
      obtain rfl : some acc = K := by rw [← HK.out, ← hle]; exact hT.out.symm
      have HE : Hid (OwnPl wr w.heap.size (.slice at0 acc.length ct) acc ∧ Below w.heap.size w wr) := ⟨hI.out.own, hI.out.bl⟩
      have hik : decide ((acc.length : Int) < (cc : Int)) = false := by simp; omega
      clear hI HT0 hle
      go_wp2
      exact bodyPost_ret (v := .tuple #[.slice at0 acc.length ct, .bool true]) (by simp [results, Try.results50, go_sem]) rfl ⟨_, rfl, HE.out⟩

end Go.Proofs.Ytlonecgmldjdpaa

namespace Go.Proofs.Ytlonecgmldjdpaa
open Go.RowKit Go.Sort Go.Lib Go.Maps

set_option maxRecDepth 100000 in
set_option maxHeartbeats 4000000 in
theorem specTake_any (n ta tb cols : Int) (aa ab : Option Addr) (ca cb : Nat) (va vb : List VolD) (w : World) (hla : va.length ≤ maxLen) (hlb : vb.length ≤ maxLen) (hna : Hid (∀ j, j < va.length → (va.getD j vol0).name.size ≤ maxLen)) (hnb : Hid (∀ j, j < vb.length → (vb.getD j vol0).name.size ≤ maxLen)) (hxa : Hid (VolsAt w aa va)) (hxb : Hid (VolsAt w ab vb)) :
    Calls Try.prog 22 #[.int .i64 n, .agg #[.int .i64 ta, .slice aa va.length ca], .agg #[.int .i64 tb, .slice ab vb.length cb], .int .i64 cols] w fun e w' => ∃ v, e = .returned (.tuple #[v, .bool (takB n ⟨ta, va⟩ ⟨tb, vb⟩ cols)]) ∧ OwnPl w' w.heap.size v (tak n ⟨ta, va⟩ ⟨tb, vb⟩ cols) ∧ Below w.heap.size w w' := by
  have hB0 : Below w.heap.size w ((w.alloc (.cells #[.int .i64 ta, .slice aa va.length ca] 25)).alloc (.cells #[.int .i64 tb, .slice ab vb.length cb] 25)) := ((Below.refl _ _).alloc (Nat.le_refl _) _).alloc (by simp) _
  have HB := Lib.hid hB0
  have k0 : ((w.alloc (.cells #[.int .i64 ta, .slice aa va.length ca] 25)).alloc (.cells #[.int .i64 tb, .slice ab vb.length cb] 25)).cell? ⟨w.heap.size, 0, none⟩ = some (.int .i64 ta) := by simp [go_sem]
  have k1 : ((w.alloc (.cells #[.int .i64 ta, .slice aa va.length ca] 25)).alloc (.cells #[.int .i64 tb, .slice ab vb.length cb] 25)).cell? ⟨w.heap.size, 1, none⟩ = some (.slice aa va.length ca) := by simp [go_sem]
  have k2 : ((w.alloc (.cells #[.int .i64 ta, .slice aa va.length ca] 25)).alloc (.cells #[.int .i64 tb, .slice ab vb.length cb] 25)).cell? ⟨w.heap.size + 1, 0, none⟩ = some (.int .i64 tb) := by simp [go_sem]
  have k3 : ((w.alloc (.cells #[.int .i64 ta, .slice aa va.length ca] 25)).alloc (.cells #[.int .i64 tb, .slice ab vb.length cb] 25)).cell? ⟨w.heap.size + 1, 1, none⟩ = some (.slice ab vb.length cb) := by simp [go_sem]
  have HRa := Lib.hid (fun w' h => specRoot_any n ⟨ta, va⟩ aa ca w' hla hna h)
  have HRb := Lib.hid (fun w' h => specRoot_any n ⟨tb, vb⟩ ab cb w' hlb hnb h)
  have HIn := Lib.hid (fun w' => in_any cols 1 n w')
  simp only at HRa HRb
  clear hB0
  by_cases hoka : RootOkP n ⟨ta, va⟩
  · rw [tt_true hoka] at HRa
    by_cases hokb : RootOkP n ⟨tb, vb⟩
    · rw [tt_true hokb] at HRb
      by_cases hin : 1 ≤ cols ∧ cols ≤ n
      · rw [tt_true hin] at HIn
        obtain ⟨nn, rfl⟩ := Int.eq_ofNat_of_zero_le (show 0 ≤ n by have := hoka.1.1; omega)
        obtain ⟨cc, rfl⟩ := Int.eq_ofNat_of_zero_le (show 0 ≤ cols by omega)
        obtain ⟨e1, e2⟩ := tak_in (ra := ⟨ta, va⟩) (rb := ⟨tb, vb⟩) hin
        rw [e1, e2, Int.toNat_natCast]
        clear e1 e2
        have hnn : nn ≤ 4 := by have := hoka.1.2; omega
        have hcn : cc ≤ nn := by omega
        have HF := Lib.hid (fun w' (h : Below w.heap.size w w') => l12Free_any nn ta tb aa ab ca cb va vb w' hnn
          (fun d s w'' h2 => l12Used_any ta aa ca va d s w'' hoka.2.2.1.threes (all_short hoka) (hxa.out.below (h.trans (h2.mono h.size))))
          (fun d s w'' h2 => l12Used_any tb ab cb vb d s w'' hokb.2.2.1.threes (all_short hokb) (hxb.out.below (h.trans (h2.mono h.size)))))
        have hfe := fre_ok hoka hokb
        simp only [Int.toNat_natCast] at hfe
        have hP48 := fre_length (nn : Int) ⟨ta, va⟩ ⟨tb, vb⟩
        have HPs := Lib.hid (fre_sorted (nn : Int) ⟨ta, va⟩ ⟨tb, vb⟩)
        have HPr : Hid (∀ q ∈ fre (nn : Int) ⟨ta, va⟩ ⟨tb, vb⟩, 0 ≤ q.1 ∧ q.1 < (nn : Int)) := fun q hq => (fre_range (nn : Int) ⟨ta, va⟩ ⟨tb, vb⟩ q hq).1
        rw [hfe] at hP48 HPs HPr ⊢
        generalize pick (FreeP va vb) (gridTo nn) = P at HF hP48 HPs HPr ⊢
        have HT := Lib.hid (fun a' c' w' h => l12Take_any nn cc a' c' P w' hnn hcn hP48 HPs HPr h)
        generalize (tks P cc).isSome = bb at HT ⊢
        generalize (tks P cc).getD [] = T at HT ⊢
        clear hfe hoka hokb hin
        go_enter Try.func22, Try.ntmps22
        go_wp2_with fail
        refine (HRa.out _ (hxa.out.below HB.out)).mono ?_
        rintro e w1 ⟨rfl, hB⟩
        replace k0 := cell_below hB k0
        replace k1 := cell_below hB k1
        replace k2 := cell_below hB k2
        replace k3 := cell_below hB k3
        replace HB := Lib.hid (HB.out.trans (hB.mono HB.out.size))
        clear hB
        go_wp2_with fail
        refine (HRb.out _ (hxb.out.below HB.out)).mono ?_
        rintro e w2 ⟨rfl, hB⟩
        replace k0 := cell_below hB k0
        replace k1 := cell_below hB k1
        replace k2 := cell_below hB k2
        replace k3 := cell_below hB k3
        replace HB := Lib.hid (HB.out.trans (hB.mono HB.out.size))
        clear hB
        go_wp2_with fail
        refine (HIn.out _).mono ?_
        rintro e _ ⟨rfl, rfl⟩
        go_wp2_with fail
        refine (HF.out _ HB.out).mono ?_
        rintro e w3 ⟨v3, rfl, ho3, hB⟩
        obtain ⟨a3, c3, rfl, _, _, hx3⟩ := ho3.reads
        have HX3 := Lib.hid hx3
        replace k0 := cell_below hB k0
        replace k1 := cell_below hB k1
        replace k2 := cell_below hB k2
        replace k3 := cell_below hB k3
        replace HB := Lib.hid (HB.out.trans (hB.mono HB.out.size))
        clear hB
        clear ho3 hx3
        go_wp2_with fail
        refine (HT.out a3 c3 _ HX3).mono ?_
        rintro e w4 ⟨v4, rfl, ho4, hB⟩
        have HE : Hid (OwnPl w4 w.heap.size v4 T ∧ Below w.heap.size w w4) := ⟨own_mono ho4 HB.out.size, HB.out.trans (hB.mono HB.out.size)⟩
        clear ho4 hB k0 k1 k2 k3
        go_wp2
        exact bodyPost_ret (v := .tuple #[v4, .bool bb]) (by simp [results, Try.results22, go_sem]) rfl ⟨_, rfl, HE.out⟩
      · obtain ⟨e1, e2⟩ := tak_out (ra := ⟨ta, va⟩) (rb := ⟨tb, vb⟩) hin
        rw [tt_false hin] at HIn
        rw [e1, e2]
        clear e1 e2 hin hoka hokb
        go_enter Try.func22, Try.ntmps22
        go_wp2_with fail
        refine (HRa.out _ (hxa.out.below HB.out)).mono ?_
        rintro e w1 ⟨rfl, hB⟩
        replace k0 := cell_below hB k0
        replace k1 := cell_below hB k1
        replace k2 := cell_below hB k2
        replace k3 := cell_below hB k3
        replace HB := Lib.hid (HB.out.trans (hB.mono HB.out.size))
        clear hB
        go_wp2_with fail
        refine (HRb.out _ (hxb.out.below HB.out)).mono ?_
        rintro e w2 ⟨rfl, hB⟩
        replace k0 := cell_below hB k0
        replace k1 := cell_below hB k1
        replace k2 := cell_below hB k2
        replace k3 := cell_below hB k3
        replace HB := Lib.hid (HB.out.trans (hB.mono HB.out.size))
        clear hB
        go_wp2_with fail
        refine (HIn.out _).mono ?_
        rintro e _ ⟨rfl, rfl⟩
        have HE : Hid (OwnPl (w2.alloc (.cells #[] 39)) w.heap.size (.slice (some ⟨w2.heap.size, 0, none⟩) 0 0) [] ∧ Below w.heap.size w (w2.alloc (.cells #[] 39))) :=
          ⟨own_mono (World.ownsRow_made (e := 39) (size := 2) w2 #[] 0 (Nat.le_refl _) (by simp [maxLen]) (by simp)) HB.out.size, HB.out.alloc HB.out.size _⟩
        clear k0 k1 k2 k3
        go_wp2
        exact bodyPost_ret (v := .tuple #[.slice (some ⟨w2.heap.size, 0, none⟩) 0 0, .bool false]) (by simp [results, Try.results22, go_sem]) rfl ⟨_, rfl, HE.out⟩
    · obtain ⟨e1, e2⟩ := tak_bad (cols := cols) (show ¬(RootOkP n ⟨ta, va⟩ ∧ RootOkP n ⟨tb, vb⟩) from fun h => hokb h.2)
      rw [tt_false hokb] at HRb
      rw [e1, e2]
      clear e1 e2 hoka hokb
      go_enter Try.func22, Try.ntmps22
      go_wp2_with fail
      refine (HRa.out _ (hxa.out.below HB.out)).mono ?_
      rintro e w1 ⟨rfl, hB⟩
      replace k0 := cell_below hB k0
      replace k1 := cell_below hB k1
      replace k2 := cell_below hB k2
      replace k3 := cell_below hB k3
      replace HB := Lib.hid (HB.out.trans (hB.mono HB.out.size))
      clear hB
      go_wp2_with fail
      refine (HRb.out _ (hxb.out.below HB.out)).mono ?_
      rintro e w2 ⟨rfl, hB⟩
      replace k0 := cell_below hB k0
      replace k1 := cell_below hB k1
      replace k2 := cell_below hB k2
      replace k3 := cell_below hB k3
      replace HB := Lib.hid (HB.out.trans (hB.mono HB.out.size))
      clear hB
      have HE : Hid (OwnPl (w2.alloc (.cells #[] 39)) w.heap.size (.slice (some ⟨w2.heap.size, 0, none⟩) 0 0) [] ∧ Below w.heap.size w (w2.alloc (.cells #[] 39))) :=
        ⟨own_mono (World.ownsRow_made (e := 39) (size := 2) w2 #[] 0 (Nat.le_refl _) (by simp [maxLen]) (by simp)) HB.out.size, HB.out.alloc HB.out.size _⟩
      clear k0 k1 k2 k3
      go_wp2
      exact bodyPost_ret (v := .tuple #[.slice (some ⟨w2.heap.size, 0, none⟩) 0 0, .bool false]) (by simp [results, Try.results22, go_sem]) rfl ⟨_, rfl, HE.out⟩
  · obtain ⟨e1, e2⟩ := tak_bad (cols := cols) (show ¬(RootOkP n ⟨ta, va⟩ ∧ RootOkP n ⟨tb, vb⟩) from fun h => hoka h.1)
    rw [tt_false hoka] at HRa
    rw [e1, e2]
    clear e1 e2 hoka
    go_enter Try.func22, Try.ntmps22
    go_wp2_with fail
    refine (HRa.out _ (hxa.out.below HB.out)).mono ?_
    rintro e w1 ⟨rfl, hB⟩
    replace k0 := cell_below hB k0
    replace k1 := cell_below hB k1
    replace k2 := cell_below hB k2
    replace k3 := cell_below hB k3
    replace HB := Lib.hid (HB.out.trans (hB.mono HB.out.size))
    clear hB
    have HE : Hid (OwnPl (w1.alloc (.cells #[] 39)) w.heap.size (.slice (some ⟨w1.heap.size, 0, none⟩) 0 0) [] ∧ Below w.heap.size w (w1.alloc (.cells #[] 39))) :=
      ⟨own_mono (World.ownsRow_made (e := 39) (size := 2) w1 #[] 0 (Nat.le_refl _) (by simp [maxLen]) (by simp)) HB.out.size, HB.out.alloc HB.out.size _⟩
    clear k0 k1 k2 k3
    go_wp2
    exact bodyPost_ret (v := .tuple #[.slice (some ⟨w1.heap.size, 0, none⟩) 0 0, .bool false]) (by simp [results, Try.results22, go_sem]) rfl ⟨_, rfl, HE.out⟩

end Go.Proofs.Ytlonecgmldjdpaa

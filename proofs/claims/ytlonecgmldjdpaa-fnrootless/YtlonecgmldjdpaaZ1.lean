/- The places that a root uses, in order, each once: sorting and compacting gives just these. Conditions: none. -/
import Derived.Test.YtlonecgmldjdpaaU8
import Derived.Shelf.SlSortCmp.NoneTotal
import Derived.Lib.SlicesCompact
namespace Go.Proofs.Ytlonecgmldjdpaa
open Go.RowKit Go.Sort Go.Lib

/-- ALL PLACES of the first k pointers; of all. -/
def plsTo (ps : List PtrD) (k : Nat) : List PlD := (ps.take k).flatMap (·.places)
def plsOf (ps : List PtrD) : List PlD := ps.flatMap (·.places)
theorem plsTo_all (ps : List PtrD) (k : Nat) (h : ps.length ≤ k) : plsTo ps k = plsOf ps := by rw [plsTo, plsOf, List.take_of_length_le h]
theorem plsTo_succ (ps : List PtrD) (k : Nat) (h : k < ps.length) : plsTo ps (k + 1) = plsTo ps k ++ (ps.getD k ptr0).places := by
  unfold plsTo
  rw [List.take_succ_eq_append_getElem h, List.flatMap_append, List.getD, List.getElem?_eq_getElem h]
  simp

/-- PLACES IN ORDER, by disks, then slots. -/
def plLt (x y : PlD) : Prop := x.1 < y.1 ∨ x.1 = y.1 ∧ x.2 < y.2
instance (x y : PlD) : Decidable (plLt x y) := by unfold plLt; infer_instance
theorem plLt_irr (x : PlD) : ¬plLt x x := by unfold plLt; omega
theorem plLt_trans {x y z : PlD} (h : plLt x y) (k : plLt y z) : plLt x z := by unfold plLt at *; omega
theorem plLt_tri {x y : PlD} (h : ¬plLt x y) (k : ¬plLt y x) : x = y := by
  unfold plLt at *
  obtain ⟨a, b⟩ := x
  obtain ⟨c, d⟩ := y
  simp only at *
  obtain rfl : a = c := by omega
  obtain rfl : b = d := by omega
  rfl

/-- TWO LISTS IN STRICT ORDER with the same members are one. -/
theorem sorted_ext : ∀ {l1 l2 : List PlD}, l1.Pairwise plLt → l2.Pairwise plLt → (∀ x, x ∈ l1 ↔ x ∈ l2) → l1 = l2
  | [], [], _, _, _ => rfl
  | [], b :: l2, _, _, h => by have := (h b).2 (by simp); simp at this
  | a :: l1, [], _, _, h => by have := (h a).1 (by simp); simp at this
  | a :: l1, b :: l2, h1, h2, h => by
    rw [List.pairwise_cons] at h1 h2
    have e : a = b := by
      have ha := (h a).1 (by simp)
      have hb := (h b).2 (by simp)
      rw [List.mem_cons] at ha hb
      rcases ha with ha | ha
      · exact ha
      · rcases hb with hb | hb
        · exact hb.symm
        · exact absurd (plLt_trans (h1.1 b hb) (h2.1 a ha)) (plLt_irr a)
    subst e
    congr 1
    refine sorted_ext h1.2 h2.2 fun x => ⟨fun hx => ?_, fun hx => ?_⟩
    · rcases List.mem_cons.1 ((h x).1 (by simp [hx])) with e | e
      · exact absurd (e ▸ h1.1 x hx) (plLt_irr _)
      · exact e
    · rcases List.mem_cons.1 ((h x).2 (by simp [hx])) with e | e
      · exact absurd (e ▸ h2.1 x hx) (plLt_irr _)
      · exact e

/-- ALL PLACES OF n DISKS. -/
def row12 (d : Nat) (m : Nat) : List PlD := (List.range m).map fun s : Nat => ((d : Int), (s : Int))
def gridTo (n : Nat) : List PlD := (List.range n).flatMap fun d => row12 d 12
theorem mem_row {d m : Nat} {q : PlD} : q ∈ row12 d m ↔ q.1 = (d : Int) ∧ 0 ≤ q.2 ∧ q.2 < (m : Int) := by
  unfold row12
  rw [List.mem_map]
  constructor
  · rintro ⟨s, hs, rfl⟩
    rw [List.mem_range] at hs
    exact ⟨rfl, by simp, by simp; omega⟩
  · rintro ⟨h1, h2, h3⟩
    obtain ⟨a, b⟩ := q
    simp only at *
    exact ⟨b.toNat, by rw [List.mem_range]; omega, by rw [h1]; congr 1; omega⟩
theorem mem_grid {n : Nat} {q : PlD} : q ∈ gridTo n ↔ 0 ≤ q.1 ∧ q.1 < (n : Int) ∧ 0 ≤ q.2 ∧ q.2 < 12 := by
  unfold gridTo
  rw [List.mem_flatMap]
  constructor
  · rintro ⟨d, hd, hq⟩
    rw [List.mem_range] at hd
    rw [mem_row] at hq
    omega
  · rintro ⟨h1, h2, h3, h4⟩
    exact ⟨q.1.toNat, by rw [List.mem_range]; omega, by rw [mem_row]; omega⟩
theorem row_sorted (d m : Nat) : (row12 d m).Pairwise plLt := by
  unfold row12
  rw [List.pairwise_map]
  refine List.Pairwise.imp ?_ List.pairwise_lt_range
  intro a b h
  exact .inr ⟨rfl, by show ((a : Nat) : Int) < ((b : Nat) : Int); omega⟩
theorem grid_succ (n : Nat) : gridTo (n + 1) = gridTo n ++ row12 n 12 := by
  unfold gridTo
  rw [List.range_succ, List.flatMap_append]
  simp
theorem grid_sorted (n : Nat) : (gridTo n).Pairwise plLt := by
  induction n with
  | zero => simp [gridTo]
  | succ n ih =>
    rw [grid_succ, List.pairwise_append]
    refine ⟨ih, row_sorted _ _, fun a ha b hb => ?_⟩
    rw [mem_grid] at ha
    rw [mem_row] at hb
    unfold plLt
    omega
theorem row_succ (d m : Nat) : row12 d (m + 1) = row12 d m ++ [((d : Int), (m : Int))] := by
  unfold row12
  rw [List.range_succ, List.map_append]
  rfl
theorem row_length (d m : Nat) : (row12 d m).length = m := by simp [row12]
theorem grid_length (n : Nat) : (gridTo n).length = n * 12 := by
  induction n with
  | zero => simp [gridTo]
  | succ n ih => rw [grid_succ, List.length_append, ih, row_length]; omega

/-- THOSE OF ALL PLACES THAT ARE SO. -/
noncomputable def pick (P : PlD → Prop) (l : List PlD) : List PlD := l.filter fun q => tt (P q)
theorem mem_pick {P : PlD → Prop} {l : List PlD} {q : PlD} : q ∈ pick P l ↔ q ∈ l ∧ P q := by
  unfold pick
  rw [List.mem_filter, tt_iff]
theorem pick_append (P : PlD → Prop) (l m : List PlD) : pick P (l ++ m) = pick P l ++ pick P m := List.filter_append ..
theorem pick_one (P : PlD → Prop) (q : PlD) (h : P q) : pick P [q] = [q] := by unfold pick; simp [tt_true h]
theorem pickNone (P : PlD → Prop) (q : PlD) (h : ¬P q) : pick P [q] = [] := by unfold pick; simp [tt_false h]
theorem pick_sorted {P : PlD → Prop} {l : List PlD} (h : l.Pairwise plLt) : (pick P l).Pairwise plLt := h.filter _
theorem pick_length_le (P : PlD → Prop) (l : List PlD) : (pick P l).length ≤ l.length := List.length_filter_le ..

/-- WHAT IS COMPARED. -/
def plCmp (x y : PlD) : Int := if compareInt x.1 y.1 = 0 then compareInt x.2 y.2 else compareInt x.1 y.1
theorem cmp_lt (a b : Int) : compareInt a b < 0 ↔ a < b := by
  unfold compareInt
  by_cases h1 : a < b
  · simp [h1]
  · by_cases h2 : b < a <;> simp [h1, h2]
theorem cmp_eq (a b : Int) : compareInt a b = 0 ↔ a = b := by
  unfold compareInt
  by_cases h1 : a < b
  · simp [h1]; omega
  · by_cases h2 : b < a <;> simp [h1, h2] <;> omega
theorem ltOf_pl (x y : PlD) : ltOf plCmp x y = decide (plLt x y) := by
  unfold ltOf plCmp plLt
  by_cases h : x.1 = y.1
  · rw [if_pos ((cmp_eq _ _).2 h)]
    apply decide_eq_decide.2
    rw [cmp_lt]
    omega
  · rw [if_neg (fun k => h ((cmp_eq _ _).1 k))]
    apply decide_eq_decide.2
    rw [cmp_lt]
    omega
theorem swoPl : SWO (ltOf plCmp) where
  irrefl x := by rw [ltOf_pl]; exact decide_eq_false (plLt_irr x)
  trans x y z h1 h2 := by rw [ltOf_pl] at *; exact decide_eq_true (plLt_trans (of_decide_eq_true h1) (of_decide_eq_true h2))
  ntrans x y z h1 h2 := by
    rw [ltOf_pl] at *
    refine decide_eq_false fun h => ?_
    have k1 := of_decide_eq_false h1
    have k2 := of_decide_eq_false h2
    unfold plLt at *
    omega
theorem totPl (x y : PlD) (h : ltOf plCmp x y = false) (k : ltOf plCmp y x = false) : x = y := by
  rw [ltOf_pl] at h k
  exact plLt_tri (of_decide_eq_false h) (of_decide_eq_false k)

/-- SORTED. -/
def srt (ps : List PlD) : List PlD := ps.mergeSort fun x y => !(ltOf plCmp) y x
theorem srt_mem (ps : List PlD) (q : PlD) : q ∈ srt ps ↔ q ∈ ps := List.mem_mergeSort
theorem srt_length (ps : List PlD) : (srt ps).length = ps.length := List.length_mergeSort ..
theorem srt_sorted (ps : List PlD) : (srt ps).Pairwise fun x y => ¬plLt y x := by
  have h := List.pairwise_mergeSort (le := fun x y : PlD => !(ltOf plCmp) y x) (fun a b c h1 h2 => by
    rw [ltOf_pl] at *
    simp only [Bool.not_eq_true', decide_eq_false_iff_not] at *
    unfold plLt at *
    omega) (fun a b => by
    rw [ltOf_pl, ltOf_pl]
    simp only [Bool.or_eq_true, Bool.not_eq_true', decide_eq_false_iff_not]
    unfold plLt
    omega) ps
  refine h.imp fun {a b} hab => ?_
  rw [ltOf_pl] at hab
  simpa using hab

theorem compact_mem (d : Array PlD) (m : Nat) (hm : m ≤ d.size) (q : PlD) : q ∈ compactUpTo d m ↔ ∃ j, j < m ∧ d[j]! = q := by
  induction m with
  | zero => simp [compactUpTo]
  | succ m ih =>
    rw [compactUpTo_succ, List.mem_append, ih (by omega)]
    constructor
    · rintro (⟨j, hj, h⟩ | h)
      · exact ⟨j, by omega, h⟩
      · by_cases hk : keeps d m = true
        · rw [if_pos hk, List.mem_singleton] at h
          exact ⟨m, by omega, h.symm⟩
        · rw [if_neg hk] at h
          simp at h
    · rintro ⟨j, hj, h⟩
      by_cases e : j = m
      · subst e
        by_cases hk : keeps d j = true
        · right; rw [if_pos hk]; simp [h]
        · left
          unfold keeps at hk
          simp only [decide_eq_true_eq, not_or, ne_eq, Classical.not_not] at hk
          exact ⟨j - 1, by omega, by rw [← hk.2]; exact h⟩
      · left; exact ⟨j, by omega, h⟩
theorem compact_sorted (d : Array PlD) (hd : ∀ i j, i < j → j < d.size → ¬plLt d[j]! d[i]!) (m : Nat) (hm : m ≤ d.size) : (compactUpTo d m).Pairwise plLt := by
  induction m with
  | zero => simp [compactUpTo]
  | succ m ih =>
    rw [compactUpTo_succ, List.pairwise_append]
    refine ⟨ih (by omega), ?_, fun a ha b hb => ?_⟩
    · split <;> simp
    · by_cases hk : keeps d m = true
      · rw [if_pos hk, List.mem_singleton] at hb
        subst hb
        obtain ⟨j, hj, rfl⟩ := (compact_mem d m (by omega) a).1 ha
        unfold keeps at hk
        simp only [decide_eq_true_eq, ne_eq] at hk
        have hne := hk.resolve_left (by omega)
        by_cases e : j = m - 1
        · subst e
          have h1 := hd (m - 1) m (by omega) (by omega)
          exact Classical.byContradiction fun h2 => hne (plLt_tri h1 h2)
        · have h1 := hd (m - 1) m (by omega) (by omega)
          have h2 := hd j (m - 1) (by omega) (by omega)
          have h3 : plLt d[m - 1]! d[m]! := Classical.byContradiction fun h => hne (plLt_tri h1 h)
          unfold plLt at *
          omega
      · rw [if_neg hk] at hb
        simp at hb

/-- SORTED AND COMPACTED: just the places that there are. -/
theorem compact_srt (n : Nat) (ps : List PlD) (h : ∀ q ∈ ps, q ∈ gridTo n) : compactUpTo (srt ps).toArray (srt ps).length = pick (· ∈ ps) (gridTo n) := by
  have hg : ∀ i, i < (srt ps).length → (srt ps).toArray[i]! = (srt ps)[i]! := fun i hi => by simp
  refine sorted_ext (compact_sorted _ (fun i j hij hj => ?_) _ (by simp)) (pick_sorted (grid_sorted n)) fun q => ?_
  · have hj' : j < (srt ps).length := by simpa using hj
    rw [hg i (by omega), hg j hj', getElem!_pos _ i (by omega), getElem!_pos _ j hj']
    exact (List.pairwise_iff_getElem.1 (srt_sorted ps)) i j (by omega) hj' hij
  · rw [compact_mem _ _ (by simp), mem_pick]
    constructor
    · rintro ⟨j, hj, rfl⟩
      rw [hg j hj, getElem!_pos _ j hj]
      have := (srt_mem ps _).1 (List.getElem_mem hj)
      exact ⟨h _ this, this⟩
    · rintro ⟨_, hq⟩
      obtain ⟨j, hj, e⟩ := List.getElem_of_mem ((srt_mem ps q).2 hq)
      exact ⟨j, hj, by rw [hg j hj, getElem!_pos _ j hj]; exact e⟩

end Go.Proofs.Ytlonecgmldjdpaa

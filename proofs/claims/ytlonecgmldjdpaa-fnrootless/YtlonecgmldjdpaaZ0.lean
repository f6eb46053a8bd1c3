/- The places that a root uses, as plain data; rows of one's own. Conditions: none. -/
import Derived.Test.YtlonecgmldjdpaaU9
import Derived.Test.YtlonecgmldjdpaaZ1
import Derived.Test.YtlonecgmldjdpaaS6
namespace Go.Proofs.Ytlonecgmldjdpaa
open Go.RowKit Go.Sort Go.Lib

/-- THE PLACES THAT A ROOT USES. -/
def UsedBy' (vs : List VolD) (q : PlD) : Prop := q ∈ plsOf (allOf vs)
noncomputable def rpl (n : Int) (r : RootD) : List PlD := if tt (RootOkP n r) = true then pick (UsedBy' r.vols) (gridTo n.toNat) else []
theorem rpl_ok {n : Int} {r : RootD} (h : RootOkP n r) : rpl n r = pick (UsedBy' r.vols) (gridTo n.toNat) := by unfold rpl; rw [if_pos (tt_true h)]
theorem rpl_no {n : Int} {r : RootD} (h : ¬RootOkP n r) : rpl n r = [] := by unfold rpl; rw [if_neg (by rw [tt_false h]; simp)]
theorem rpl_length (n : Int) (r : RootD) : (rpl n r).length ≤ 48 := by
  by_cases h : RootOkP n r
  · rw [rpl_ok h]
    have h1 := pick_length_le (UsedBy' r.vols) (gridTo n.toNat)
    rw [grid_length] at h1
    have := h.1.2
    omega
  · rw [rpl_no h]; simp

theorem plIn_mem (q : PlD) (ps : List PlD) : PlIn q ps ↔ q ∈ ps := by
  unfold PlIn
  constructor
  · rintro ⟨j, hj, rfl⟩
    rw [List.getD, List.getElem?_eq_getElem hj]
    exact List.getElem_mem hj
  · intro h
    obtain ⟨j, hj, e⟩ := List.getElem_of_mem h
    exact ⟨j, hj, by rw [List.getD, List.getElem?_eq_getElem hj]; exact e⟩
theorem mem_plsOf (ps : List PtrD) (q : PlD) : q ∈ plsOf ps ↔ ∃ j, j < ps.length ∧ PlIn q (ps.getD j ptr0).places := by
  unfold plsOf
  rw [List.mem_flatMap]
  constructor
  · rintro ⟨p, hp, hq⟩
    obtain ⟨j, hj, rfl⟩ := List.getElem_of_mem hp
    exact ⟨j, hj, by rw [plIn_mem, List.getD, List.getElem?_eq_getElem hj]; exact hq⟩
  · rintro ⟨j, hj, hq⟩
    rw [plIn_mem, List.getD, List.getElem?_eq_getElem hj] at hq
    exact ⟨_, List.getElem_mem hj, hq⟩
theorem meet_one (q : PlD) (qs : List PlD) : Meet [q] qs ↔ PlIn q qs := by
  unfold Meet
  constructor
  · rintro ⟨j, hj, h⟩
    obtain rfl : j = 0 := by simp at hj; exact hj
    exact h
  · intro h
    exact ⟨0, by simp, h⟩

theorem own_ne {w : World} {b1 b2 : Nat} {e1 e2 : TypeId} {K1 K2 n1 n2 : Nat} {v1 v2 : Value} {xs ys : List Value} (h1 : w.ownsRow b1 e1 K1 v1 n1 xs) (h2 : w.ownsRow b2 e2 K2 v2 n2 ys) (he : e1 ≠ e2) : v1.ownBlock = none ∨ v1.ownBlock ≠ v2.ownBlock := by
  rcases h1.2 with ⟨rfl, _⟩ | ⟨g1, c1, u1, rfl, _, hg1, _⟩
  · exact .inl rfl
  · right
    intro e
    rcases h2.2 with ⟨rfl, _⟩ | ⟨g2, c2, u2, rfl, _, hg2, _⟩
    · cases e
    · have : g1 = g2 := by simpa [Value.ownBlock] using e
      subst this
      rw [hg1] at hg2
      injection hg2 with hg2
      injection hg2 with _ h _
      exact he h
theorem news_pl (W : World) (a b : Value) (t : TypeId) (H : Nat) (hH : W.heap.size = H) : ∀ j u, [a, b][j]? = some u → (W.alloc (.cells #[a, b] t)).cell? ((⟨H, 0, none⟩ : Addr).add j) = some u := by
  subst hH
  exact World.news_of_block (cs := #[a, b]) (t := t) (fr := (0, 0)) (heap_alloc_new W _)
theorem plCells_add (ps : List PlD) (q : PlD) : plCells (ps ++ [q]) = plCells ps ++ [.int .i64 q.1, .int .i64 q.2] := by
  refine List.ext_getElem? fun i => ?_
  have hl := plCells_length ps
  by_cases hi : i < ps.length * 2
  · rw [plCells_get _ _ (by rw [List.length_append]; omega), List.getElem?_append_left (by omega), plCells_get _ _ hi]
    unfold plCell
    rw [getD_append_left _ _ _ _ (by omega)]
  · by_cases h0 : i = ps.length * 2
    · subst h0
      rw [plCells_get _ _ (by rw [List.length_append, List.length_singleton]; omega), plCell_0, List.getElem?_append_right (by omega), hl]
      simp [List.getD]
    · by_cases h1 : i = ps.length * 2 + 1
      · subst h1
        rw [plCells_get _ _ (by rw [List.length_append, List.length_singleton]; omega), plCell_1, List.getElem?_append_right (by omega), hl, show ps.length * 2 + 1 - ps.length * 2 = 1 by omega]
        simp [List.getD]
      · rw [List.getElem?_eq_none (by rw [plCells_length]; simp; omega), List.getElem?_eq_none (by simp [hl]; omega)]

theorem fine_short {n : Int} {p : PtrD} (hp : Pool n) (h : PtrFine n p) : p.places.length ≤ 4 := by
  rcases h with h | h
  · rw [h.2.2]; simp
  · have h1 := h.2.1
    have h2 := h.2.2.2.2.1
    have h3 := h.1
    have := hp.2
    omega
theorem fine_grid {nn : Nat} {p : PtrD} (h : PtrFine (nn : Int) p) : ∀ q ∈ p.places, q ∈ gridTo nn := by
  intro q hq
  rcases h with h | h
  · rw [h.2.2] at hq; simp at hq
  · obtain ⟨j, hj, rfl⟩ := List.getElem_of_mem hq
    obtain ⟨⟨h1, h2, h3, h4⟩, _⟩ := h.2.2.2.2.2 j hj
    rw [List.getD, List.getElem?_eq_getElem hj] at h1 h2 h3 h4
    rw [mem_grid]
    simp only [Option.getD_some] at h1 h2 h3 h4
    omega
theorem all_fine {n : Int} {r : RootD} (h : RootOkP n r) : ∀ p ∈ allOf r.vols, PtrFine n p := by
  have hg := ((good_iff h.1 h.2.2.1.1).1 ⟨h.2.2.1, h.2.2.2⟩).2
  exact getD_all.1 (fun i hi => (hg i hi).1)
theorem all_grid {nn : Nat} {r : RootD} (h : RootOkP (nn : Int) r) : ∀ q ∈ plsOf (allOf r.vols), q ∈ gridTo nn := by
  intro q hq
  unfold plsOf at hq
  obtain ⟨p, hp, hq⟩ := List.mem_flatMap.1 hq
  exact fine_grid (all_fine h p hp) q hq

/-- WHAT A ROUND KEEPS. -/
def SInv (base : Nat) (w wr : World) (o : Value) (qs : List PlD) (va : Value) (m : Nat) (xs : List Value) : Prop :=
  Below base w wr ∧ wr.ownsRow base 39 2 o qs.length (plCells qs) ∧ wr.ownsRow base 36 3 va m xs
theorem SInv.below {base : Nat} {w wr w' : World} {o : Value} {qs : List PlD} {va : Value} {m : Nat} {xs : List Value} (h : SInv base w wr o qs va m xs) (hB : Below wr.heap.size wr w') (hb : base ≤ wr.heap.size) : SInv base w w' o qs va m xs :=
  ⟨h.1.trans (hB.mono hb), own_below h.2.1 hB, own_below h.2.2 hB⟩

end Go.Proofs.Ytlonecgmldjdpaa

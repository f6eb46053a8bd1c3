/- What comes of a model that was drawn, its first volume being turned. Conditions: none. -/
import Derived.Test.YtmmckpjapnkepaaJB
namespace Go.Proofs.Ytmmckpjapnkepaa
open Go.RowKit Go.Sort

theorem getD_set0 {ss : List ShD} (s : ShD) (j : Nat) (h0 : 0 < ss.length) : (ss.set 0 s).getD j sh0 = if j = 0 then s else ss.getD j sh0 := by
  rw [List.getD, List.getD, List.getElem?_set]
  by_cases e : j = 0
  · subst e; simp [h0]
  · rw [if_neg (fun k => e k.symm), if_neg e]
theorem small_set0 {ss : List ShD} {s : ShD} (h : AllSh ShS ss) (h0 : 0 < ss.length) (hs : ShSmall s) : AllSh ShSmall (ss.set 0 s) := by
  intro j hj
  rw [List.length_set] at hj
  rw [getD_set0 s j h0]
  split
  · exact hs
  · exact (h j hj).small
theorem getD_tail3 (xs : List ByteArray) (j : Nat) : xs.tail.getD j ByteArray.empty = xs.getD (j + 1) ByteArray.empty := by
  rw [List.getD, List.getD, List.getElem?_tail]

theorem tx_reads {w : World} {base : Nat} {v : Value} {xs : List ByteArray} (h : w.ownsRow base 9 1 v xs.length (txC xs)) : TxV w v xs := OwnTx.reads h

theorem MdI.first {n₀ B q p base D : Nat} {v : Value} {ss : List ShD} {w0 w : World} (hB : B < base) (hD : base < D) (hw0 : w0.heap.size ≤ base) (h : MdI n₀ B q base D v ss w0 w) (h0 : 0 < ss.length) (h4 : ss.length ≤ 4) (hq : q ≤ p + 300) :
    ∃ gr cap g0 c0, First n₀ B q p base D v ss w0 w gr cap g0 c0 := by
  obtain ⟨ys, g, k1, k2, k3, k4⟩ := h.own.rows
  obtain ⟨gr, cap, rfl⟩ : ∃ gr cap, v = .slice (some ⟨gr, 0, none⟩) ss.length cap := by
    rcases k1.2 with ⟨rfl, hk⟩ | ⟨b, c, _, rfl, _⟩
    · omega
    · exact ⟨b, c, rfl⟩
  obtain ⟨y0, c0, y1, o1⟩ := k2 0 h0
  have hf0 := h.fine 0 h0
  have hl3 : (ss.getD 0 sh0).blocks.length = 3 := hf0.2.1
  simp only [Nat.zero_mul, Nat.zero_add] at y0 y1
  have e0 := own_cell k1 0 (by omega)
  have e1 := own_cell k1 1 (by omega)
  rw [y0] at e0
  rw [y1, hl3] at e1
  have hx1 := own_cell o1 0 (by omega)
  rw [txC_get _ 0 (by omega)] at hx1
  have hyl : ys.length = ss.length * 2 := k1.1
  have hgD : gr ≠ D := fun e => own_blk_ne k1 h.box (by decide) (by rw [e]; rfl)
  have hgb : gr ≠ base := fun e => own_blk_ne k1 h.res (by decide) (by rw [e]; rfl)
  have hxD : ∀ j, j < ss.length → g j ≠ D := fun j hj e => by
    obtain ⟨_, c, _, o⟩ := k2 j hj
    exact own_blk_ne o h.box (by decide) (by rw [e]; rfl)
  have hxb : ∀ j, j < ss.length → g j ≠ base := fun j hj e => by
    obtain ⟨_, c, _, o⟩ := k2 j hj
    exact own_blk_ne o h.res (by decide) (by rw [e]; rfl)
  have hgr : ∀ j, j < ss.length → g j ≠ gr := fun j hj e => by
    obtain ⟨_, c, _, o⟩ := k2 j hj
    obtain ⟨cur, hc⟩ := own_typed k1 gr rfl
    rcases o.2 with ⟨hv, _⟩ | ⟨g1, c1, cur1, hv, _, hb1, _⟩
    · cases hv
    · cases hv
      rw [e, hc] at hb1
      injection hb1 with hb1
      injection hb1 with _ hb1
      exact absurd hb1 (by decide)
  have hgrl := (k1.lt gr rfl).1
  have hg0l := (o1.lt _ rfl).1
  have hc3 : 3 ≤ c0 ∧ c0 ≤ maxLen := by
    rcases o1.2 with ⟨hv, _⟩ | ⟨g1, c1, cur1, hv, _, _, hk, hm, _⟩
    · cases hv
    · cases hv
      exact ⟨by rw [hl3] at hk; exact hk, hm⟩
  -- a store into the row of volumes
  have row : ∀ (i : Nat) (u : Value) (s : ShD), i < 2 → (∀ j, j < ss.length → j ≠ 0 → True) → ShSmall s →
      ((ys.set i u)[0]? = some (.string s.name) ∧ ∃ u', (ys.set i u)[1]? = some u' ∧ TxV (w.setCell ⟨gr, i, none⟩ u) u' s.blocks) → Fin0 n₀ B p base D (.slice (some ⟨gr, 0, none⟩) ss.length cap) w0 (w.setCell ⟨gr, i, none⟩ u) := by
    intro i u s hi _ hs hrow
    have hg := gset_by w gr i u
    have hset := own_set k1 i u
    refine fin0 (ss := ss.set 0 s) hB hw0 (h.rd.kept hg (fun k e => by cases e; omega)) (h.box.gb hg (fun e => by injection e with e; exact hgD e)) (h.res.gb hg (fun e => by injection e with e; exact hgb e)) (h.gb.andThen hg (fun k e => .inl (by cases e; omega))) ?_ (small_set0 h.fine h0 hs) (by simp; omega) hq
    have hV : ShV (w.setCell ⟨gr, i, none⟩ u) (.slice (some ⟨gr, 0, none⟩) (ss.set 0 s).length cap) (ss.set 0 s) := by
      refine shV_row (base := base) (ys := ys.set i u) (by rw [List.length_set]; exact hset) (fun j hj => ?_)
      rw [List.length_set] at hj
      rw [getD_set0 s j h0]
      by_cases e : j = 0
      · subst e
        rw [if_pos rfl]
        simpa using hrow
      · rw [if_neg e]
        obtain ⟨d0, dc, d1, d2⟩ := k2 j hj
        refine ⟨by rw [List.getElem?_set_ne (by omega)]; exact d0, _, by rw [List.getElem?_set_ne (by omega)]; exact d1, ?_⟩
        exact tx_reads (own_other d2 gr i u (fun k => by simp only [Value.ownBlock, Option.some.injEq] at k; exact hgr j hj k))
    rw [List.length_set] at hV
    exact hV
  refine ⟨gr, cap, g 0, c0, ⟨rfl, e0.1, e1.1, e0.2.1, e1.2.1, ⟨_, hx1.1⟩, hx1.2.1, hc3, fun A hA => ?_, ?_, fun T hT => ?_, ys, ?_, fun g4 cap4 w4 ho4 hg4 => ?_⟩⟩
  · refine row 0 (.string A) ⟨A, (ss.getD 0 sh0).blocks⟩ (by omega) (fun _ _ _ => trivial) ⟨by show A.size ≤ _; omega, hf0.small.2⟩ ⟨?_, .slice (some ⟨g 0, 0, none⟩) (ss.getD 0 sh0).blocks.length c0, ?_, ?_⟩
    · rw [List.getElem?_set_self (by omega)]
    · rw [List.getElem?_set_ne (by omega)]; exact y1
    · exact tx_reads (own_other o1 gr 0 _ (fun k => by simp only [Value.ownBlock, Option.some.injEq] at k; exact hgr 0 h0 k))
  · refine row 1 _ ⟨nmAt ss 0, (ss.getD 0 sh0).blocks.tail⟩ (by omega) (fun _ _ _ => trivial) ⟨hf0.small.1, ?_, fun j hj => ?_⟩ ⟨?_, .slice (some ⟨g 0, 1, none⟩) 2 (c0 - 1), ?_, ?_⟩
    · simp only [List.length_tail]; omega
    · rw [getD_tail3]
      exact hf0.small.2.2 (j + 1) (by simp only [List.length_tail] at hj; omega)
    · rw [List.getElem?_set_ne (by omega)]; exact y0
    · rw [List.getElem?_set_self (by omega)]
    · have o2 := own_other o1 gr 1 (.slice (some ⟨g 0, 1, none⟩) 2 (c0 - 1)) (fun k => by simp only [Value.ownBlock, Option.some.injEq] at k; exact hgr 0 h0 k)
      refine ⟨some ⟨g 0, 1, none⟩, c0 - 1, by simp only [List.length_tail, hl3], by simp only [List.length_tail]; omega, by unfold maxLen at hc3 ⊢; omega, .inr ⟨g 0, 1, rfl, fun j hj => ?_⟩⟩
      simp only [List.length_tail] at hj
      have := (own_cell o2 (j + 1) (by omega)).1
      rw [txC_get _ (j + 1) (by omega)] at this
      rw [getD_tail3, Nat.add_comm 1 j]
      exact this
  · have hg := gset_by w (g 0) 0 (.string T)
    refine fin0 (ss := ss.set 0 ⟨nmAt ss 0, (ss.getD 0 sh0).blocks.set 0 T⟩) hB hw0 (h.rd.kept hg (fun k e => by cases e; omega)) (h.box.gb hg (fun e => by injection e with e; exact hxD 0 h0 e)) (h.res.gb hg (fun e => by injection e with e; exact hxb 0 h0 e)) (h.gb.andThen hg (fun k e => .inl (by cases e; omega))) ?_ (small_set0 h.fine h0 ⟨hf0.small.1, by simp only [List.length_set]; omega, fun j hj => ?_⟩) (by simp; omega) hq
    · have hV : ShV (w.setCell ⟨g 0, 0, none⟩ (.string T)) (.slice (some ⟨gr, 0, none⟩) (ss.set 0 ⟨nmAt ss 0, (ss.getD 0 sh0).blocks.set 0 T⟩).length cap) (ss.set 0 ⟨nmAt ss 0, (ss.getD 0 sh0).blocks.set 0 T⟩) := by
        refine shV_row (base := base) (ys := ys) (by rw [List.length_set]; exact own_other k1 _ _ _ (fun k => by simp only [Value.ownBlock, Option.some.injEq] at k; exact hgr 0 h0 k.symm)) (fun j hj => ?_)
        rw [List.length_set] at hj
        rw [getD_set0 _ j h0]
        by_cases e : j = 0
        · subst e
          rw [if_pos rfl]
          refine ⟨by rw [Nat.zero_mul]; exact y0, _, by rw [Nat.zero_mul, Nat.zero_add]; exact y1, ?_⟩
          have o2 := own_set o1 0 (.string T)
          have e2 : (txC (ss.getD 0 sh0).blocks).set 0 (.string T) = txC ((ss.getD 0 sh0).blocks.set 0 T) := by simp [txC, List.map_set]
          rw [e2] at o2
          have o3 : OwnTx (w.setCell ⟨g 0, 0, none⟩ (.string T)) base (.slice (some ⟨g 0, 0, none⟩) (ss.getD 0 sh0).blocks.length c0) ((ss.getD 0 sh0).blocks.set 0 T) := by
            unfold OwnTx; rw [List.length_set]; exact o2
          exact o3.reads
        · rw [if_neg e]
          obtain ⟨d0, dc, d1, d2⟩ := k2 j hj
          exact ⟨d0, _, d1, tx_reads (own_other d2 _ _ _ (fun k => by simp only [Value.ownBlock, Option.some.injEq] at k; exact k3 0 j (by omega) hj k.symm))⟩
      rw [List.length_set] at hV
      exact hV
    · simp only [List.length_set] at hj
      rw [List.getD, List.getElem?_set]
      split
      · rename_i e0; subst e0
        rw [if_pos (by omega)]
        show T.size ≤ _; omega
      · exact hf0.small.2.2 j hj
  · exact own_gb k1 (World.grownBy_alloc w _ none) (fun i e => by cases e)
  · have ha : w.grownBy (w.alloc (.cells #[.string (nmAt ss 0), .slice (some ⟨g 0, 0, none⟩) 3 c0] 35)) (some B) := World.grownBy_alloc _ _ _
    have hI3 := h.grow hB hD ha (h.rd.alloc _)
    have hown : (w.alloc (.cells #[.string (nmAt ss 0), .slice (some ⟨g 0, 0, none⟩) 3 c0] 35)).ownsRow base 35 2 (.slice (some ⟨gr, 0, none⟩) ss.length cap) ss.length ys := own_gb k1 (World.grownBy_alloc w _ none) (fun i e => by cases e)
    have hD4 := hI3.box.gb hg4 (own_blk_ne hown hI3.box (by decide))
    have hR4 := hI3.res.gb hg4 (own_blk_ne hown hI3.res (by decide))
    have hg5 := gset_by w4 D 0 (.slice (some ⟨g4, 0, none⟩) (ss.length + 1) cap4)
    have tx4 : ∀ j v', j < ss.length → v'.ownBlock = some (g j) → OwnTx w base v' (ss.getD j sh0).blocks → TxV w4 v' (ss.getD j sh0).blocks := fun j v' hj hv' d2 =>
      tx_reads (own_gb (own_gb d2 ha (fun i e k => by cases e; have := (d2.lt _ k).1; omega)) hg4 (fun i e k => by
        rw [hv'] at k
        simp only [Value.ownBlock, Option.some.injEq] at e k
        subst e; exact hgr j hj k))
    have hV4 : ShV w4 (.slice (some ⟨g4, 0, none⟩) (ss.length + 1) cap4) (ss ++ [ss.getD 0 sh0]) := by
      refine shV_row (base := base) (ys := ys ++ [.string (nmAt ss 0), .slice (some ⟨g 0, 0, none⟩) 3 c0]) (by rw [List.length_append]; exact ho4) (fun j hj => ?_)
      rw [List.length_append, List.length_singleton] at hj
      by_cases e : j < ss.length
      · rw [getD_app_lt e, List.getElem?_append_left (by omega), List.getElem?_append_left (by omega)]
        obtain ⟨d0, dc, d1, d2⟩ := k2 j e
        exact ⟨d0, _, d1, tx4 j _ e rfl d2⟩
      · obtain rfl : j = ss.length := by omega
        rw [getD_app_eq, List.getElem?_append_right (by omega), List.getElem?_append_right (by omega), hyl, Nat.sub_self, show ss.length * 2 + 1 - ss.length * 2 = 1 by omega]
        refine ⟨rfl, _, rfl, ?_⟩
        have o4 := tx4 0 _ h0 rfl o1
        rw [hl3] at o4
        exact o4
    refine ⟨hD4, fin0 (ss := ss ++ [ss.getD 0 sh0]) hB hw0 ((hI3.rd.kept hg4 (fun k e => by have := (hown.lt k e).1; omega)).kept hg5 (fun k e => by cases e; omega)) (hD4.set 0 _) (hR4.other _ _ _ (by omega)) ((hI3.gb.andThen hg4 (fun i e => .inl (by have := (hown.lt i e).1; omega))).andThen hg5 (fun i e => .inl (by cases e; omega))) ?_ ?_ (by simp; omega) hq⟩
    · exact hV4.aside hD4.noStr hg5
    · exact allSh_snoc (fun j hj => (h.fine j hj).small) (hf0.small)

end Go.Proofs.Ytmmckpjapnkepaa

/- All pointers of volumes, of both sides; whether pointers that have a place together are the same. Conditions: three pointers a volume, at most four volumes. -/
import Derived.Test.YtceielkcplcccaaGreatDoorPKU3
import Derived.Test.YtceielkcplcccaaGreatDoorPKS5
import Derived.Deep.AppendLies
namespace Go.Proofs.YtceielkcplcccaaGreatDoor
open Go.RowKit Go.Sort

theorem infoPt : (Tryz.prog.info? 65).map (fun i => (i.zero, i.size, i.bytes)) = some (some (.agg #[.int .i64 0, .int .i64 0, .slice none 0 0]), 3, 40) := by kernel_rfl

/-- THE CELLS OF POINTERS, in a row. -/
def PtRow (w : World) (ps : List PtrD) (xs : List Value) : Prop :=
  xs.length = ps.length * 3 ∧ ∀ j, j < ps.length → xs[j * 3]? = some (.int .i64 (ps.getD j ptr0).size) ∧ xs[j * 3 + 1]? = some (.int .i64 (ps.getD j ptr0).sum) ∧ ∃ u, xs[j * 3 + 2]? = some u ∧ PlacesV w u (ps.getD j ptr0).places
theorem PtRow.below {w w' : World} {ps : List PtrD} {xs : List Value} (h : PtRow w ps xs) (hB : Below w.heap.size w w') : PtRow w' ps xs :=
  ⟨h.1, fun j hj => by obtain ⟨h1, h2, u, h3, h4⟩ := h.2 j hj; exact ⟨h1, h2, u, h3, h4.below hB⟩⟩
theorem PtRow.nil (w : World) : PtRow w [] [] := ⟨rfl, fun j hj => by simp at hj⟩
theorem getD_append_left {α : Type} (xs ys : List α) (d : α) (j : Nat) (h : j < xs.length) : (xs ++ ys).getD j d = xs.getD j d := by
  rw [List.getD, List.getElem?_append_left h]; rfl
theorem getD_append_right {α : Type} (xs ys : List α) (d : α) (j : Nat) (h : xs.length ≤ j) : (xs ++ ys).getD j d = ys.getD (j - xs.length) d := by
  rw [List.getD, List.getElem?_append_right h]; rfl
theorem PtRow.append {w : World} {ps qs : List PtrD} {xs ys : List Value} (h : PtRow w ps xs) (k : PtRow w qs ys) : PtRow w (ps ++ qs) (xs ++ ys) := by
  refine ⟨by rw [List.length_append, List.length_append, h.1, k.1]; omega, fun j hj => ?_⟩
  rw [List.length_append] at hj
  have hx := h.1
  by_cases hjp : j < ps.length
  · obtain ⟨h1, h2, u, h3, h4⟩ := h.2 j hjp
    rw [getD_append_left _ _ _ _ hjp, List.getElem?_append_left (by omega), List.getElem?_append_left (by omega), List.getElem?_append_left (by omega)]
    exact ⟨h1, h2, u, h3, h4⟩
  · obtain ⟨h1, h2, u, h3, h4⟩ := k.2 (j - ps.length) (by omega)
    rw [getD_append_right _ _ _ _ (by omega), List.getElem?_append_right (by omega), List.getElem?_append_right (by omega), List.getElem?_append_right (by omega), hx,
      show j * 3 - ps.length * 3 = (j - ps.length) * 3 by omega, show j * 3 + 1 - ps.length * 3 = (j - ps.length) * 3 + 1 by omega, show j * 3 + 2 - ps.length * 3 = (j - ps.length) * 3 + 2 by omega]
    exact ⟨h1, h2, u, h3, h4⟩
theorem PtRow.oneCell {w : World} {ps : List PtrD} {xs : List Value} (h : PtRow w ps xs) : ∀ v ∈ xs, v.oneCell' = true := by
  intro v hv
  obtain ⟨i, hi, rfl⟩ := List.getElem_of_mem hv
  have hx := h.1
  obtain ⟨h1, h2, u, h3, a, cap, rfl, _⟩ := h.2 (i / 3) (by omega)
  have hm : i % 3 < 3 := Nat.mod_lt _ (by omega)
  rcases (show i % 3 = 0 ∨ i % 3 = 1 ∨ i % 3 = 2 by omega) with e | e | e
  · rw [show i / 3 * 3 = i by omega, List.getElem?_eq_getElem hi] at h1
    injection h1 with h1; rw [h1]; rfl
  · rw [show i / 3 * 3 + 1 = i by omega, List.getElem?_eq_getElem hi] at h2
    injection h2 with h2; rw [h2]; rfl
  · rw [show i / 3 * 3 + 2 = i by omega, List.getElem?_eq_getElem hi] at h3
    injection h3 with h3; rw [h3]; rfl
/-- The cells of pointers that lie in memory. -/
theorem ptRow_of {w : World} {b off : Nat} {ps : List PtrD} (h : PtrsAt w (some ⟨b, off, none⟩) ps) : ∃ xs, PtRow w ps xs ∧ ∀ j u, xs[j]? = some u → w.cell? ((⟨b, off, none⟩ : Addr).add j) = some u := by
  rcases h with rfl | ⟨b', off', e, hc⟩
  · exact ⟨[], PtRow.nil w, fun j u h => by simp at h⟩
  · injection e with e
    injection e with e1 e2
    subst e1
    subst e2
    have hs : ∀ i, i < ps.length * 3 → ∃ v, w.cell? ⟨b, off + i, none⟩ = some v := fun i hi => by
      obtain ⟨h1, h2, u, h3, _⟩ := hc (i / 3) (by omega)
      rcases (show i % 3 = 0 ∨ i % 3 = 1 ∨ i % 3 = 2 by omega) with e | e | e
      · exact ⟨_, by rw [show off + i = off + i / 3 * 3 by omega]; exact h1⟩
      · exact ⟨_, by rw [show off + i = off + i / 3 * 3 + 1 by omega]; exact h2⟩
      · exact ⟨_, by rw [show off + i = off + i / 3 * 3 + 2 by omega]; exact h3⟩
    have hg : ∀ i, i < ps.length * 3 → ((List.range (ps.length * 3)).map fun i => (w.cell? ⟨b, off + i, none⟩).getD undef)[i]? = w.cell? ⟨b, off + i, none⟩ := fun i hi => by
      rw [List.getElem?_map, List.getElem?_range hi]
      obtain ⟨v, hv⟩ := hs i hi
      simp [hv]
    refine ⟨(List.range (ps.length * 3)).map fun i => (w.cell? ⟨b, off + i, none⟩).getD undef, ⟨by simp, fun j hj => ?_⟩, fun j u hu => ?_⟩
    · obtain ⟨h1, h2, u, h3, h4⟩ := hc j hj
      rw [hg _ (by omega), hg _ (by omega), hg _ (by omega)]
      exact ⟨h1, by rw [← Nat.add_assoc]; exact h2, u, by rw [← Nat.add_assoc]; exact h3, h4⟩
    · have hj : j < ps.length * 3 := by have := (List.getElem?_eq_some_iff.1 hu).1; simpa using this
      rw [hg j hj] at hu
      have e : (⟨b, off, none⟩ : Addr).add j = ⟨b, off + j, none⟩ := by
        unfold Addr.add
        by_cases e : j = 0
        · subst e; rfl
        · rw [if_neg e]
      rw [e]; exact hu

/-- POINTERS IN A ROW OF ONE's OWN. -/
def OwnPt (w : World) (base : Nat) (v : Value) (ps : List PtrD) : Prop := ∃ xs, w.ownsRow base 65 3 v ps.length xs ∧ PtRow w ps xs
theorem OwnPt.below {w w' : World} {base : Nat} {v : Value} {ps : List PtrD} (h : OwnPt w base v ps) (hB : Below w.heap.size w w') : OwnPt w' base v ps := by
  obtain ⟨xs, h1, h2⟩ := h
  exact ⟨xs, own_below h1 hB, h2.below hB⟩
theorem OwnPt.reads {w : World} {base : Nat} {v : Value} {ps : List PtrD} (h : OwnPt w base v ps) : PtrsV w v ps := by
  obtain ⟨xs, ho, hr⟩ := h
  have ho' := ho
  rcases ho.2 with ⟨rfl, hk⟩ | ⟨g, cap, cur, rfl, hb, hg, hkc, hcm, hcs, hx⟩
  · have : ps = [] := List.eq_nil_of_length_eq_zero hk
    subst this
    exact ⟨none, 0, rfl, Nat.le_refl _, by simp [maxLen], .inl rfl⟩
  · refine ⟨some ⟨g, 0, none⟩, cap, rfl, hkc, hcm, .inr ⟨g, 0, rfl, fun j hj => ?_⟩⟩
    obtain ⟨h1, h2, u, h3, h4⟩ := hr.2 j hj
    have e0 := (own_cell ho' (j * 3) (by omega)).1
    have e1 := (own_cell ho' (j * 3 + 1) (by omega)).1
    have e2 := (own_cell ho' (j * 3 + 2) (by omega)).1
    rw [h1] at e0
    rw [h2] at e1
    rw [h3] at e2
    exact ⟨by rw [Nat.zero_add]; exact e0, by rw [Nat.zero_add]; exact e1, u, by rw [Nat.zero_add]; exact e2, h4⟩

/-- ALL POINTERS OF THE FIRST k VOLUMES. -/
def allTo (vs : List VolD) (k : Nat) : List PtrD := (vs.take k).flatMap (·.blocks)
def allOf (vs : List VolD) : List PtrD := vs.flatMap (·.blocks)
theorem allTo_all (vs : List VolD) (k : Nat) (h : vs.length ≤ k) : allTo vs k = allOf vs := by rw [allTo, allOf, List.take_of_length_le h]
theorem allTo_succ (vs : List VolD) (k : Nat) (h : k < vs.length) : allTo vs (k + 1) = allTo vs k ++ (vs.getD k vol0).blocks := by
  unfold allTo
  rw [List.take_succ_eq_append_getElem h, List.flatMap_append, List.getD, List.getElem?_eq_getElem h]
  simp
def Threes (vs : List VolD) : Prop := vs.length ≤ 4 ∧ ∀ j, j < vs.length → (vs.getD j vol0).blocks.length = 3
theorem allTo_length {vs : List VolD} (h : Threes vs) (k : Nat) (hk : k ≤ vs.length) : (allTo vs k).length = k * 3 := by
  induction k with
  | zero => simp [allTo]
  | succ k ih => rw [allTo_succ vs k (by omega), List.length_append, ih (by omega), h.2 k (by omega)]; omega

set_option maxRecDepth 100000 in
set_option maxHeartbeats 2000000 in
theorem ptrsOf_any (a : Option Addr) (cap : Nat) (vs : List VolD) (w : World) (hT : Hid (Threes vs)) (hx : Hid (VolsAt w a vs)) :
    Calls Tryz.prog 48 #[.slice a vs.length cap] w fun e w' => ∃ v, e = .returned v ∧ OwnPt w' w.heap.size v (allOf vs) ∧ Below w.heap.size w w' := by
  obtain ⟨i0, hi0, hz0, hz1, hz2⟩ := info_parts infoPt
  have hn := hT.out.1
  go_enter Tryz.func48, Tryz.ntmps48
  go_wp2_with fail
  go_loopw [3, 8] (fun o i wr => ∃ k : Nat, i = .int .i64 (k : Int) ∧ k ≤ vs.length ∧ Hid (Below w.heap.size w wr) ∧ Hid (∃ xs, wr.ownsRow w.heap.size 65 3 o (k * 3) xs ∧ PtRow w (allTo vs k) xs)) (fun _ i _ => vs.length - (intOf i).toNat)
  case atStart => exact ⟨0, rfl, by omega, Below.refl _ _, [], World.ownsRow_nil _ _ _ _, PtRow.nil _⟩
  case round =>
    obtain ⟨k, rfl, hk, hB, hO⟩ := hrel
    by_cases hlt : k < vs.length
    · obtain ⟨b, off, rfl, hc⟩ := hx.out.resolve_left (fun e => by subst e; simp at hlt)
      obtain ⟨c0, u1, c1, hu1⟩ := hc k hlt
      have h3 := hT.out.2 k hlt
      have Hs := Lib.hid (allTo_succ vs k hlt)
      clear hc
      generalize vs.getD k vol0 = q at c0 hu1 h3 Hs
      obtain ⟨nm, qs⟩ := q
      simp only at c0 hu1 h3 Hs
      obtain ⟨a1, cap1, rfl, hcap1, hcm1, hat1⟩ := hu1
      rw [h3] at c1 hcap1
      obtain ⟨b1, o1, rfl, _⟩ := hat1.resolve_left (fun e => by subst e; simp at h3)
      obtain ⟨xs, hown, hrow⟩ := hO.out
      obtain ⟨news, hnrow, hnew0⟩ := ptRow_of hat1
      have hBa : Below wr.heap.size wr (wr.alloc (.cells #[.string nm, .slice (some ⟨b1, o1, none⟩) 3 cap1] 62)) := (Below.refl _ _).alloc (Nat.le_refl _) _
      have HB1 := Lib.hid (hB.out.trans (hBa.mono hB.out.size))
      have hnews : ∀ j u, news[j]? = some u → (wr.alloc (.cells #[.string nm, .slice (some ⟨b1, o1, none⟩) 3 cap1] 62)).cell? ((⟨b1, o1, none⟩ : Addr).add j) = some u := fun j u h => by
        have := hnew0 j u h
        exact (HB1.out.cell (World.block_lt_of_cell? w _ this)).trans this
      have hnl : news.length = 9 := by have := hnrow.1; rw [h3] at this; exact this
      have hown' := own_below hown hBa
      have HR : Hid (PtRow w (allTo vs (k + 1)) (xs ++ news)) := by rw [Hs.out]; exact hrow.append hnrow
      have Hlk : Hid (∀ i, u3.ownBlock = some i → w.heap.size ≤ i) := fun i e => (hown.lt i e).1
      have hsz : w.heap.size ≤ wr.heap.size := hB.out.size
      have hone := hnrow.oneCell
      have c0' := cell_below hB.out c0
      have c1' := cell_below hB.out c1
      clear hBa hown hrow hO hnew0 hat1 h3 hnrow c0 c1
      have HX : Hid (∀ w4 : World, (wr.alloc (.cells #[.string nm, .slice (some ⟨b1, o1, none⟩) 3 cap1] 62)).grownBy w4 u3.ownBlock → Below w.heap.size w w4) := fun w4 hg => HB1.out.grown hg (by have := hB.out.size; simp; omega) Hlk.out
      go_wp2_with (at_builtin; refine wpList_append_lies _ rfl _ _ 60 rfl w.heap.size 65 i0 _ 3 40 Tryz.underlying60 hi0 hz0 hz1 hz2 rfl (by omega) _ (k * 3) xs rfl hown' ⟨b1, o1, none⟩ 3 cap1 news rfl hnl hnews hone (by omega) (by simp [maxLen]; omega) (by omega) (by simp; omega) _ rfl ?_; intro g cap w4 hown4 hgrow4 hat4 hlt4)
      exact ⟨⟨k + 1, by go_num, by omega, HX.out w4 hgrow4, xs ++ news, by rw [show (k + 1) * 3 = k * 3 + 3 by omega]; exact hown4, HR.out⟩, by simp [intOf]; omega⟩
    · obtain rfl : k = vs.length := by omega
      go_wp2
      go_ret
      obtain ⟨xs, hown, hrow⟩ := hO.out
      refine ⟨_, rfl, ⟨xs, ?_, ?_⟩, hB.out⟩
      · rw [← allTo_all vs vs.length (Nat.le_refl _), allTo_length hT.out _ (Nat.le_refl _)]; exact hown
      · rw [← allTo_all vs vs.length (Nat.le_refl _)]; exact hrow.below hB.out

set_option maxRecDepth 100000 in
set_option maxHeartbeats 2000000 in
theorem l2All_any (t : Int) (a : Option Addr) (cap : Nat) (vs : List VolD) (w : World) (hT : Hid (Threes vs)) (hx : Hid (VolsAt w a vs)) :
    Calls Tryz.prog 82 #[.agg #[.int .i64 t, .slice a vs.length cap]] w fun e w' => ∃ v, e = .returned v ∧ OwnPt w' w.heap.size v (allOf vs) ∧ Below w.heap.size w w' := by
  obtain ⟨i0, hi0, hz0, hz1, hz2⟩ := info_parts infoPt
  have hn := hT.out.1
  have hB0 : Below w.heap.size w (w.alloc (.cells #[.int .i64 t, .slice a vs.length cap] 25)) := (Below.refl _ _).alloc (Nat.le_refl _) _
  have HB0 := Lib.hid hB0
  have hx1 := Lib.hid (hx.out.below hB0)
  have Hc : Hid ((w.alloc (.cells #[.int .i64 t, .slice a vs.length cap] 25)).cell? ⟨w.heap.size, 1, none⟩ = some (.slice a vs.length cap)) := by
    show (w.alloc (.cells #[.int .i64 t, .slice a vs.length cap] 25)).cell? ⟨w.heap.size, 1, none⟩ = _
    rw [World.cell?_alloc_mark]; rfl
  have hs1 : (w.alloc (.cells #[.int .i64 t, .slice a vs.length cap] 25)).heap.size = w.heap.size + 1 := by simp
  have Hs1 := Lib.hid hs1
  clear hB0 hs1
  go_enter Tryz.func82, Tryz.ntmps82
  go_wp2_with fail
  generalize w.alloc (.cells #[.int .i64 t, .slice a vs.length cap] 25) = w1 at HB0 hx1 Hc Hs1 ⊢
  have Hown0 := Lib.hid (World.ownsRow_made (e := 65) (size := 3) w1 #[] 0 (Nat.le_refl _) (by simp [maxLen]) (by simp))
  have HBm : Hid (Below w1.heap.size w1 (w1.alloc (.cells #[] 65))) := (Below.refl _ _).alloc (Nat.le_refl _) _
  rw [← Hs1.out]
  go_loopw [3, 4] (fun o i wr => ∃ k : Nat, i = .int .i64 (k : Int) ∧ k ≤ vs.length ∧ Hid (Below w1.heap.size w1 wr) ∧ Hid (∃ xs, wr.ownsRow w1.heap.size 65 3 o (k * 3) xs ∧ PtRow w (allTo vs k) xs)) (fun _ i _ => vs.length - (intOf i).toNat)
  case atStart => exact ⟨0, rfl, by omega, HBm, [], Hown0.out, PtRow.nil _⟩
  case round =>
    obtain ⟨k, rfl, hk, hB, hO⟩ := hrel
    have cb := cell_below hB.out Hc.out
    have HBw := Lib.hid (HB0.out.trans (hB.out.mono HB0.out.size))
    by_cases hlt : k < vs.length
    · obtain ⟨b, off, rfl, hc⟩ := hx.out.resolve_left (fun e => by subst e; simp at hlt)
      obtain ⟨c0, u1, c1, hu1⟩ := hc k hlt
      have h3 := hT.out.2 k hlt
      have Hs := Lib.hid (allTo_succ vs k hlt)
      clear hc
      generalize vs.getD k vol0 = q at c0 hu1 h3 Hs
      obtain ⟨nm, qs⟩ := q
      simp only at c0 hu1 h3 Hs
      obtain ⟨a1, cap1, rfl, hcap1, hcm1, hat1⟩ := hu1
      rw [h3] at c1 hcap1
      obtain ⟨b1, o1, rfl, _⟩ := hat1.resolve_left (fun e => by subst e; simp at h3)
      obtain ⟨xs, hown, hrow⟩ := hO.out
      obtain ⟨news, hnrow, hnew0⟩ := ptRow_of hat1
      have hnews : ∀ j u, news[j]? = some u → wr.cell? ((⟨b1, o1, none⟩ : Addr).add j) = some u := fun j u h => by
        have := hnew0 j u h
        exact (HBw.out.cell (World.block_lt_of_cell? w _ this)).trans this
      have hnl : news.length = 9 := by have := hnrow.1; rw [h3] at this; exact this
      have HR : Hid (PtRow w (allTo vs (k + 1)) (xs ++ news)) := by rw [Hs.out]; exact hrow.append hnrow
      have Hlk : Hid (∀ i, u3.ownBlock = some i → w1.heap.size ≤ i) := fun i e => (hown.lt i e).1
      have hsz : w1.heap.size ≤ wr.heap.size := hB.out.size
      have hone := hnrow.oneCell
      have c1' := cell_below HBw.out c1
      clear hrow hO hnew0 hat1 h3 hnrow c0 c1
      have HX : Hid (∀ w4 : World, wr.grownBy w4 u3.ownBlock → Below w1.heap.size w1 w4) := fun w4 hg => hB.out.grown hg hB.out.size Hlk.out
      go_wp2_with (at_builtin; refine wpList_append_lies _ rfl _ _ 60 rfl w1.heap.size 65 i0 _ 3 40 Tryz.underlying60 hi0 hz0 hz1 hz2 rfl (by omega) _ (k * 3) xs rfl hown ⟨b1, o1, none⟩ 3 cap1 news rfl hnl hnews hone (by omega) (by simp [maxLen]; omega) (by omega) (by omega) _ rfl ?_; intro g cap w4 hown4 hgrow4 hat4 hlt4)
      exact ⟨⟨k + 1, by go_num, by omega, HX.out w4 hgrow4, xs ++ news, by rw [show (k + 1) * 3 = k * 3 + 3 by omega]; exact hown4, HR.out⟩, by simp [intOf]; omega⟩
    · obtain rfl : k = vs.length := by omega
      go_wp2
      go_ret
      obtain ⟨xs, hown, hrow⟩ := hO.out
      refine ⟨_, rfl, ⟨xs, ?_, ?_⟩, HBw.out⟩
      · rw [← allTo_all vs vs.length (Nat.le_refl _), allTo_length hT.out _ (Nat.le_refl _)]; exact own_mono hown HB0.out.size
      · rw [← allTo_all vs vs.length (Nat.le_refl _)]; exact hrow.below HBw.out

end Go.Proofs.YtceielkcplcccaaGreatDoor

/- Roots in memory known by its types: places, pointers, volumes; all pointers of such volumes. Conditions: none. -/
import Derived.Test.YtliadobopideaaaGreatDoorPKUA
import Derived.Test.YtliadobopideaaaGreatDoorPKD7
namespace Go.Proofs.YtliadobopideaaaGreatDoor
open Go.RowKit Go.Sort

/-- A value that is a slice. -/
def IsSl (u : Value) : Prop := ∃ a n c, u = .slice a n c
/-- POINTERS AND VOLUMES THAT LIE BEHIND AN ADDRESS, whose places are so. -/
def PtrsG (w : World) (G : Value → List PlD → Prop) (a : Option Addr) (ps : List PtrD) : Prop :=
  ps = [] ∨ ∃ b off, a = some ⟨b, off, none⟩ ∧ ∀ j, j < ps.length → w.cell? ⟨b, off + j * 3, none⟩ = some (.int .i64 (ps.getD j ptr0).size) ∧ w.cell? ⟨b, off + j * 3 + 1, none⟩ = some (.int .i64 (ps.getD j ptr0).sum) ∧
    ∃ v, w.cell? ⟨b, off + j * 3 + 2, none⟩ = some v ∧ IsSl v ∧ G v (ps.getD j ptr0).places
def VolsG (w : World) (G : Value → List PlD → Prop) (a : Option Addr) (vs : List VolD) : Prop :=
  vs = [] ∨ ∃ b off, a = some ⟨b, off, none⟩ ∧ ∀ j, j < vs.length → ∃ a1 cap, w.cell? ⟨b, off + j * 2 + 1, none⟩ = some (.slice a1 (vs.getD j vol0).blocks.length cap) ∧ PtrsG w G a1 (vs.getD j vol0).blocks
/-- THE CELLS OF POINTERS, in a row. -/
def PtRowG (G : Value → List PlD → Prop) (ps : List PtrD) (xs : List Value) : Prop :=
  xs.length = ps.length * 3 ∧ ∀ j, j < ps.length → xs[j * 3]? = some (.int .i64 (ps.getD j ptr0).size) ∧ xs[j * 3 + 1]? = some (.int .i64 (ps.getD j ptr0).sum) ∧ ∃ u, xs[j * 3 + 2]? = some u ∧ IsSl u ∧ G u (ps.getD j ptr0).places
theorem PtRowG.nil (G : Value → List PlD → Prop) : PtRowG G [] [] := ⟨rfl, fun j hj => by simp at hj⟩
theorem PtRowG.append {G : Value → List PlD → Prop} {ps qs : List PtrD} {xs ys : List Value} (h : PtRowG G ps xs) (k : PtRowG G qs ys) : PtRowG G (ps ++ qs) (xs ++ ys) := by
  refine ⟨by rw [List.length_append, List.length_append, h.1, k.1]; omega, fun j hj => ?_⟩
  rw [List.length_append] at hj
  have hx := h.1
  by_cases hjp : j < ps.length
  · obtain ⟨h1, h2, u, h3, h4⟩ := h.2 j hjp
    rw [getD_append_left _ _ _ _ hjp, List.getElem?_append_left (by omega), List.getElem?_append_left (by omega), List.getElem?_append_left (by omega)]
    exact ⟨h1, h2, u, h3, h4⟩
  · obtain ⟨h1, h2, u, h3, h4⟩ := k.2 (j - ps.length) (by omega)
    rw [getD_append_right _ _ _ _ (by omega), List.getElem?_append_right (by omega), List.getElem?_append_right (by omega), List.getElem?_append_right (by omega), hx,
      show j * 3 - ps.length * 3 = (j - ps.length) * 3 by omega, show j * 3 + 1 - ps.length * 3 = (j - ps.length) * 3 + 1 by omega, show j * 3 + 2 - ps.length * 3 = (j - ps.length) * 3 + 2 by omega]
    exact ⟨h1, h2, u, h3, h4⟩
theorem PtRowG.oneCell {G : Value → List PlD → Prop} {ps : List PtrD} {xs : List Value} (h : PtRowG G ps xs) : ∀ v ∈ xs, v.oneCell' = true := by
  intro v hv
  obtain ⟨i, hi, rfl⟩ := List.getElem_of_mem hv
  have hx := h.1
  obtain ⟨h1, h2, u, h3, ⟨a, n, cap, rfl⟩, _⟩ := h.2 (i / 3) (by omega)
  have hm : i % 3 < 3 := Nat.mod_lt _ (by omega)
  rcases (show i % 3 = 0 ∨ i % 3 = 1 ∨ i % 3 = 2 by omega) with e | e | e
  · rw [show i / 3 * 3 = i by omega, List.getElem?_eq_getElem hi] at h1
    injection h1 with h1; rw [h1]; rfl
  · rw [show i / 3 * 3 + 1 = i by omega, List.getElem?_eq_getElem hi] at h2
    injection h2 with h2; rw [h2]; rfl
  · rw [show i / 3 * 3 + 2 = i by omega, List.getElem?_eq_getElem hi] at h3
    injection h3 with h3; rw [h3]; rfl
/-- The cells of pointers that lie in memory. -/
theorem ptRowG_of {G : Value → List PlD → Prop} {w : World} {b off : Nat} {ps : List PtrD} (h : PtrsG w G (some ⟨b, off, none⟩) ps) : ∃ xs, PtRowG G ps xs ∧ ∀ j u, xs[j]? = some u → w.cell? ((⟨b, off, none⟩ : Addr).add j) = some u := by
  rcases h with rfl | ⟨b', off', e, hc⟩
  · exact ⟨[], PtRowG.nil G, fun j u h => by simp at h⟩
  · injection e with e
    injection e with e1 e2
    subst e1
    subst e2
    have hs : ∀ i, i < ps.length * 3 → ∃ v, w.cell? ⟨b, off + i, none⟩ = some v := fun i hi => by
      obtain ⟨h1, h2, u, h3, _⟩ := hc (i / 3) (by omega)
      rcases (show i % 3 = 0 ∨ i % 3 = 1 ∨ i % 3 = 2 by omega) with e | e | e
      · exact ⟨_, by rw [show off + i = off + i / 3 * 3 by omega]; exact h1⟩
      · exact ⟨_, by rw [show off + i = off + i / 3 * 3 + 1 by omega]; exact h2⟩
      · exact ⟨_, by rw [show off + i = off + i / 3 * 3 + 2 by omega]; exact h3⟩
    have hg : ∀ i, i < ps.length * 3 → ((List.range (ps.length * 3)).map fun i => (w.cell? ⟨b, off + i, none⟩).getD undef)[i]? = w.cell? ⟨b, off + i, none⟩ := fun i hi => by
      rw [List.getElem?_map, List.getElem?_range hi]
      obtain ⟨v, hv⟩ := hs i hi
      simp [hv]
    refine ⟨(List.range (ps.length * 3)).map fun i => (w.cell? ⟨b, off + i, none⟩).getD undef, ⟨by simp, fun j hj => ?_⟩, fun j u hu => ?_⟩
    · obtain ⟨h1, h2, u, h3, h4⟩ := hc j hj
      rw [hg _ (by omega), hg _ (by omega), hg _ (by omega)]
      exact ⟨h1, by rw [← Nat.add_assoc]; exact h2, u, by rw [← Nat.add_assoc]; exact h3, h4⟩
    · have hj : j < ps.length * 3 := by have := (List.getElem?_eq_some_iff.1 hu).1; simpa using this
      rw [hg j hj] at hu
      have e : (⟨b, off, none⟩ : Addr).add j = ⟨b, off + j, none⟩ := by
        unfold Addr.add
        by_cases e : j = 0
        · subst e; rfl
        · rw [if_neg e]
      rw [e]; exact hu

set_option maxRecDepth 100000 in
set_option maxHeartbeats 2000000 in
theorem l2All_G (G : Value → List PlD → Prop) (t : Int) (a : Option Addr) (cap : Nat) (vs : List VolD) (w : World) (hT : Hid (Threes vs)) (hx : Hid (VolsG w G a vs)) :
    Calls Tryz.prog 75 #[.agg #[.int .i64 t, .slice a vs.length cap]] w fun e w' => ∃ v xs, e = .returned v ∧ w'.ownsRow w.heap.size 54 3 v (allOf vs).length xs ∧ PtRowG G (allOf vs) xs ∧ Below w.heap.size w w' := by
  obtain ⟨i0, hi0, hz0, hz1, hz2⟩ := info_parts infoPt
  have hn := hT.out.1
  have hB0 : Below w.heap.size w (w.alloc (.cells #[.int .i64 t, .slice a vs.length cap] 25)) := (Below.refl _ _).alloc (Nat.le_refl _) _
  have HB0 := Lib.hid hB0
  have Hc : Hid ((w.alloc (.cells #[.int .i64 t, .slice a vs.length cap] 25)).cell? ⟨w.heap.size, 1, none⟩ = some (.slice a vs.length cap)) := by
    show (w.alloc (.cells #[.int .i64 t, .slice a vs.length cap] 25)).cell? ⟨w.heap.size, 1, none⟩ = _
    rw [World.cell?_alloc_mark]; rfl
  have hs1 : (w.alloc (.cells #[.int .i64 t, .slice a vs.length cap] 25)).heap.size = w.heap.size + 1 := by simp
  have Hs1 := Lib.hid hs1
  clear hB0 hs1
  go_enter Tryz.func75, Tryz.ntmps75
  go_wp2_with fail
  generalize w.alloc (.cells #[.int .i64 t, .slice a vs.length cap] 25) = w1 at HB0 Hc Hs1 ⊢
  have Hown0 := Lib.hid (World.ownsRow_made (e := 54) (size := 3) w1 #[] 0 (Nat.le_refl _) (by simp [maxLen]) (by simp))
  have HBm : Hid (Below w1.heap.size w1 (w1.alloc (.cells #[] 54))) := (Below.refl _ _).alloc (Nat.le_refl _) _
  rw [← Hs1.out]
  go_loopw [3, 4] (fun o i wr => ∃ k : Nat, i = .int .i64 (k : Int) ∧ k ≤ vs.length ∧ Hid (Below w1.heap.size w1 wr) ∧ Hid (∃ xs, wr.ownsRow w1.heap.size 54 3 o (k * 3) xs ∧ PtRowG G (allTo vs k) xs)) (fun _ i _ => vs.length - (intOf i).toNat)
  case atStart => exact ⟨0, rfl, by omega, HBm, [], Hown0.out, PtRowG.nil _⟩
  case round =>
    obtain ⟨k, rfl, hk, hB, hO⟩ := hrel
    have cb := cell_below hB.out Hc.out
    have HBw := Lib.hid (HB0.out.trans (hB.out.mono HB0.out.size))
    by_cases hlt : k < vs.length
    · obtain ⟨b, off, rfl, hc⟩ := hx.out.resolve_left (fun e => by subst e; simp at hlt)
      obtain ⟨a1, cap1, c1, hat1⟩ := hc k hlt
      have h3 := hT.out.2 k hlt
      have Hs := Lib.hid (allTo_succ vs k hlt)
      clear hc
      generalize vs.getD k vol0 = q at c1 hat1 h3 Hs
      obtain ⟨nm, qs⟩ := q
      simp only at c1 hat1 h3 Hs
      rw [h3] at c1
      obtain ⟨b1, o1, rfl, _⟩ := hat1.resolve_left (fun e => by subst e; simp at h3)
      obtain ⟨xs, hown, hrow⟩ := hO.out
      obtain ⟨news, hnrow, hnew0⟩ := ptRowG_of hat1
      have hnews : ∀ j u, news[j]? = some u → wr.cell? ((⟨b1, o1, none⟩ : Addr).add j) = some u := fun j u h => by
        have := hnew0 j u h
        exact (HBw.out.cell (World.block_lt_of_cell? w _ this)).trans this
      have hnl : news.length = 9 := by have := hnrow.1; rw [h3] at this; exact this
      have HR : Hid (PtRowG G (allTo vs (k + 1)) (xs ++ news)) := by rw [Hs.out]; exact hrow.append hnrow
      have Hlk : Hid (∀ i, u3.ownBlock = some i → w1.heap.size ≤ i) := fun i e => (hown.lt i e).1
      have hsz : w1.heap.size ≤ wr.heap.size := hB.out.size
      have hone := hnrow.oneCell
      have c1' := cell_below HBw.out c1
      clear hrow hO hnew0 hat1 h3 hnrow c1
      have HX : Hid (∀ w4 : World, wr.grownBy w4 u3.ownBlock → Below w1.heap.size w1 w4) := fun w4 hg => hB.out.grown hg hB.out.size Hlk.out
      go_wp2_with (at_builtin; refine wpList_append_lies _ rfl _ _ 49 rfl w1.heap.size 54 i0 _ 3 40 Tryz.underlying49 hi0 hz0 hz1 hz2 rfl (by omega) _ (k * 3) xs rfl hown ⟨b1, o1, none⟩ 3 cap1 news rfl hnl hnews hone (by omega) (by simp [maxLen]; omega) (by omega) (by omega) _ rfl ?_; intro g cap w4 hown4 hgrow4 hat4 hlt4)
      exact ⟨⟨k + 1, by go_num, by omega, HX.out w4 hgrow4, xs ++ news, by rw [show (k + 1) * 3 = k * 3 + 3 by omega]; exact hown4, HR.out⟩, by simp [intOf]; omega⟩
    · obtain rfl : k = vs.length := by omega
      go_wp2
      go_ret
      obtain ⟨xs, hown, hrow⟩ := hO.out
      refine ⟨_, xs, rfl, ?_, ?_, HBw.out⟩
      · rw [← allTo_all vs vs.length (Nat.le_refl _), allTo_length hT.out _ (Nat.le_refl _)]; exact own_mono hown HB0.out.size
      · rw [← allTo_all vs vs.length (Nat.le_refl _)]; exact hrow

/-- A block of cells of a type. -/
def IsT (w : World) (b : Nat) (T : TypeId) : Prop := ∃ cur, w.heap[b]? = some (.cells cur T (0, 0))
theorem IsT.one {w : World} {b : Nat} {T T' : TypeId} (h : IsT w b T) (k : IsT w b T') : T = T' := by
  obtain ⟨c, h⟩ := h
  obtain ⟨c', k⟩ := k
  rw [h] at k
  injection k with k
  injection k with _ k _
theorem IsT.lt {w : World} {b : Nat} {T : TypeId} (h : IsT w b T) : b < w.heap.size := by obtain ⟨c, h⟩ := h; exact (Array.getElem?_eq_some_iff.1 h).1
theorem IsT.kept {w w' : World} {b : Nat} {T : TypeId} {r : Option Nat} (h : IsT w b T) (hg : w.grownBy w' r) (hne : some b ≠ r) : IsT w' b T := by
  obtain ⟨c, h'⟩ := h
  exact ⟨c, (hg.block b (IsT.lt ⟨c, h'⟩) hne).trans h'⟩
theorem IsT.of_own {w : World} {base K : Nat} {T : TypeId} {g n cap : Nat} {xs : List Value} (h : w.ownsRow base T K (.slice (some ⟨g, 0, none⟩) n cap) n xs) : IsT w g T := by
  rcases h.2 with ⟨hv, _⟩ | ⟨g', cap', cur, hv, _, hg, _⟩
  · cases hv
  · cases hv; exact ⟨_, hg⟩
/-- WHAT MAY TURN: of the blocks from lo on only one of pointers, not below hi. -/
def Fr (w : World) (lo hi : Nat) (r : Option Nat) : Prop := ∀ b, r = some b → lo ≤ b → IsT w b 54 ∧ hi ≤ b

/-- PLACES in memory of their type, from lo on. -/
def TPl (w : World) (lo : Nat) (v : Value) (ps : List PlD) : Prop :=
  ∃ a cap, v = .slice a ps.length cap ∧ ps.length ≤ cap ∧ (cap ≤ maxLen ∧ ps.length ≤ 10) ∧ (ps = [] ∨ ∃ b off, a = some ⟨b, off, none⟩ ∧ lo ≤ b ∧ IsT w b 83 ∧ ∀ j, j < ps.length → w.cell? ⟨b, off + j * 2, none⟩ = some (.int .i64 (ps.getD j pl0).1) ∧ w.cell? ⟨b, off + j * 2 + 1, none⟩ = some (.int .i64 (ps.getD j pl0).2))
theorem TPl.reads {w : World} {lo : Nat} {v : Value} {ps : List PlD} (h : TPl w lo v ps) : PlacesV w v ps := by
  obtain ⟨a, cap, e, h1, h2, h3⟩ := h
  refine ⟨a, cap, e, h1, h2.1, ?_⟩
  rcases h3 with h | ⟨b, off, e, _, _, hc⟩
  · exact .inl h
  · exact .inr ⟨b, off, e, hc⟩
theorem TPl.nil (w : World) (lo : Nat) : TPl w lo (.slice none 0 0) [] := ⟨none, 0, rfl, Nat.le_refl _, ⟨by simp [maxLen], by simp⟩, .inl rfl⟩
theorem TPl.len {w : World} {lo : Nat} {v : Value} {ps : List PlD} (h : TPl w lo v ps) : ps.length ≤ 10 := by obtain ⟨_, _, _, _, h2, _⟩ := h; exact h2.2
theorem TPl.sl {w : World} {lo : Nat} {v : Value} {ps : List PlD} (h : TPl w lo v ps) : IsSl v := by obtain ⟨a, cap, e, _⟩ := h; exact ⟨_, _, _, e⟩
theorem TPl.kept {w w' : World} {lo hi : Nat} {v : Value} {ps : List PlD} {r : Option Nat} (h : TPl w lo v ps) (hg : w.grownBy w' r) (hr : Fr w lo hi r) : TPl w' lo v ps := by
  obtain ⟨a, cap, e, h1, h2, h3⟩ := h
  refine ⟨a, cap, e, h1, h2, ?_⟩
  rcases h3 with h | ⟨b, off, e, hb, ht, hc⟩
  · exact .inl h
  · have hne : some b ≠ r := fun e => by have := (hr b e.symm hb).1.one ht; simp at this
    exact .inr ⟨b, off, e, hb, ht.kept hg hne, fun j hj => ⟨hg.cell (hc j hj).1 hne, hg.cell (hc j hj).2 hne⟩⟩
theorem OwnPl.typed {w : World} {base lo : Nat} {v : Value} {ps : List PlD} (h : OwnPl w base v ps) (hb : lo ≤ base) (hl : ps.length ≤ 10) : TPl w lo v ps := by
  have hr := h.reads
  obtain ⟨a, cap, e, h1, h2, h3⟩ := hr
  refine ⟨a, cap, e, h1, ⟨h2, hl⟩, ?_⟩
  rcases h3 with h3 | ⟨b, off, e3, hc⟩
  · exact .inl h3
  · rcases h.2 with ⟨hv, hk⟩ | ⟨g, c, cur, hv, hbg, hg, _⟩
    · exact .inl (List.eq_nil_of_length_eq_zero hk)
    · rw [hv, e3] at e
      cases e
      exact .inr ⟨b, 0, e3, by omega, ⟨_, hg⟩, hc⟩

/-- POINTERS in memory of their type, from lo on, below hi. -/
def TPt (w : World) (lo hi : Nat) (u : Value) (bs : List PtrD) : Prop :=
  ∃ a c, u = .slice a bs.length c ∧ bs.length ≤ c ∧ c ≤ maxLen ∧ (bs = [] ∨ ∃ b, a = some ⟨b, 0, none⟩ ∧ lo ≤ b ∧ b < hi ∧ IsT w b 54 ∧ ∀ j, j < bs.length → w.cell? ⟨b, 0 + j * 3, none⟩ = some (.int .i64 (bs.getD j ptr0).size) ∧ w.cell? ⟨b, 0 + j * 3 + 1, none⟩ = some (.int .i64 (bs.getD j ptr0).sum) ∧
    ∃ v, w.cell? ⟨b, 0 + j * 3 + 2, none⟩ = some v ∧ TPl w lo v (bs.getD j ptr0).places)
theorem TPt.reads {w : World} {lo hi : Nat} {u : Value} {bs : List PtrD} (h : TPt w lo hi u bs) : PtrsV w u bs := by
  obtain ⟨a, c, e, h1, h2, h3⟩ := h
  refine ⟨a, c, e, h1, h2, ?_⟩
  rcases h3 with h | ⟨b, e, _, _, _, hc⟩
  · exact .inl h
  · refine .inr ⟨b, 0, e, fun j hj => ?_⟩
    obtain ⟨q0, q1, v, q2, hv⟩ := hc j hj
    exact ⟨q0, q1, v, q2, hv.reads⟩
theorem TPt.typed {w : World} {lo hi : Nat} {a : Option Addr} {n c : Nat} {bs : List PtrD} (h : TPt w lo hi (.slice a n c) bs) : n = bs.length ∧ PtrsG w (TPl w lo) a bs := by
  obtain ⟨a', c', e, h1, h2, h3⟩ := h
  cases e
  refine ⟨rfl, ?_⟩
  rcases h3 with h | ⟨b, e, _, _, _, hc⟩
  · exact .inl h
  · refine .inr ⟨b, 0, e, fun j hj => ?_⟩
    obtain ⟨q0, q1, v, q2, hv⟩ := hc j hj
    exact ⟨q0, q1, v, q2, hv.sl, hv⟩
theorem TPt.kept {w w' : World} {lo hi : Nat} {u : Value} {bs : List PtrD} {r : Option Nat} (h : TPt w lo hi u bs) (hg : w.grownBy w' r) (hr : Fr w lo hi r) : TPt w' lo hi u bs := by
  obtain ⟨a, c, e, h1, h2, h3⟩ := h
  refine ⟨a, c, e, h1, h2, ?_⟩
  rcases h3 with h | ⟨b, e, hb, hb', ht, hc⟩
  · exact .inl h
  · have hne : some b ≠ r := fun e => by have := (hr b e.symm hb).2; omega
    refine .inr ⟨b, e, hb, hb', ht.kept hg hne, fun j hj => ?_⟩
    obtain ⟨q0, q1, v, q2, hv⟩ := hc j hj
    exact ⟨hg.cell q0 hne, hg.cell q1 hne, v, hg.cell q2 hne, hv.kept hg hr⟩
theorem TPt.wide {w : World} {lo hi hi' : Nat} {u : Value} {bs : List PtrD} (h : TPt w lo hi u bs) (hh : hi ≤ hi') : TPt w lo hi' u bs := by
  obtain ⟨a, c, e, h1, h2, h3⟩ := h
  refine ⟨a, c, e, h1, h2, ?_⟩
  rcases h3 with h | ⟨b, e, hb, hb', rest⟩
  · exact .inl h
  · exact .inr ⟨b, e, hb, by omega, rest⟩

/-- VOLUMES IN A ROW OF ONE's OWN. -/
def VoRowT (w : World) (lo hi : Nat) (vs : List VolD) (xs : List Value) : Prop :=
  ∀ j, j < vs.length → xs[j * 2]? = some (.string (vs.getD j vol0).name) ∧ (vs.getD j vol0).name.size ≤ 3 ∧ ∃ u, xs[j * 2 + 1]? = some u ∧ TPt w lo hi u (vs.getD j vol0).blocks ∧ (vs.getD j vol0).blocks.length = 3
def OV (w : World) (lo hi : Nat) (o : Value) (vs : List VolD) : Prop := ∃ xs, w.ownsRow lo 51 2 o vs.length xs ∧ VoRowT w lo hi vs xs
theorem VoRowT.kept {w w' : World} {lo hi : Nat} {vs : List VolD} {xs : List Value} {r : Option Nat} (h : VoRowT w lo hi vs xs) (hg : w.grownBy w' r) (hr : Fr w lo hi r) : VoRowT w' lo hi vs xs := fun j hj => by
  obtain ⟨q0, q1, u, q2, hu, h3⟩ := h j hj
  exact ⟨q0, q1, u, q2, hu.kept hg hr, h3⟩
theorem VoRowT.wide {w : World} {lo hi hi' : Nat} {vs : List VolD} {xs : List Value} (h : VoRowT w lo hi vs xs) (hh : hi ≤ hi') : VoRowT w lo hi' vs xs := fun j hj => by
  obtain ⟨q0, q1, u, q2, hu, h3⟩ := h j hj
  exact ⟨q0, q1, u, q2, hu.wide hh, h3⟩
theorem OV.kept {w w' : World} {lo hi : Nat} {o : Value} {vs : List VolD} {r : Option Nat} (h : OV w lo hi o vs) (hg : w.grownBy w' r) (hr : Fr w lo hi r) : OV w' lo hi o vs := by
  obtain ⟨xs, ho, hx⟩ := h
  refine ⟨xs, ho.kept hg ?_, hx.kept hg hr⟩
  rcases ho.2 with ⟨rfl, _⟩ | ⟨g, cap, cur, rfl, hb, hgg, _⟩
  · exact .inl rfl
  · exact .inr (fun e => by have := (hr g e.symm hb).1.one ⟨_, hgg⟩; simp at this)
theorem OV.wide {w : World} {lo hi hi' : Nat} {o : Value} {vs : List VolD} (h : OV w lo hi o vs) (hh : hi ≤ hi') : OV w lo hi' o vs := by
  obtain ⟨xs, ho, hx⟩ := h
  exact ⟨xs, ho, hx.wide hh⟩
theorem OV.threes {w : World} {lo hi : Nat} {o : Value} {vs : List VolD} (h : OV w lo hi o vs) (h4 : vs.length ≤ 4) : Threes vs := by
  obtain ⟨xs, ho, hx⟩ := h
  exact ⟨h4, fun j hj => by obtain ⟨_, _, _, _, _, h3⟩ := hx j hj; exact h3⟩
theorem OV.slice {w : World} {lo hi : Nat} {o : Value} {vs : List VolD} (h : OV w lo hi o vs) : ∃ a c, o = .slice a vs.length c ∧ vs.length ≤ c ∧ c ≤ maxLen := by
  obtain ⟨xs, ho, _⟩ := h
  rcases ho.2 with ⟨rfl, hn⟩ | ⟨g, cap, cur, rfl, _, _, hk, hm, _⟩
  · exact ⟨none, 0, by rw [hn], by omega, by simp [maxLen]⟩
  · exact ⟨_, cap, rfl, hk, hm⟩
theorem OV.cells {w : World} {lo hi : Nat} {a : Option Addr} {c : Nat} {vs : List VolD} (h : OV w lo hi (.slice a vs.length c) vs) : vs = [] ∨ ∃ b, a = some ⟨b, 0, none⟩ ∧ ∀ j, j < vs.length → w.cell? ⟨b, 0 + j * 2, none⟩ = some (.string (vs.getD j vol0).name) ∧ ∃ u, w.cell? ⟨b, 0 + j * 2 + 1, none⟩ = some u ∧ TPt w lo hi u (vs.getD j vol0).blocks := by
  obtain ⟨xs, ho, hx⟩ := h
  have ho' := ho
  rcases ho.2 with ⟨hv, hn⟩ | ⟨g, cap, cur, hv, _⟩
  · exact .inl (List.eq_nil_of_length_eq_zero hn)
  · cases hv
    refine .inr ⟨g, rfl, fun j hj => ?_⟩
    obtain ⟨q0, _, u, q2, hu, _⟩ := hx j hj
    rw [Nat.zero_add]
    exact ⟨(own_cell ho' (j * 2) (by omega)).1.trans q0, u, (own_cell ho' (j * 2 + 1) (by omega)).1.trans q2, hu⟩
theorem OV.reads {w : World} {lo hi : Nat} {o : Value} {vs : List VolD} (h : OV w lo hi o vs) : VolsV w o vs := by
  obtain ⟨a, c, rfl, h1, h2⟩ := h.slice
  refine ⟨a, c, rfl, h1, h2, ?_⟩
  rcases h.cells with h | ⟨b, e, hc⟩
  · exact .inl h
  · refine .inr ⟨b, 0, e, fun j hj => ?_⟩
    obtain ⟨q0, u, q1, hu⟩ := hc j hj
    exact ⟨q0, u, q1, hu.reads⟩
theorem OV.typed {w : World} {lo hi : Nat} {a : Option Addr} {c : Nat} {vs : List VolD} (h : OV w lo hi (.slice a vs.length c) vs) : VolsG w (TPl w lo) a vs := by
  rcases h.cells with h | ⟨b, e, hc⟩
  · exact .inl h
  · refine .inr ⟨b, 0, e, fun j hj => ?_⟩
    obtain ⟨_, u, q1, hu⟩ := hc j hj
    obtain ⟨a1, c1, rfl, _⟩ := id hu
    exact ⟨a1, c1, q1, hu.typed.2⟩
theorem OV.names {w : World} {lo hi : Nat} {o : Value} {vs : List VolD} (h : OV w lo hi o vs) : ∀ j, j < vs.length → (vs.getD j vol0).name.size ≤ 3 := by
  obtain ⟨xs, ho, hx⟩ := h
  exact fun j hj => (hx j hj).2.1

end Go.Proofs.YtliadobopideaaaGreatDoor

/- Drawn places: a row of one's own, of as many places as were asked for; only the reader's own block turns. Conditions: the reader's place is small. -/
import Derived.Test.YtliadobopideaaaGreatDoorPKW1
import Derived.Test.YtliadobopideaaaGreatDoorPKS5
namespace Go.Proofs.YtliadobopideaaaGreatDoor
open Go.RowKit Go.Sort

theorem news_two (W : World) (a b : Value) (t : TypeId) (H : Nat) (hH : W.heap.size = H) : ∀ j u, [a, b][j]? = some u → (W.alloc (.cells #[a, b] t)).cell? ((⟨H, 0, none⟩ : Addr).add j) = some u := by
  subst hH
  exact World.news_of_block (cs := #[a, b]) (t := t) (fr := (0, 0)) (heap_alloc_new W _)
theorem getD_append_left' {α : Type} (xs ys : List α) (d : α) (j : Nat) (h : j < xs.length) : (xs ++ ys).getD j d = xs.getD j d := by
  rw [List.getD, List.getElem?_append_left h]; rfl
theorem plCells_snoc (ps : List PlD) (q : PlD) : plCells (ps ++ [q]) = plCells ps ++ [.int .i64 q.1, .int .i64 q.2] := by
  refine List.ext_getElem? fun i => ?_
  have hl := plCells_length ps
  by_cases hi : i < ps.length * 2
  · rw [plCells_get _ _ (by rw [List.length_append]; omega), List.getElem?_append_left (by omega), plCells_get _ _ hi]
    unfold plCell
    rw [getD_append_left' _ _ _ _ (by omega)]
  · by_cases h0 : i = ps.length * 2
    · subst h0
      rw [plCells_get _ _ (by rw [List.length_append, List.length_singleton]; omega), plCell_0, List.getElem?_append_right (by omega), hl]
      simp [List.getD]
    · by_cases h1 : i = ps.length * 2 + 1
      · subst h1
        rw [plCells_get _ _ (by rw [List.length_append, List.length_singleton]; omega), plCell_1, List.getElem?_append_right (by omega), hl, show ps.length * 2 + 1 - ps.length * 2 = 1 by omega]
        simp [List.getD]
      · rw [List.getElem?_eq_none (by rw [plCells_length]; simp; omega), List.getElem?_eq_none (by simp [hl]; omega)]

/-- WHAT l71Places ANSWERS. -/
def Placed (n₀ B p m : Nat) (w : World) (e : Ending) (w' : World) : Prop :=
  ∃ (v : Value) (ps : List PlD) (q : Nat), e = .returned v ∧ OwnPl w' w.heap.size v ps ∧ ps.length = m ∧ q ≤ p + 1 + m ∧ Rd n₀ B q w' ∧ w.grownBy w' (some B)

set_option maxHeartbeats 400000 in
theorem l71Disks_any (n₀ B p : Nat) (w : World) (hp : p ≤ 900000) (hR : Rd n₀ B p w) :
    Calls Tryz.prog 38 #[.pointer (some ⟨B, 0, none⟩)] w fun e w' => ∃ n : Int, e = .returned (.int .i64 n) ∧ Pool n ∧ Rd n₀ B (p + 1) w' ∧ w.grownBy w' (some B) := by
  go_enter Tryz.func38, Tryz.ntmps38
  go_wp2_with fail
  refine (pick_any n₀ B p 2 _ (by omega) hR).mono ?_
  rintro e w1 ⟨v, rfl, hv0, hvn, hR1, hg1⟩
  have hv2 := hvn (by omega)
  have HR := Lib.hid hR1
  have HG := Lib.hid hg1
  clear hvn hR1 hg1
  go_wp2
  go_ret
  exact ⟨3 + v, rfl, ⟨by omega, by omega⟩, HR.out, HG.out⟩

set_option maxRecDepth 100000 in
set_option maxHeartbeats 4000000 in
theorem l71Places_any (n₀ B p m : Nat) (n : Int) (w : World) (hp : p ≤ 900000) (hm : m ≤ 10) (hn : Pool n) (hR : Rd n₀ B p w) :
    Calls Tryz.prog 106 #[.pointer (some ⟨B, 0, none⟩), .int .i64 n, .int .i64 (m : Int)] w (Placed n₀ B p m w) := by
  obtain ⟨hn1, hn2⟩ := hn
  obtain ⟨i0, hi0, hz0, hz1, hz2⟩ := info_parts infoPl
  have hBlt := hR.lt
  have hn0 : n ≠ 0 := by omega
  go_enter Tryz.func106, Tryz.ntmps106
  go_wp2_with fail
  refine (pick_any n₀ B p _ _ (by omega) (hR.alloc _)).mono ?_
  rintro e w1 ⟨v, rfl, hv0, hvn, hR1, hg1⟩
  have hvm : v ≤ 3 := by have := hvn (by omega); omega
  clear hvn
  have hown0 : w1.ownsRow w.heap.size 83 2 (.slice (some ⟨w.heap.size, 0, none⟩) 0 0) 0 [] := (World.ownsRow_made w #[] 0 (Nat.le_refl _) (by simp [maxLen]) (by simp)).kept hg1 (.inr (by simp [Value.ownBlock]; omega))
  have hgw : w.grownBy w1 (some B) := (World.grownBy_alloc w _ _).trans hg1
  go_wp2_with fail
  go_loopw [7, 9] (fun s i wr => ∃ (k : Nat) (ps : List PlD), i = .int .i64 (k : Int) ∧ k ≤ m ∧ ps.length = k ∧ wr.ownsRow w.heap.size 83 2 s k (plCells ps) ∧ Rd n₀ B (p + 1 + k) wr ∧ w.grownBy wr (some B))
    (fun _ i _ => m - (intOf i).toNat)
  case atStart => exact ⟨0, [], rfl, by omega, rfl, hown0, hR1, hgw⟩
  case round =>
    obtain ⟨k, ps, rfl, hkm, hpl, hown, hRk, hgk⟩ := hrel
    have Hpl := Lib.hid hpl
    clear hpl
    have hsz : w.heap.size ≤ wr.heap.size := hgk.size
    by_cases hj : k < m
    · have hnb : u7.ownBlock = none ∨ u7.ownBlock ≠ some B := .inr (fun e => by have := (hown.lt B e).1; omega)
      have hbk : ∀ i, u7.ownBlock = some i → B < i := fun i e => by have := (hown.lt i e).1; omega
      go_wp2_with fail
      go_region_law (first
        | (refine step_append_lies _ (by rfl) _ _ _ (by rfl) w.heap.size 83 i0 _ 2 16 Tryz.underlying52 hi0 hz0 hz1 hz2 rfl (by omega) u7 k (plCells ps) (by rfl) ?_ ⟨_, 0, none⟩ 1 1 [.int .i64 ((IntKind.i64.wrap (v + (k : Int))).tmod n), .int .i64 v2] (by rfl) (by rfl)
              (news_two _ _ _ 83 _ (by simp)) (by simp [Value.oneCell']) (by omega) (by simp [maxLen]; omega) (by omega) ?_ _ rfl ?_; exact ho2.alloc _; (have q2 := hg2.size; simp at q2 ⊢; omega); intro g cap w4 hown4 hgrow4 hat4 hlt4)
        | (go_simp; go_at_call 40; refine (pick_any n₀ B (p + 1 + k) 12 _ (by omega) hRk.drew).mono ?_; rintro e w2 ⟨v2, rfl, hv20, hv2n, hR2, hg2⟩; have ho2 := (hown.drew).kept hg2 hnb; have hgw2 := (grownBy_drew1 hgk).trans hg2))
      all_goals
        have HN : Hid (w4.ownsRow w.heap.size 83 2 (Value.slice (some ⟨g, 0, none⟩) (k + 1) cap) (k + 1) (plCells (ps ++ [((IntKind.i64.wrap (v + (k : Int))).tmod n, v2)]))) := by rw [plCells_snoc]; exact hown4
        have HRn : Hid (Rd n₀ B (p + 1 + (k + 1)) w4) := by rw [show p + 1 + (k + 1) = p + 1 + k + 1 by omega]; exact (hR2.alloc _).kept hgrow4 hbk
        have HGn : Hid (w.grownBy w4 (some B)) := (hgw2.trans (World.grownBy_alloc w2 _ _)).andThen hgrow4 (fun i e => .inl (hown.lt i e).1)
        clear hown4 hgrow4 hat4 ho2 hg2 hgw2 hR2 hv2n hown hRk hgk hnb hbk
        go_wp2
        go_roundw
      all_goals first
        | exact ⟨k + 1, ps ++ [((IntKind.i64.wrap (v + (k : Int))).tmod n, v2)], by go_num, by omega, by rw [List.length_append, Hpl.out]; rfl, HN.out, HRn.out, HGn.out⟩
        | (simp [intOf]; omega)
    · go_wp2
      go_ret
      exact ⟨_, ps, p + 1 + k, rfl, by unfold OwnPl; rw [Hpl.out]; exact hown, by rw [Hpl.out]; omega, by omega, hRk, hgk⟩

theorem grown_cell {w w' : World} {r : Option Nat} (hg : w.grownBy w' r) (p o : Nat) (hlt : p < w.heap.size) (hne : some p ≠ r) : w'.cell? ⟨p, o, none⟩ = w.cell? ⟨p, o, none⟩ ∧ w'.frozen? ⟨p, o, none⟩ = w.frozen? ⟨p, o, none⟩ := by
  have hb := hg.block p hlt hne
  refine ⟨World.cell?_of_block hb, ?_⟩
  unfold World.frozen?
  simp only [hb]

/-- WHAT l71Ptr ANSWERS: a pointer with places of its own. -/
def PtrDrawn (n₀ B p m : Nat) (w : World) (e : Ending) (w' : World) : Prop :=
  ∃ (d : PtrD) (v : Value) (q : Nat), e = .returned (.agg #[.int .i64 d.size, .int .i64 d.sum, v]) ∧ OwnPl w' w.heap.size v d.places ∧ 2 ≤ d.places.length ∧ d.places.length ≤ 10 ∧ q ≤ p + m ∧ Rd n₀ B q w' ∧ w.grownBy w' (some B)

set_option maxRecDepth 100000 in
set_option maxHeartbeats 1000000 in
theorem l11Ptr_any (s : ByteArray) (a : Option Addr) (cap : Nat) (ps : List PlD) (w : World) (hs : s.size ≤ 1000) (h0 : 0 < ps.length) (hl : ps.length ≤ 10) (hcm : ps.length ≤ cap) (hx : Hid (PlacesAt w a ps)) :
    Calls Tryz.prog 105 #[.string s, .slice a ps.length cap] w fun e w' => ∃ v, e = .returned (.agg #[.int .i64 (s.size : Int), .int .i64 (sumOf s), v]) ∧ OwnPl w' w.heap.size v ps ∧ Below w.heap.size w w' := by
  obtain ⟨i0, hi0, hz0, hz1, hz2⟩ := info_parts infoPl
  obtain ⟨b, off, rfl, hc⟩ := hx.out.resolve_left (fun e => by subst e; simp at h0)
  have Hc := Lib.hid hc
  clear hc
  go_enter Tryz.func105, Tryz.ntmps105
  go_wp2_with fail
  refine (specSum_any s (by unfold maxLen; omega) _).mono ?_
  rintro e w1 ⟨rfl, rfl⟩
  generalize hsm : sumOf s = sm
  have Hsm := Lib.hid hsm
  clear hsm
  have hB1 : Below w.heap.size w ((w.alloc (.cells #[.int .i64 0, .int .i64 0, .slice none 0 0] 54)).alloc (.cells #[] 83)) := ((Below.refl _ w).alloc (Nat.le_refl _) _).alloc (by simp) _
  have hnews : ∀ j u, (plCells ps)[j]? = some u → ((w.alloc (.cells #[.int .i64 0, .int .i64 0, .slice none 0 0] 54)).alloc (.cells #[] 83)).cell? ((⟨b, off, none⟩ : Addr).add j) = some u := fun j u h => by
    have hj : j < ps.length * 2 := by have := (List.getElem?_eq_some_iff.1 h).1; rw [plCells_length] at this; exact this
    rw [plCells_get _ _ hj] at h
    injection h with h
    subst h
    have e : (⟨b, off, none⟩ : Addr).add j = ⟨b, off + j, none⟩ := by
      unfold Addr.add
      by_cases e : j = 0
      · subst e; rfl
      · rw [if_neg e]
    rw [e]
    refine cell_below hB1 ?_
    obtain ⟨h1, h2⟩ := Hc.out (j / 2) (by omega)
    rcases (show j % 2 = 0 ∨ j % 2 = 1 by omega) with hm | hm
    · rw [show j = j / 2 * 2 by omega, plCell_0]; exact h1
    · rw [show j = j / 2 * 2 + 1 by omega, plCell_1, ← Nat.add_assoc]; exact h2
  have hone : ∀ v ∈ plCells ps, v.oneCell' = true := fun v hv => by
    obtain ⟨i, hi, rfl⟩ := List.getElem_of_mem hv
    simp only [plCells, List.getElem_map, plCell]
    split <;> rfl
  have hown : ((w.alloc (.cells #[.int .i64 0, .int .i64 0, .slice none 0 0] 54)).alloc (.cells #[] 83)).ownsRow (w.heap.size + 1) 83 2 (.slice (some ⟨w.heap.size + 1, 0, none⟩) 0 0) 0 [] := by
    have := World.ownsRow_made (e := 83) (size := 2) (w.alloc (.cells #[.int .i64 0, .int .i64 0, .slice none 0 0] 54)) #[] 0 (Nat.le_refl _) (by simp [maxLen]) (by simp)
    simp only [World.size_alloc] at this
    exact this
  have hpl := plCells_length ps
  have HB1 := Lib.hid hB1
  clear hB1
  have HK : Hid (∀ w4 : World, ((w.alloc (.cells #[.int .i64 0, .int .i64 0, .slice none 0 0] 54)).alloc (.cells #[] 83)).grownBy w4 (some (w.heap.size + 1)) → (∀ o, o < 3 → ∃ u, w4.cell? ⟨w.heap.size, o, none⟩ = some u ∧ w4.frozen? ⟨w.heap.size, o, none⟩ = false) ∧ Below w.heap.size w w4) := fun w4 hg => by
    refine ⟨fun o ho => ?_, HB1.out.grown hg (by simp; omega) (fun k e => by cases e; omega)⟩
    have hb : ((w.alloc (.cells #[.int .i64 0, .int .i64 0, .slice none 0 0] 54)).alloc (.cells #[] 83)).heap[w.heap.size]? = some (.cells #[.int .i64 0, .int .i64 0, .slice none 0 0] 54 (0, 0)) := (Below.heap_alloc _ _ _ (by simp)).trans (heap_alloc_new w _)
    have hb4 := (hg.block w.heap.size (by simp; omega) (by simp)).trans hb
    match o, ho with
    | 0, _ => exact ⟨_, by simp only [World.cell?, hb4]; rfl, by simp [World.frozen?, hb4]⟩
    | 1, _ => exact ⟨_, by simp only [World.cell?, hb4]; rfl, by simp [World.frozen?, hb4]⟩
    | 2, _ => exact ⟨_, by simp only [World.cell?, hb4]; rfl, by simp [World.frozen?, hb4]⟩
  go_wp2_with (at_builtin; refine wpList_append_lies _ rfl _ _ 52 rfl (w.heap.size + 1) 83 i0 _ 2 16 Tryz.underlying52 hi0 hz0 hz1 hz2 rfl (by omega) _ 0 [] rfl hown ⟨b, off, none⟩ ps.length cap (plCells ps) rfl hpl hnews hone (by omega) (by simp [maxLen]; omega) (by omega) (by simp) _ rfl ?_; intro g cap4 w4 hown4 hgrow4 hat4 hlt4; obtain ⟨hcs, hB4⟩ := HK.out w4 hgrow4; obtain ⟨y0, r0, f0⟩ := hcs 0 (by omega); obtain ⟨y1, r1, f1⟩ := hcs 1 (by omega); obtain ⟨y2, r2, f2⟩ := hcs 2 (by omega); rw [Nat.zero_add, List.nil_append] at hown4; have HO4 := Lib.hid hown4; have HB4 := Lib.hid hB4; clear hown4 hgrow4 hat4 hcs hB4; rw [Nat.zero_add])
  refine bodyPost_ret (v := .agg #[.int .i64 (s.size : Int), .int .i64 sm, .slice (some ⟨g, 0, none⟩) ps.length cap4]) (by simp [results, Tryz.results105, go_sem, r0, r1, r2]) rfl ⟨.slice (some ⟨g, 0, none⟩) ps.length cap4, by rw [Hsm.out], ?_, ?_⟩
  · exact own_mono (own_far (own_far (own_far HO4.out _ _ _ (by omega)) _ _ _ (by omega)) _ _ _ (by omega)) (by omega)
  · exact ((HB4.out.setCell (p := ⟨w.heap.size, 0, none⟩) (Nat.le_refl _) _).setCell (p := ⟨w.heap.size, 1, none⟩) (Nat.le_refl _) _).setCell (p := ⟨w.heap.size, 2, none⟩) (Nat.le_refl _) _

theorem PtrDrawn.rd {n₀ B q : Nat} {w w' : World} (h : Rd n₀ B q w) (hB : Below w.heap.size w w') : Rd n₀ B q w' :=
  h.kept (r := none) ⟨hB.os, hB.tape, hB.output, hB.size, fun k hk _ => hB.block k hk⟩ (fun k e => by cases e)
theorem grown_below {w w' : World} {r : Option Nat} (hB : Below w.heap.size w w') : w.grownBy w' r := ⟨hB.os, hB.tape, hB.output, hB.size, fun k hk _ => hB.block k hk⟩

/-- A NEW POINTER, all noughts, in a block of its own. -/
def Zeroed (w : World) (g : Nat) : Prop := w.heap[g]? = some (.cells #[.int .i64 0, .int .i64 0, .slice none 0 0] 54 (0, 0))
theorem Zeroed.kept {w w' : World} {g : Nat} {r : Option Nat} (h : Zeroed w g) (hg : w.grownBy w' r) (hlt : g < w.heap.size) (hne : some g ≠ r) : Zeroed w' g := (hg.block g hlt hne).trans h
theorem zeroed {w w' : World} {B : Nat} (hg : (w.alloc (.cells #[.int .i64 0, .int .i64 0, .slice none 0 0] 54)).grownBy w' (some B)) (hB : B < w.heap.size) : Zeroed w' w.heap.size :=
  (hg.block w.heap.size (by simp) (by simp; omega)).trans (heap_alloc_new w _)
theorem Zeroed.cells {w : World} {g : Nat} (h : Zeroed w g) : w.cell? ⟨g, 0, none⟩ = some (.int .i64 0) ∧ w.frozen? ⟨g, 0, none⟩ = false ∧ w.cell? ⟨g, 1, none⟩ = some (.int .i64 0) ∧ w.frozen? ⟨g, 1, none⟩ = false ∧ w.cell? ⟨g, 2, none⟩ = some (.slice none 0 0) ∧ w.frozen? ⟨g, 2, none⟩ = false := by
  unfold Zeroed at h
  exact ⟨by simp only [World.cell?, h]; rfl, by simp [World.frozen?, h], by simp only [World.cell?, h]; rfl, by simp [World.frozen?, h], by simp only [World.cell?, h]; rfl, by simp [World.frozen?, h]⟩

set_option maxRecDepth 100000 in
set_option maxHeartbeats 2000000 in
theorem l71Ptr_any (n₀ B p : Nat) (n : Int) (w : World) (hp : p ≤ 800000) (hn : Pool n) (hR : Rd n₀ B p w) :
    Calls Tryz.prog 74 #[.pointer (some ⟨B, 0, none⟩), .int .i64 n] w (PtrDrawn n₀ B p 40 w) := by
  have Hn := Lib.hid hn
  obtain ⟨hn1, hn2⟩ := hn
  have hBlt := hR.lt
  have hR1 := Lib.hid (hR.alloc (.cells #[.int .i64 0, .int .i64 0, .slice none 0 0] 54))
  have hG1 : Hid (w.grownBy (w.alloc (.cells #[.int .i64 0, .int .i64 0, .slice none 0 0] 54)) (some B)) := World.grownBy_alloc w _ _
  rcases (show n = 3 ∨ n = 4 by omega) with rfl | rfl
  · have HT : Hid (∀ w', Rd n₀ B p w' → Calls Tryz.prog 104 #[.pointer (some ⟨B, 0, none⟩), .int .i64 5] w' (Texted n₀ B p 5 w')) := fun w' hR' => l71Text_any n₀ B p 5 w' (by omega) (by omega) hR'
    clear hR
    go_enter Tryz.func74, Tryz.ntmps74
    go_wp2_with fail
    refine (HT.out _ hR1.out).mono ?_
    rintro e w2 ⟨s, q, rfl, hs, hq, hR2, hg2⟩
    have hsz : (s ++ ⟨#[107]⟩ : ByteArray).size = s.size + 1 := by rw [ByteArray.size_append]; rfl
    have Hsz := Lib.hid hsz
    have HR2 := Lib.hid hR2
    have HG2 := Lib.hid (hG1.out.trans hg2)
    have hw2 : w.heap.size < w2.heap.size := by have := hg2.size; simp at this; omega
    have HZ2 := Lib.hid (zeroed hg2 hBlt)
    clear hsz hR2 hg2
    go_wp2_with fail
    generalize (s ++ ⟨#[107]⟩ : ByteArray) = t at Hsz ⊢
    have hts : t.size ≤ 9 := by have := Hsz.out; omega
    have ht1 : 1 ≤ t.size := by have := Hsz.out; omega
    refine (l2Cols_any ((s.size : Int) + 1) _ (by omega) (by omega)).mono ?_
    rintro e w3 ⟨rfl, rfl⟩
    obtain ⟨c, hc, hc1, hc4⟩ : ∃ c : Nat, ((s.size : Int) + 1 + 2) / 3 + 1 = (c : Int) ∧ 2 ≤ c ∧ c ≤ 4 := ⟨(((s.size : Int) + 1 + 2) / 3 + 1).toNat, by omega, by omega, by omega⟩
    have hdb : 0 ≤ ((s.size : Int) + 1 + 2) / 3 ∧ ((s.size : Int) + 1 + 2) / 3 ≤ 10 := by omega
    have Hc := Lib.hid hc
    clear hc
    generalize ((s.size : Int) + 1 + 2) / 3 = dv at Hc hdb ⊢
    go_wp2_with fail
    rw [Hc.out]
    refine (l71Places_any n₀ B q c 3 _ (by omega) (by omega) Hn.out HR2.out).mono ?_
    rintro e w4 ⟨v4, ps, q4, rfl, ho4, hl4, hq4, hR4, hg4⟩
    have HR4 := Lib.hid hR4
    have HG4 := Lib.hid (HG2.out.trans hg4)
    have hw4 : w2.heap.size ≤ w4.heap.size := hg4.size
    have HZ4 := Lib.hid (HZ2.out.kept hg4 (by omega) (by simp; omega))
    obtain ⟨a4, cap4, rfl, hcl4, hm4, hx4⟩ := ho4.reads
    have HX4 := Lib.hid hx4
    have hl4a : 2 ≤ ps.length := by omega
    have hl4b : ps.length ≤ 4 := by omega
    clear hR4 hg4 ho4 hx4 hl4
    go_wp2_with fail
    refine (l11Ptr_any t a4 cap4 ps _ (by omega) (by omega) (by omega) hcl4 HX4).mono ?_
    rintro e w5 ⟨v5, rfl, ho5, hB5⟩
    obtain ⟨r0, f0, r1, f1, r2, f2⟩ := (HZ4.out.kept (grown_below (r := none) hB5) (by omega) (by simp)).cells
    have HO5 := Lib.hid (own_mono ho5 (show w.heap.size + 1 ≤ w4.heap.size by omega))
    have HR5 := Lib.hid (PtrDrawn.rd HR4.out hB5)
    have HG5 := Lib.hid (HG4.out.trans (grown_below hB5))
    obtain ⟨a5, cap5, rfl, _⟩ := ho5.reads
    generalize sumOf t = sm
    clear ho5 hB5
    go_wp2
    refine bodyPost_ret (v := .agg #[.int .i64 (t.size : Int), .int .i64 sm, .slice a5 ps.length cap5]) (by simp [results, Tryz.results74, go_sem, r0, r1, r2]) rfl ⟨⟨(t.size : Int), sm, ps⟩, .slice a5 ps.length cap5, q4, rfl, ?_, hl4a, (show ps.length ≤ 10 by omega), by omega, ?_, ?_⟩
    · exact own_mono (own_far (own_far (own_far HO5.out _ _ _ (by omega)) _ _ _ (by omega)) _ _ _ (by omega)) (by omega)
    · exact ((HR5.out.kept (grownBy_setCellAt _ w.heap.size 0 _) (fun k e => by cases e; omega)).kept (grownBy_setCellAt _ w.heap.size 1 _) (fun k e => by cases e; omega)).kept (grownBy_setCellAt _ w.heap.size 2 _) (fun k e => by cases e; omega)
    · exact ((HG5.out.andThen (grownBy_setCellAt _ w.heap.size 0 _) (fun k e => by cases e; exact .inl (Nat.le_refl _))).andThen (grownBy_setCellAt _ w.heap.size 1 _) (fun k e => by cases e; exact .inl (Nat.le_refl _))).andThen (grownBy_setCellAt _ w.heap.size 2 _) (fun k e => by cases e; exact .inl (Nat.le_refl _))
  · have HT : Hid (∀ w', Rd n₀ B p w' → Calls Tryz.prog 104 #[.pointer (some ⟨B, 0, none⟩), .int .i64 8] w' (Texted n₀ B p 8 w')) := fun w' hR' => l71Text_any n₀ B p 8 w' (by omega) (by omega) hR'
    clear hR
    go_enter Tryz.func74, Tryz.ntmps74
    go_wp2_with fail
    refine (HT.out _ hR1.out).mono ?_
    rintro e w2 ⟨s, q, rfl, hs, hq, hR2, hg2⟩
    have hsz : (s ++ ⟨#[107]⟩ : ByteArray).size = s.size + 1 := by rw [ByteArray.size_append]; rfl
    have Hsz := Lib.hid hsz
    have HR2 := Lib.hid hR2
    have HG2 := Lib.hid (hG1.out.trans hg2)
    have hw2 : w.heap.size < w2.heap.size := by have := hg2.size; simp at this; omega
    have HZ2 := Lib.hid (zeroed hg2 hBlt)
    clear hsz hR2 hg2
    go_wp2_with fail
    generalize (s ++ ⟨#[107]⟩ : ByteArray) = t at Hsz ⊢
    have hts : t.size ≤ 9 := by have := Hsz.out; omega
    have ht1 : 1 ≤ t.size := by have := Hsz.out; omega
    refine (l2Cols_any ((s.size : Int) + 1) _ (by omega) (by omega)).mono ?_
    rintro e w3 ⟨rfl, rfl⟩
    obtain ⟨c, hc, hc1, hc4⟩ : ∃ c : Nat, ((s.size : Int) + 1 + 2) / 3 + 1 = (c : Int) ∧ 2 ≤ c ∧ c ≤ 4 := ⟨(((s.size : Int) + 1 + 2) / 3 + 1).toNat, by omega, by omega, by omega⟩
    have hdb : 0 ≤ ((s.size : Int) + 1 + 2) / 3 ∧ ((s.size : Int) + 1 + 2) / 3 ≤ 10 := by omega
    have Hc := Lib.hid hc
    clear hc
    generalize ((s.size : Int) + 1 + 2) / 3 = dv at Hc hdb ⊢
    go_wp2_with fail
    rw [Hc.out]
    refine (l71Places_any n₀ B q c 4 _ (by omega) (by omega) Hn.out HR2.out).mono ?_
    rintro e w4 ⟨v4, ps, q4, rfl, ho4, hl4, hq4, hR4, hg4⟩
    have HR4 := Lib.hid hR4
    have HG4 := Lib.hid (HG2.out.trans hg4)
    have hw4 : w2.heap.size ≤ w4.heap.size := hg4.size
    have HZ4 := Lib.hid (HZ2.out.kept hg4 (by omega) (by simp; omega))
    obtain ⟨a4, cap4, rfl, hcl4, hm4, hx4⟩ := ho4.reads
    have HX4 := Lib.hid hx4
    have hl4a : 2 ≤ ps.length := by omega
    have hl4b : ps.length ≤ 4 := by omega
    clear hR4 hg4 ho4 hx4 hl4
    go_wp2_with fail
    refine (l11Ptr_any t a4 cap4 ps _ (by omega) (by omega) (by omega) hcl4 HX4).mono ?_
    rintro e w5 ⟨v5, rfl, ho5, hB5⟩
    obtain ⟨r0, f0, r1, f1, r2, f2⟩ := (HZ4.out.kept (grown_below (r := none) hB5) (by omega) (by simp)).cells
    have HO5 := Lib.hid (own_mono ho5 (show w.heap.size + 1 ≤ w4.heap.size by omega))
    have HR5 := Lib.hid (PtrDrawn.rd HR4.out hB5)
    have HG5 := Lib.hid (HG4.out.trans (grown_below hB5))
    obtain ⟨a5, cap5, rfl, _⟩ := ho5.reads
    generalize sumOf t = sm
    clear ho5 hB5
    go_wp2
    refine bodyPost_ret (v := .agg #[.int .i64 (t.size : Int), .int .i64 sm, .slice a5 ps.length cap5]) (by simp [results, Tryz.results74, go_sem, r0, r1, r2]) rfl ⟨⟨(t.size : Int), sm, ps⟩, .slice a5 ps.length cap5, q4, rfl, ?_, hl4a, (show ps.length ≤ 10 by omega), by omega, ?_, ?_⟩
    · exact own_mono (own_far (own_far (own_far HO5.out _ _ _ (by omega)) _ _ _ (by omega)) _ _ _ (by omega)) (by omega)
    · exact ((HR5.out.kept (grownBy_setCellAt _ w.heap.size 0 _) (fun k e => by cases e; omega)).kept (grownBy_setCellAt _ w.heap.size 1 _) (fun k e => by cases e; omega)).kept (grownBy_setCellAt _ w.heap.size 2 _) (fun k e => by cases e; omega)
    · exact ((HG5.out.andThen (grownBy_setCellAt _ w.heap.size 0 _) (fun k e => by cases e; exact .inl (Nat.le_refl _))).andThen (grownBy_setCellAt _ w.heap.size 1 _) (fun k e => by cases e; exact .inl (Nat.le_refl _))).andThen (grownBy_setCellAt _ w.heap.size 2 _) (fun k e => by cases e; exact .inl (Nat.le_refl _))

end Go.Proofs.YtliadobopideaaaGreatDoor

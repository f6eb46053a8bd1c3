/- A drawn pointer, some nothing, some spoilt: whatever it is, it reads as a pointer; only the reader's own block turns. Conditions: the reader's place is small. -/
import Derived.Test.YtliadobopideaaaGreatDoorPKD7
import Derived.Deep.RegionHeld3
namespace Go.Proofs.YtliadobopideaaaGreatDoor
open Go.RowKit Go.Sort

/-- PLACES in blocks from lo on. -/
def LowPl (w : World) (lo : Nat) (v : Value) (ps : List PlD) : Prop :=
  ∃ a cap, v = .slice a ps.length cap ∧ ps.length ≤ cap ∧ cap ≤ maxLen ∧ (ps = [] ∨ ∃ b off, a = some ⟨b, off, none⟩ ∧ lo ≤ b ∧ ∀ j, j < ps.length → w.cell? ⟨b, off + j * 2, none⟩ = some (.int .i64 (ps.getD j pl0).1) ∧ w.cell? ⟨b, off + j * 2 + 1, none⟩ = some (.int .i64 (ps.getD j pl0).2))
theorem LowPl.reads {w : World} {lo : Nat} {v : Value} {ps : List PlD} (h : LowPl w lo v ps) : PlacesV w v ps := by
  obtain ⟨a, cap, h1, h2, h3, h4⟩ := h
  refine ⟨a, cap, h1, h2, h3, ?_⟩
  rcases h4 with h | ⟨b, off, e, _, hc⟩
  · exact .inl h
  · exact .inr ⟨b, off, e, hc⟩
theorem LowPl.mono {w : World} {lo lo' : Nat} {v : Value} {ps : List PlD} (h : LowPl w lo v ps) (hl : lo' ≤ lo) : LowPl w lo' v ps := by
  obtain ⟨a, cap, h1, h2, h3, h4⟩ := h
  refine ⟨a, cap, h1, h2, h3, ?_⟩
  rcases h4 with h | ⟨b, off, e, hb, hc⟩
  · exact .inl h
  · exact .inr ⟨b, off, e, Nat.le_trans hl hb, hc⟩
/-- What turns only a block ahead of them leaves them. -/
theorem LowPl.kept {w w' : World} {lo : Nat} {v : Value} {ps : List PlD} {r : Option Nat} (h : LowPl w lo v ps) (hg : w.grownBy w' r) (hr : ∀ k, r = some k → k < lo) : LowPl w' lo v ps := by
  obtain ⟨a, cap, h1, h2, h3, h4⟩ := h
  refine ⟨a, cap, h1, h2, h3, ?_⟩
  rcases h4 with h | ⟨b, off, e, hb, hc⟩
  · exact .inl h
  · refine .inr ⟨b, off, e, hb, fun j hj => ?_⟩
    obtain ⟨c0, c1⟩ := hc j hj
    have hlt : b < w.heap.size := World.block_lt_of_cell? w _ c0
    have hne : some b ≠ r := fun e => by have := hr b e.symm; omega
    exact ⟨(grown_cell hg b _ hlt hne).1.trans c0, (grown_cell hg b _ hlt hne).1.trans c1⟩
theorem OwnPl.low {w : World} {base : Nat} {v : Value} {ps : List PlD} (h : OwnPl w base v ps) : LowPl w base v ps := by
  have h' := h
  rcases h.2 with ⟨rfl, hk⟩ | ⟨g, cap, cur, rfl, hb, hg, hkc, hcm, hcs, hx⟩
  · have : ps = [] := List.eq_nil_of_length_eq_zero hk
    subst this
    exact ⟨none, 0, rfl, Nat.le_refl _, by simp [maxLen], .inl rfl⟩
  · refine ⟨some ⟨g, 0, none⟩, cap, rfl, hkc, hcm, .inr ⟨g, 0, rfl, hb, fun j hj => ?_⟩⟩
    have e0 := (own_cell h' (j * 2) (by omega)).1
    have e1 := (own_cell h' (j * 2 + 1) (by omega)).1
    rw [plCells_get ps _ (by omega), plCell_0] at e0
    rw [plCells_get ps _ (by omega), plCell_1] at e1
    exact ⟨by rw [Nat.zero_add]; exact e0, by rw [Nat.zero_add]; exact e1⟩
theorem LowPl.nil (w : World) (lo : Nat) : LowPl w lo (.slice none 0 0) [] := ⟨none, 0, rfl, Nat.le_refl _, by simp [maxLen], .inl rfl⟩

/-- WHAT l71Some ANSWERS. -/
def SomeDrawn (n₀ B p m : Nat) (w : World) (e : Ending) (w' : World) : Prop :=
  ∃ (d : PtrD) (v : Value) (q : Nat), e = .returned (.agg #[.int .i64 d.size, .int .i64 d.sum, v]) ∧ LowPl w' w.heap.size v d.places ∧ d.places.length ≤ 10 ∧ q ≤ p + m ∧ Rd n₀ B q w' ∧ w.grownBy w' (some B)

/-- A POINTER IN A BLOCK OF ITS OWN. -/
def PBox (w : World) (g : Nat) (z s : Int) (v : Value) : Prop := w.heap[g]? = some (.cells #[.int .i64 z, .int .i64 s, v] 54 (0, 0))
theorem PBox.kept {w w' : World} {g : Nat} {z s : Int} {v : Value} {r : Option Nat} (h : PBox w g z s v) (hg : w.grownBy w' r) (hlt : g < w.heap.size) (hne : some g ≠ r) : PBox w' g z s v := (hg.block g hlt hne).trans h
theorem PBox.cells {w : World} {g : Nat} {z s : Int} {v : Value} (h : PBox w g z s v) : w.cell? ⟨g, 0, none⟩ = some (.int .i64 z) ∧ w.frozen? ⟨g, 0, none⟩ = false ∧ w.cell? ⟨g, 1, none⟩ = some (.int .i64 s) ∧ w.frozen? ⟨g, 1, none⟩ = false ∧ w.cell? ⟨g, 2, none⟩ = some v ∧ w.frozen? ⟨g, 2, none⟩ = false := by
  unfold PBox at h
  exact ⟨by simp only [World.cell?, h]; rfl, by simp [World.frozen?, h], by simp only [World.cell?, h]; rfl, by simp [World.frozen?, h], by simp only [World.cell?, h]; rfl, by simp [World.frozen?, h]⟩

/-- The three stores of an answer. -/
theorem three_rd {n₀ B q : Nat} {w : World} (h : Rd n₀ B q w) (g : Nat) (x y z : Value) (hg : B < g) : Rd n₀ B q (((w.setCell ⟨g, 0, none⟩ x).setCell ⟨g, 1, none⟩ y).setCell ⟨g, 2, none⟩ z) :=
  ((h.kept (grownBy_setCellAt _ g 0 _) (fun k e => by cases e; exact hg)).kept (grownBy_setCellAt _ g 1 _) (fun k e => by cases e; exact hg)).kept (grownBy_setCellAt _ g 2 _) (fun k e => by cases e; exact hg)
theorem three_grown {w0 w : World} {B : Nat} (h : w0.grownBy w (some B)) (g : Nat) (x y z : Value) (hg : w0.heap.size ≤ g) : w0.grownBy (((w.setCell ⟨g, 0, none⟩ x).setCell ⟨g, 1, none⟩ y).setCell ⟨g, 2, none⟩ z) (some B) :=
  ((h.andThen (grownBy_setCellAt _ g 0 _) (fun k e => by cases e; exact .inl hg)).andThen (grownBy_setCellAt _ g 1 _) (fun k e => by cases e; exact .inl hg)).andThen (grownBy_setCellAt _ g 2 _) (fun k e => by cases e; exact .inl hg)
theorem three_low {w : World} {lo : Nat} {v : Value} {ps : List PlD} (h : LowPl w lo v ps) (g : Nat) (x y z : Value) (hg : g < lo) : LowPl (((w.setCell ⟨g, 0, none⟩ x).setCell ⟨g, 1, none⟩ y).setCell ⟨g, 2, none⟩ z) lo v ps :=
  ((h.kept (grownBy_setCellAt _ g 0 _) (fun k e => by cases e; exact hg)).kept (grownBy_setCellAt _ g 1 _) (fun k e => by cases e; exact hg)).kept (grownBy_setCellAt _ g 2 _) (fun k e => by cases e; exact hg)
theorem low_set {w : World} {lo : Nat} {v : Value} {ps : List PlD} (h : LowPl w lo v ps) (g o : Nat) (x : Value) (hg : ∀ a cap, v = .slice a ps.length cap → ∀ b off, a = some ⟨b, off, none⟩ → b ≠ g) : LowPl (w.setCell ⟨g, o, none⟩ x) lo v ps := by
  obtain ⟨a, cap, h1, h2, h3, h4⟩ := h
  refine ⟨a, cap, h1, h2, h3, ?_⟩
  rcases h4 with h | ⟨b, off, e, hb, hc⟩
  · exact .inl h
  · have hn := hg a cap h1 b off e
    refine .inr ⟨b, off, e, hb, fun j hj => ?_⟩
    obtain ⟨c0, c1⟩ := hc j hj
    have hlt : b < w.heap.size := World.block_lt_of_cell? w _ c0
    have hG := grownBy_setCellAt w g o x
    have hne' : some b ≠ some g := fun e => by injection e with e; exact hn e
    exact ⟨(grown_cell hG b _ hlt hne').1.trans c0, (grown_cell hG b _ hlt hne').1.trans c1⟩

/-- The three numbers of a drawn sum, the two of a drawn slot. -/
def tab3 (v : Int) : Int := if v = 0 then -1 else if v = 1 then 1000000000 else 1000000001
theorem tab3_cell (w : World) (v : Int) (h0 : 0 ≤ v) (h6 : v < 3) : (w.alloc (.cells #[.int .i64 (-1), .int .i64 1000000000, .int .i64 1000000001] 3)).cell? ⟨w.heap.size, v.toNat, none⟩ = some (.int .i64 (tab3 v)) := by
  rw [World.cell?_alloc_mark]
  obtain ⟨n, rfl⟩ := Int.eq_ofNat_of_zero_le h0
  match n, h6 with
  | 0, _ => rfl
  | 1, _ => rfl
  | 2, _ => rfl
  | n + 3, h => omega
def tab2 (v : Int) : Int := if v = 0 then -1 else 12
theorem tab2_list (v : Int) (h0 : 0 ≤ v) (h6 : v < 2) : ([Value.int .i64 (-1), .int .i64 12] : List Value)[v.toNat]? = some (.int .i64 (tab2 v)) := by
  obtain ⟨n, rfl⟩ := Int.eq_ofNat_of_zero_le h0
  match n, h6 with
  | 0, _ => rfl
  | 1, _ => rfl
  | n + 2, h => omega
theorem tab2_get (v : Int) (h0 : 0 ≤ v) (h6 : v < 2) : ∀ h, ([Value.int .i64 (-1), .int .i64 12] : List Value)[v.toNat]'h = .int .i64 (tab2 v) := fun h => by
  have := tab2_list v h0 h6
  rw [List.getElem?_eq_getElem h] at this
  exact Option.some.inj this
theorem tab2_cell (w : World) (v : Int) (h0 : 0 ≤ v) (h6 : v < 2) : (w.alloc (.cells #[.int .i64 (-1), .int .i64 12] 3)).cell? ⟨w.heap.size, v.toNat, none⟩ = some (.int .i64 (tab2 v)) := by
  rw [World.cell?_alloc_mark]
  simpa using tab2_list v h0 h6
theorem grown_drew1 (w : World) (r : Option Nat) : w.grownBy w.drew r := ⟨rfl, rfl, rfl, Nat.le_refl _, fun _ _ _ => rfl⟩
theorem LowPl.drew {w : World} {lo : Nat} {v : Value} {ps : List PlD} (h : LowPl w lo v ps) : LowPl w.drew lo v ps := h.kept (grown_drew1 w none) (fun k e => by cases e)
theorem LowPl.alloc {w : World} {lo : Nat} {v : Value} {ps : List PlD} (h : LowPl w lo v ps) (o : Obj) : LowPl (w.alloc o) lo v ps := h.kept (World.grownBy_alloc w o none) (fun k e => by cases e)
theorem plCells_set0 (ps : List PlD) (q : PlD) (h : 0 < ps.length) : plCells (ps.set 0 q) = ((plCells ps).set 0 (.int .i64 q.1)).set 1 (.int .i64 q.2) := by
  have hl := plCells_length ps
  refine List.ext_getElem? fun i => ?_
  by_cases hi : i < ps.length * 2
  · rw [plCells_get _ _ (by rw [List.length_set]; exact hi)]
    by_cases h0 : i = 0
    · subst h0
      rw [List.getElem?_set_ne (by omega), List.getElem?_set_self (by omega), show (0 : Nat) = 0 * 2 from rfl, plCell_0, List.getD, List.getElem?_set_self h]
      rfl
    · by_cases h1 : i = 1
      · subst h1
        rw [List.getElem?_set_self (by rw [List.length_set]; omega), show (1 : Nat) = 0 * 2 + 1 from rfl, plCell_1, List.getD, List.getElem?_set_self h]
        rfl
      · rw [List.getElem?_set_ne (by omega), List.getElem?_set_ne (by omega), plCells_get _ _ hi]
        unfold plCell
        rw [List.getD, List.getElem?_set_ne (by omega)]
        rfl
  · rw [List.getElem?_eq_none (by rw [plCells_length, List.length_set]; omega), List.getElem?_eq_none (by rw [List.length_set, List.length_set]; omega)]
theorem plCells_set1 (ps : List PlD) (y : Int) (h : 0 < ps.length) : plCells (ps.set 0 ((ps.getD 0 pl0).1, y)) = (plCells ps).set 1 (.int .i64 y) := by
  rw [plCells_set0 ps _ h]
  congr 1
  refine List.ext_getElem? fun i => ?_
  by_cases h0 : i = 0
  · subst h0
    rw [List.getElem?_set_self (by rw [plCells_length]; omega), plCells_get _ _ (by omega), show (0 : Nat) = 0 * 2 from rfl, plCell_0]
  · rw [List.getElem?_set_ne (by omega)]
theorem own_slot {w : World} {base g cap : Nat} {ps : List PlD} (h : w.ownsRow base 83 2 (.slice (some ⟨g, 0, none⟩) ps.length cap) ps.length (plCells ps)) (y : Int) (h0 : 0 < ps.length) : LowPl (w.setCell ⟨g, 1, none⟩ (.int .i64 y)) base (.slice (some ⟨g, 0, none⟩) ps.length cap) (ps.set 0 ((ps.getD 0 pl0).1, y)) := by
  have hw := own_set h 1 (.int .i64 y)
  rw [← plCells_set1 ps y h0] at hw
  refine OwnPl.low ?_
  unfold OwnPl
  rw [List.length_set]
  exact hw
theorem LowPl.set {w : World} {lo : Nat} {a : Option Addr} {c : Nat} {ps : List PlD} (h : LowPl w lo (.slice a ps.length c) ps) (g o : Nat) (x : Value) (hg : ∀ b off, a = some ⟨b, off, none⟩ → b ≠ g) : LowPl (w.setCell ⟨g, o, none⟩ x) lo (.slice a ps.length c) ps :=
  low_set h g o x (fun a' cap' e b off e' => by injection e with e1; subst e1; exact hg b off e')
theorem LowPl.rest {w : World} {lo g off cap : Nat} {ps : List PlD} (h : LowPl w lo (.slice (some ⟨g, off, none⟩) ps.length cap) ps) (h1 : 1 < ps.length) : LowPl w lo (.slice (some ⟨g, off + 2, none⟩) (ps.length - 1) (cap - 1)) (ps.drop 1) := by
  obtain ⟨a, cap', h1', h2, h3, h4⟩ := h
  injection h1' with e1 e2 e3
  subst e1
  subst e3
  refine ⟨some ⟨g, off + 2, none⟩, cap - 1, by rw [List.length_drop], by rw [List.length_drop]; omega, by omega, ?_⟩
  rcases h4 with h | ⟨b, off', e, hb, hc⟩
  · subst h; simp at h1
  · injection e with e
    injection e with e1 e2
    subst e1
    subst e2
    refine .inr ⟨g, off + 2, rfl, hb, fun j hj => ?_⟩
    rw [List.length_drop] at hj
    have := hc (j + 1) (by omega)
    have hd : (ps.drop 1).getD j pl0 = ps.getD (j + 1) pl0 := by rw [List.getD, List.getElem?_drop, Nat.add_comm]; rfl
    rw [hd, show off + 2 + j * 2 = off + (j + 1) * 2 by omega]
    exact this

set_option maxRecDepth 100000 in
set_option maxHeartbeats 4000000 in
theorem l71Some_any (n₀ B p : Nat) (n : Int) (w : World) (hp : p ≤ 700000) (hn : Pool n) (hR : Rd n₀ B p w) :
    Calls Tryz.prog 77 #[.pointer (some ⟨B, 0, none⟩), .int .i64 n] w (SomeDrawn n₀ B p 60 w) := by
  have Hn := Lib.hid hn
  clear hn
  have hBlt := hR.lt
  have hR1 := Lib.hid (hR.alloc (.cells #[.int .i64 0, .int .i64 0, .slice none 0 0] 54))
  have hG1 : Hid (w.grownBy (w.alloc (.cells #[.int .i64 0, .int .i64 0, .slice none 0 0] 54)) (some B)) := World.grownBy_alloc w _ _
  clear hR
  go_enter Tryz.func77, Tryz.ntmps77
  go_wp2_with fail
  refine (pick_any n₀ B p 5 _ (by omega) hR1.out).mono ?_
  rintro e w2 ⟨v5, rfl, hv50, hv5n, hR2, hg2⟩
  have HZ2 := Lib.hid (zeroed hg2 hBlt)
  have HR2 := Lib.hid hR2
  have HG2 := Lib.hid (hG1.out.trans hg2)
  have hw2 : w.heap.size < w2.heap.size := by have := hg2.size; simp at this; omega
  clear hv5n hR2 hg2
  by_cases h0 : v5 = 0
  · have d0 : ((v5 : Int) == 0) = true := by simp; omega
    obtain ⟨r0, f0, r1, f1, r2, f2⟩ := HZ2.out.cells
    clear h0
    go_wp2
    refine bodyPost_ret (v := .agg #[.int .i64 0, .int .i64 0, .slice none 0 0]) (by simp [results, Tryz.results77, go_sem, r0, r1, r2]) rfl ⟨⟨0, 0, []⟩, .slice none 0 0, p + 1, rfl, LowPl.nil _ _, (show 0 ≤ 10 by omega), by omega, ?_, ?_⟩
    · exact three_rd HR2.out w.heap.size _ _ _ hBlt
    · exact three_grown HG2.out w.heap.size _ _ _ (Nat.le_refl _)
  · have d0 : ((v5 : Int) == 0) = false := by simp; omega
    clear h0
    go_wp2_with fail
    refine (l71Ptr_any n₀ B (p + 1) n _ (by omega) Hn.out HR2.out).mono ?_
    rintro e w3 ⟨⟨z, s, ps⟩, v3, q3, rfl, ho3, hl2, hl10, hq3, hR3, hg3⟩
    simp only at ho3 hl2 hl10 ⊢
    obtain ⟨g, cap, hv3, hg, hcl, hcm⟩ : ∃ g cap, v3 = .slice (some ⟨g, 0, none⟩) ps.length cap ∧ w2.heap.size ≤ g ∧ ps.length ≤ cap ∧ cap ≤ maxLen := by
      rcases ho3.2 with ⟨_, hk⟩ | ⟨g, cap, cur, e, hb, _, hkc, hcm, _, _⟩
      · omega
      · exact ⟨g, cap, e, hb, hkc, hcm⟩
    subst hv3
    have hgl : g < w3.heap.size := (ho3.lt g rfl).2
    have HZ3 := Lib.hid (HZ2.out.kept hg3 (by omega) (by simp; omega))
    have HG3 := Lib.hid (HG2.out.trans hg3)
    have hw3 := hg3.size
    have HO3 := Lib.hid ho3
    have HR3 := Lib.hid hR3
    clear ho3 hR3 hg3
    have HRa := Lib.hid (HR3.out.alloc (.cells #[.int .i64 z, .int .i64 s, .slice (some ⟨g, 0, none⟩) ps.length cap] 54))
    go_wp2_with fail
    refine (pick_any n₀ B q3 20 _ (by omega) HRa.out).mono ?_
    rintro e w4 ⟨v20, rfl, hv20, hv2n, hR4, hg4⟩
    have hal : w3.grownBy (w3.alloc (.cells #[.int .i64 z, .int .i64 s, .slice (some ⟨g, 0, none⟩) ps.length cap] 54)) (some B) := World.grownBy_alloc w3 _ _
    have hg34 := hal.trans hg4
    have HP4 : Hid (PBox w4 w3.heap.size z s (.slice (some ⟨g, 0, none⟩) ps.length cap)) := (hg4.block w3.heap.size (by simp) (by simp; omega)).trans (heap_alloc_new w3 _)
    have HZ4 := Lib.hid (HZ3.out.kept hg34 (by omega) (by simp; omega))
    have HG4 := Lib.hid (HG3.out.trans hg34)
    have HO4 := Lib.hid ((HO3.out : w3.ownsRow _ _ _ _ _ _).kept hg34 (.inr (by simp [Value.ownBlock]; omega)))
    have hw4 : w3.heap.size < w4.heap.size := by have := hg4.size; simp at this; omega
    have HR4 := Lib.hid hR4
    clear hv2n hR4 hg4 hg34 hal HZ3 HO3 HRa HR3
    obtain ⟨r0, f0, r1, f1, r2, f2⟩ := HZ4.out.cells
    obtain ⟨b0, t0, b1, t1, b2, t2⟩ := HP4.out.cells
    generalize hPb : w3.heap.size = P at *
    have hPb' : w2.heap.size ≤ P := by omega
    clear hPb
    have HL4 := Lib.hid (OwnPl.low (show OwnPl w4 w2.heap.size (.slice (some ⟨g, 0, none⟩) ps.length cap) ps from HO4.out))
    unfold maxLen at hcm
    by_cases hc0 : v20 = 0
    · have e0 : ((v20 : Int) == 0) = true := by simp; omega
      clear hc0
      go_wp2_with fail
      refine (pick_any n₀ B (q3 + 1) 14 _ (by omega) HR4.out).mono ?_
      rintro e w5 ⟨v14, rfl, hv140, hv14n, hR5, hg5⟩
      have hv14 := hv14n (by omega)
      clear r0 f0 r1 f1 r2 f2 b0 t0 b1 t1 b2 t2 hv14n
      obtain ⟨r0, f0, r1, f1, r2, f2⟩ := (HZ4.out.kept hg5 (by omega) (by simp; omega)).cells
      obtain ⟨b0, t0, b1, t1, b2, t2⟩ := (HP4.out.kept hg5 (by omega) (by simp; omega)).cells
      have HL5 := Lib.hid (HL4.out.kept hg5 (fun k e => by cases e; omega))
      have HR5 := Lib.hid hR5
      have HG5 := Lib.hid (HG4.out.trans hg5)
      clear hR5 hg5
      go_wp2
      refine bodyPost_ret (v := .agg #[.int .i64 (v14 - 1), .int .i64 s, .slice (some ⟨g, 0, none⟩) ps.length cap]) (by simp [results, Tryz.results77, go_sem, r0, r1, r2]) rfl ⟨⟨(v14 - 1), s, ps⟩, .slice (some ⟨g, 0, none⟩) ps.length cap, (q3 + 1 + 1), rfl, ?_, hl10, by omega, ?_, ?_⟩
      · exact (three_low (HL5.out.set P 0 _ (fun b off e => by injection e with e; injection e with e1; omega)) w.heap.size _ _ _ (by omega)).mono (by omega)
      · exact three_rd (HR5.out.kept (grownBy_setCellAt _ P 0 _) (fun k e => by cases e; omega)) w.heap.size _ _ _ hBlt
      · exact three_grown (HG5.out.andThen (grownBy_setCellAt _ P 0 _) (fun k e => by cases e; exact .inl (by omega))) w.heap.size _ _ _ (Nat.le_refl _)
    · by_cases hc1 : v20 = 1
      · have e0 : ((v20 : Int) == 0) = false := by simp; omega
        have e1 : ((v20 : Int) == 1) = true := by simp; omega
        clear hc0 hc1
        have HRa := Lib.hid (HR4.out.alloc (.cells #[.int .i64 (-1), .int .i64 1000000000, .int .i64 1000000001] 3))
        go_wp2_with fail
        refine (pick_any n₀ B (q3 + 1) 3 _ (by omega) HRa.out).mono ?_
        rintro e w5 ⟨v6, rfl, hv60, hv6n, hR5, hg5'⟩
        have hv6 := hv6n (by omega)
        clear r0 f0 r1 f1 r2 f2 b0 t0 b1 t1 b2 t2 hv6n
        have hct := hg5'.cell (tab3_cell w4 v6 hv60 hv6) (by simp; omega)
        generalize tab3 v6 = y at hct
        have hg5 := (show w4.grownBy (w4.alloc (.cells #[.int .i64 (-1), .int .i64 1000000000, .int .i64 1000000001] 3)) (some B) from World.grownBy_alloc w4 _ _).trans hg5'
        obtain ⟨r0, f0, r1, f1, r2, f2⟩ := (HZ4.out.kept hg5 (by omega) (by simp; omega)).cells
        obtain ⟨b0, t0, b1, t1, b2, t2⟩ := (HP4.out.kept hg5 (by omega) (by simp; omega)).cells
        have HL5 := Lib.hid (HL4.out.kept hg5 (fun k e => by cases e; omega))
        have HR5 := Lib.hid hR5
        have HG5 := Lib.hid (HG4.out.trans hg5)
        clear hR5 hg5 hg5'
        go_wp2
        refine bodyPost_ret (v := .agg #[.int .i64 z, .int .i64 y, .slice (some ⟨g, 0, none⟩) ps.length cap]) (by simp [results, Tryz.results77, go_sem, r0, r1, r2]) rfl ⟨⟨z, y, ps⟩, .slice (some ⟨g, 0, none⟩) ps.length cap, (q3 + 1 + 1), rfl, ?_, hl10, by omega, ?_, ?_⟩
        · exact (three_low (HL5.out.set P 1 _ (fun b off e => by injection e with e; injection e with e1; omega)) w.heap.size _ _ _ (by omega)).mono (by omega)
        · exact three_rd (HR5.out.kept (grownBy_setCellAt _ P 1 _) (fun k e => by cases e; omega)) w.heap.size _ _ _ hBlt
        · exact three_grown (HG5.out.andThen (grownBy_setCellAt _ P 1 _) (fun k e => by cases e; exact .inl (by omega))) w.heap.size _ _ _ (Nat.le_refl _)
      · by_cases hc2 : v20 = 2
        · have e0 : ((v20 : Int) == 0) = false := by simp; omega
          have e1 : ((v20 : Int) == 1) = false := by simp; omega
          have e2 : ((v20 : Int) == 2) = true := by simp; omega
          clear hc0 hc1 hc2
          have i2 : (0 : Int) < (ps.length : Int) := by omega
          have i4 : 0 < ps.length := by omega
          have HO4' := HO4.out
          go_wp2_with fail
          go_region_law (first
            | (go_simp; go_at_call 40; refine (pick_any n₀ B (q3 + 1) 2 _ (by omega) ?_).mono ?_; (first | exact HR4.out.drew | exact (HR4.out.alloc _).drew); rintro e w5 ⟨v2, rfl, hv20', hv2n, hR5, hg5⟩; have hv22 := hv2n (by omega); clear hv2n; have hl2' := tab2_get v2 hv20' hv22;
                (first | (have hg45 : w4.grownBy w5 (some B) := (grown_drew1 w4 _).trans hg5) | (have hg45 : w4.grownBy w5 (some B) := ((World.grownBy_alloc w4 (.cells #[.int .i64 (-1), .int .i64 12] 3) (some B)).trans (grown_drew1 _ _)).trans hg5; have hct := hg5.cell (show ((w4.alloc (.cells #[.int .i64 (-1), .int .i64 12] 3)).drew).cell? _ = _ from tab2_cell w4 v2 hv20' hv22) (by simp; omega)));
                have hb2' := (grown_cell hg45 P 2 (by omega) (by simp; omega)).1.trans b2; have hO5 := HO4'.kept hg45 (.inr (by simp [Value.ownBlock]; omega)); obtain ⟨x1, y1, _, _⟩ := own_cell hO5 1 (by omega); rw [plCells_get _ _ (by omega)] at x1; generalize plCell ps 1 = c1 at x1; have hgl5 : g < w5.heap.size := World.block_lt_of_cell? w5 _ x1; have hPl5 : P < w5.heap.size := World.block_lt_of_cell? w5 _ hb2'))
          all_goals
            have hw5 : w.heap.size < w5.heap.size := by have := hg45.size; omega
            have HG5 := Lib.hid (HG4.out.trans hg45)
            have HR5 := Lib.hid hR5
            have HO5 := Lib.hid hO5
            clear r0 f0 r1 f1 r2 f2 b0 t0 b1 t1 b2 t2 hb2'
            obtain ⟨r0, f0, r1, f1, r2, f2⟩ := (HZ4.out.kept hg45 (by omega) (by simp; omega)).cells
            obtain ⟨b0, t0, b1, t1, b2, t2⟩ := (HP4.out.kept hg45 (by omega) (by simp; omega)).cells
            generalize tab2 v2 = y at *
            clear hR5 hg5 hg45 hO5 hl2' HO4'
            go_wp2
            have HW : Hid (LowPl (w5.setCell ⟨g, 1, none⟩ (.int .i64 y)) w2.heap.size (.slice (some ⟨g, 0, none⟩) ps.length cap) (ps.set 0 ((ps.getD 0 pl0).1, y))) := own_slot HO5.out y (by omega)
            have HRW : Hid (Rd n₀ B (q3 + 1 + 1) (w5.setCell ⟨g, 1, none⟩ (.int .i64 y))) := HR5.out.kept (grownBy_setCellAt _ g 1 _) (fun k e => by cases e; omega)
            have HGW : Hid (w.grownBy (w5.setCell ⟨g, 1, none⟩ (.int .i64 y)) (some B)) := HG5.out.andThen (grownBy_setCellAt _ g 1 _) (fun k e => by cases e; exact .inl (by omega))
            have hlset : (ps.set 0 ((ps.getD 0 pl0).1, y)).length ≤ 10 := by rw [List.length_set]; exact hl10
            generalize ps.set 0 ((ps.getD 0 pl0).1, y) = ps' at HW hlset
            refine bodyPost_ret (v := .agg #[.int .i64 z, .int .i64 s, .slice (some ⟨g, 0, none⟩) ps.length cap]) (by first | (simp [results, Tryz.results77, go_sem, r0, r1, r2]; done) | (simp [results, Tryz.results77, go_sem, r0, r1, r2, hw5]; done)) rfl ⟨⟨z, s, ps'⟩, .slice (some ⟨g, 0, none⟩) ps.length cap, q3 + 1 + 1, rfl, ?_, hlset, by omega, ?_, ?_⟩
            · first
                | with_reducible exact (three_low HW.out w.heap.size _ _ _ (by omega)).mono (by omega)
                | with_reducible exact ((three_low HW.out w.heap.size _ _ _ (by omega)).mono (by omega)).alloc _
            · first
                | with_reducible exact three_rd HRW.out w.heap.size _ _ _ hBlt
                | with_reducible exact (three_rd HRW.out w.heap.size _ _ _ hBlt).alloc _
            · first
                | with_reducible exact three_grown HGW.out w.heap.size _ _ _ (Nat.le_refl _)
                | with_reducible exact (three_grown HGW.out w.heap.size _ _ _ (Nat.le_refl _)).trans (World.grownBy_alloc _ _ _)
        · by_cases hc3 : v20 = 3
          · have e0 : ((v20 : Int) == 0) = false := by simp; omega
            have e1 : ((v20 : Int) == 1) = false := by simp; omega
            have e2 : ((v20 : Int) == 2) = false := by simp; omega
            have e3 : ((v20 : Int) == 3) = true := by simp; omega
            clear hc0 hc1 hc2 hc3
            obtain ⟨x0, y0, _, _⟩ := own_cell HO4.out 0 (by omega)
            obtain ⟨x1, y1, _, _⟩ := own_cell HO4.out 1 (by omega)
            obtain ⟨x2, y2, _, _⟩ := own_cell HO4.out 2 (by omega)
            obtain ⟨x3, y3, _, _⟩ := own_cell HO4.out 3 (by omega)
            rw [plCells_get _ _ (by omega)] at x0 x1 x2 x3
            have k2 := plCell_0 ps 1
            have k3 := plCell_1 ps 1
            rw [show (1 * 2 : Nat) = 2 from rfl] at k2
            rw [show (1 * 2 + 1 : Nat) = 3 from rfl] at k3
            rw [k2] at x2
            rw [k3] at x3
            generalize ps.getD 1 pl0 = qq at x2 x3
            obtain ⟨qa, qb⟩ := qq
            simp only at x2 x3
            generalize plCell ps 0 = c0 at x0
            generalize plCell ps 1 = c1 at x1
            clear k2 k3
            have i1 : (1 : Int) < (ps.length : Int) := by omega
            have i2 : (0 : Int) < (ps.length : Int) := by omega
            have i3 : 1 < ps.length := by omega
            have i4 : 0 < ps.length := by omega
            have HW : Hid (LowPl (((w4.setCell ⟨g, 0, none⟩ (.int .i64 qa)).setCell ⟨g, 1, none⟩ (.int .i64 qb))) w2.heap.size (.slice (some ⟨g, 0, none⟩) ps.length cap) (ps.set 0 (qa, qb))) := by
              have hw := own_set (own_set HO4.out 0 (.int .i64 qa)) 1 (.int .i64 qb)
              rw [← plCells_set0 ps (qa, qb) (by omega)] at hw
              refine OwnPl.low ?_
              unfold OwnPl
              rw [List.length_set]
              exact hw
            go_wp2_with fail
            go_region
            all_goals
              go_wp2
              refine bodyPost_ret (v := .agg #[.int .i64 z, .int .i64 s, .slice (some ⟨g, 0, none⟩) ps.length cap]) (by simp [results, Tryz.results77, go_sem, r0, r1, r2]) rfl ⟨⟨z, s, ps.set 0 (qa, qb)⟩, .slice (some ⟨g, 0, none⟩) ps.length cap, q3 + 1, rfl, ?_, (show (ps.set 0 (qa, qb)).length ≤ 10 by rw [List.length_set]; exact hl10), by omega, ?_, ?_⟩
              · exact ((three_low HW.out w.heap.size _ _ _ (by omega)).mono (by omega)).drew
              · exact (three_rd ((HR4.out.kept (grownBy_setCellAt _ g 0 _) (fun k e => by cases e; omega)).kept (grownBy_setCellAt _ g 1 _) (fun k e => by cases e; omega)) w.heap.size _ _ _ hBlt).drew
              · exact grownBy_drew1 (three_grown ((HG4.out.andThen (grownBy_setCellAt _ g 0 _) (fun k e => by cases e; exact .inl (by omega))).andThen (grownBy_setCellAt _ g 1 _) (fun k e => by cases e; exact .inl (by omega))) w.heap.size _ _ _ (Nat.le_refl _))
          · by_cases hc4 : v20 = 4
            · have e0 : ((v20 : Int) == 0) = false := by simp; omega
              have e1 : ((v20 : Int) == 1) = false := by simp; omega
              have e2 : ((v20 : Int) == 2) = false := by simp; omega
              have e3 : ((v20 : Int) == 3) = false := by simp; omega
              have e4 : ((v20 : Int) == 4) = true := by simp; omega
              clear hc0 hc1 hc2 hc3 hc4
              have i1 : (1 : Int) ≤ (ps.length : Int) := by omega
              have i2 : (1 : Int) ≤ (cap : Int) := by omega
              have i3 : ¬cap = 1 := by omega
              have i4 : ¬ (1 : Nat) = cap := by omega
              go_wp2
              refine bodyPost_ret (v := .agg #[.int .i64 z, .int .i64 s, .slice (some ⟨g, 2, none⟩) (ps.length - 1) (cap - 1)]) (by simp [results, Tryz.results77, go_sem, r0, r1, r2]) rfl ⟨⟨z, s, ps.drop 1⟩, .slice (some ⟨g, 2, none⟩) (ps.length - 1) (cap - 1), (q3 + 1), rfl, ?_, (show (ps.drop 1).length ≤ 10 by rw [List.length_drop]; omega), by omega, ?_, ?_⟩
              · exact (three_low (low_set (show LowPl w4 w2.heap.size (.slice (some ⟨g, 2, none⟩) (ps.length - 1) (cap - 1)) (ps.drop 1) from HL4.out.rest (by omega)) P 2 _ (fun a c e b off e2 => by subst e2; injection e with e; injection e with e; injection e with e1; omega)) w.heap.size _ _ _ (by omega)).mono (by omega)
              · exact three_rd (HR4.out.kept (grownBy_setCellAt _ P 2 _) (fun k e => by cases e; omega)) w.heap.size _ _ _ hBlt
              · exact three_grown (HG4.out.andThen (grownBy_setCellAt _ P 2 _) (fun k e => by cases e; exact .inl (by omega))) w.heap.size _ _ _ (Nat.le_refl _)
            · have e0 : ((v20 : Int) == 0) = false := by simp; omega
              have e1 : ((v20 : Int) == 1) = false := by simp; omega
              have e2 : ((v20 : Int) == 2) = false := by simp; omega
              have e3 : ((v20 : Int) == 3) = false := by simp; omega
              have e4 : ((v20 : Int) == 4) = false := by simp; omega
              clear hc0 hc1 hc2 hc3 hc4
              go_wp2
              refine bodyPost_ret (v := .agg #[.int .i64 z, .int .i64 s, .slice (some ⟨g, 0, none⟩) ps.length cap]) (by simp [results, Tryz.results77, go_sem, r0, r1, r2]) rfl ⟨⟨z, s, ps⟩, .slice (some ⟨g, 0, none⟩) ps.length cap, (q3 + 1), rfl, ?_, hl10, by omega, ?_, ?_⟩
              · exact (three_low HL4.out w.heap.size _ _ _ (by omega)).mono (by omega)
              · exact three_rd HR4.out w.heap.size _ _ _ hBlt
              · exact three_grown HG4.out w.heap.size _ _ _ (Nat.le_refl _)

end Go.Proofs.YtliadobopideaaaGreatDoor

/- DiskNew of the specification. Conditions: none. -/
import Derived.Test.YtceielkcplcccaaGreatDoorPKH0
namespace Go.Proofs.YtceielkcplcccaaGreatDoor
open Go.RowKit Go.Sort

theorem blk5 (w : World) (o : Obj) (A B C E : Array Value) (tA tB tC tE : TypeId) :
    Blk ((((( w.alloc o).alloc (.cells A tA)).alloc (.cells B tB)).alloc (.cells C tC)).alloc (.cells E tE)).drew (w.heap.size + 1) A tA ∧ Blk ((((( w.alloc o).alloc (.cells A tA)).alloc (.cells B tB)).alloc (.cells C tC)).alloc (.cells E tE)).drew (w.heap.size + 1 + 1) B tB ∧ Blk ((((( w.alloc o).alloc (.cells A tA)).alloc (.cells B tB)).alloc (.cells C tC)).alloc (.cells E tE)).drew (w.heap.size + 1 + 1 + 1) C tC ∧ Blk ((((( w.alloc o).alloc (.cells A tA)).alloc (.cells B tB)).alloc (.cells C tC)).alloc (.cells E tE)).drew (w.heap.size + 1 + 1 + 1 + 1) E tE := by
  have h1 := Blk.new (w.alloc o) A tA
  have h2 := Blk.new ((w.alloc o).alloc (.cells A tA)) B tB
  have h3 := Blk.new (((w.alloc o).alloc (.cells A tA)).alloc (.cells B tB)) C tC
  have h4 := Blk.new ((((w.alloc o).alloc (.cells A tA)).alloc (.cells B tB)).alloc (.cells C tC)) E tE
  have g1 := h1.below ((Below.refl _ _).alloc (Nat.le_refl _) (.cells B tB)) h1.lt
  have g1 := g1.below ((Below.refl _ _).alloc (Nat.le_refl _) (.cells C tC)) g1.lt
  have g1 := g1.below ((Below.refl _ _).alloc (Nat.le_refl _) (.cells E tE)) g1.lt
  have g1 := g1.below (Below.refl _ _).drew g1.lt
  have g2 := h2.below ((Below.refl _ _).alloc (Nat.le_refl _) (.cells C tC)) h2.lt
  have g2 := g2.below ((Below.refl _ _).alloc (Nat.le_refl _) (.cells E tE)) g2.lt
  have g2 := g2.below (Below.refl _ _).drew g2.lt
  have g3 := h3.below ((Below.refl _ _).alloc (Nat.le_refl _) (.cells E tE)) h3.lt
  have g3 := g3.below (Below.refl _ _).drew g3.lt
  have g4 := h4.below (Below.refl _ _).drew h4.lt
  simp only [World.size_alloc] at g1 g2 g3 g4
  exact ⟨g1, g2, g3, g4⟩
theorem own_new' {W : World} {base b1 b2 b3 b4 : Nat} {A1 A2 A3 : Array Value} {st : Int} (e1 : (txC twelve).toArray = A1) (e2 : (txC two2).toArray = A2) (e3 : (boC twelveB).toArray = A3) (h1 : Blk W b1 A1 9) (h2 : Blk W b2 A2 9) (h3 : Blk W b3 A3 4) (h4 : Blk W b4 #[] 41)
    (k1 : base ≤ b1) (k2 : base ≤ b2) (k3 : base ≤ b3) (k4 : base ≤ b4) (hne : b1 ≠ b2) :
    OwnDisk W base (.agg #[.int .i64 st, .slice (some ⟨b1, 0, none⟩) 12 12, .slice (some ⟨b2, 0, none⟩) 2 2, .slice (some ⟨b3, 0, none⟩) 12 12, .slice (some ⟨b4, 0, none⟩) 0 0]) ⟨st, twelve, two2, twelveB, []⟩ := by
  obtain ⟨v1, v2, v3, v4, e, o1, o2, o3, _, hn⟩ := own_new (st := st) e1 e2 e3 h1 h2 h3 k1 k2 k3 hne
  cases e
  exact ⟨_, _, _, _, rfl, o1, o2, o3, own_of_blk (n := 0) (K := 3) h4 k4 rfl (by simp [maxLen]), hn⟩

set_option maxRecDepth 100000 in
set_option maxHeartbeats 8000000 in
theorem specNew_any (st : Int) (w : World) : Calls Tryz.prog 10 #[.int .i64 st] w (NewDisk (diskNew st) w) := by
  have S1 := Lib.hid (fun W => l6_any st 0 2 W)
  by_cases h : StateOk st
  · rw [tt_true (show 0 ≤ st ∧ st ≤ 2 from h)] at S1
    have HN := Lib.hid (diskNew_yes h)
    clear h
    have hm1 := mk12
    have hm2 := mk2
    have hm3 := mk12b
    have H1 : Hid ((txC twelve).toArray = (txC twelve).toArray) := rfl
    have H2 : Hid ((txC two2).toArray = (txC two2).toArray) := rfl
    have H3 : Hid ((boC twelveB).toArray = (boC twelveB).toArray) := rfl
    generalize h1 : (txC twelve).toArray = A1 at hm1
    generalize h2 : (txC two2).toArray = A2 at hm2
    generalize h3 : (boC twelveB).toArray = A3 at hm3
    replace H1 := Lib.hid h1
    replace H2 := Lib.hid h2
    replace H3 := Lib.hid h3
    clear h1 h2 h3
    go_enter Tryz.func10, Tryz.ntmps10
    go_wp2_with fail
    refine (S1.out _).mono ?_
    rintro e w1 ⟨rfl, rfl⟩
    go_wp2_with fail
    go_region
    all_goals
      go_wp2
      refine bodyPost_ret (by simp [results, Tryz.results10, go_sem]; rfl) rfl ⟨_, rfl, ?_, ?_⟩
      · rw [HN.out]
        refine own_new' H1.out H2.out H3.out ?_ ?_ ?_ ?_ (by omega) (by omega) (by omega) (by omega) (by omega)
        all_goals first | with_reducible exact (blk5 _ _ _ _ _ _ _ _ _ _).1 | with_reducible exact (blk5 _ _ _ _ _ _ _ _ _ _).2.1 | with_reducible exact (blk5 _ _ _ _ _ _ _ _ _ _).2.2.1 | with_reducible exact (blk5 _ _ _ _ _ _ _ _ _ _).2.2.2
      · refine ((((((Below.refl _ w).alloc ?_ _).alloc ?_ _).alloc ?_ _).alloc ?_ _).alloc ?_ _).drew
        all_goals first | exact Nat.le_refl _ | (simp; done) | (simp; omega)
  · rw [tt_false (show ¬(0 ≤ st ∧ st ≤ 2) from h)] at S1
    have HN := Lib.hid (diskNew_no h)
    clear h
    go_enter Tryz.func10, Tryz.ntmps10
    go_wp2_with fail
    refine (S1.out _).mono ?_
    rintro e w1 ⟨rfl, rfl⟩
    go_wp2
    refine bodyPost_ret (v := .agg #[.int .i64 0, .slice none 0 0, .slice none 0 0, .slice none 0 0, .slice none 0 0]) (by simp [results, Tryz.results10, go_sem]) rfl ⟨_, rfl, ?_, ?_⟩
    · rw [HN.out]
      exact ⟨_, _, _, _, rfl, ⟨rfl, .inl ⟨rfl, rfl⟩⟩, ⟨rfl, .inl ⟨rfl, rfl⟩⟩, ⟨rfl, .inl ⟨rfl, rfl⟩⟩, ⟨rfl, .inl ⟨rfl, rfl⟩⟩, fun i h => by cases h⟩
    · exact (Below.refl _ w).alloc (Nat.le_refl _) _


end Go.Proofs.YtceielkcplcccaaGreatDoor

/- Places of the program's own test: of the pool, all on different disks. Conditions: none but the row's own bound on sizes. -/
import Derived.Test.YtceielkcplcccaaGreatDoorPKG6
namespace Go.Proofs.YtceielkcplcccaaGreatDoor
open Go.RowKit

/-- WHICH DISKS ARE USED by the first k places. -/
def UsedBy (ps : List PlD) (k : Nat) (d : Nat) : Prop := ∃ j, j < k ∧ (ps.getD j pl0).1 = (d : Int)
def UsedAt (w : World) (U : Nat) (ps : List PlD) (k : Nat) : Prop :=
  ∀ d, d < 4 → w.cell? ⟨U, d, none⟩ = some (.bool (tt (UsedBy ps k d))) ∧ w.frozen? ⟨U, d, none⟩ = false
theorem UsedAt.alloc {w : World} {U : Nat} {ps : List PlD} {k : Nat} (h : UsedAt w U ps k) (o : Obj) : UsedAt (w.alloc o) U ps k := fun d hd => by
  have := World.block_lt_of_cell? w _ (h d hd).1
  exact ⟨(World.cell?_of_block (Below.heap_alloc _ _ _ this)).trans (h d hd).1, by
    have e : (w.alloc o).heap[U]? = w.heap[U]? := Below.heap_alloc _ _ _ this
    have := (h d hd).2
    unfold World.frozen? at this ⊢
    simp only [e]
    exact this⟩
theorem usedBy_zero (ps : List PlD) (d : Nat) : ¬UsedBy ps 0 d := fun ⟨j, hj, _⟩ => by omega
theorem UsedAt.next {w : World} {U : Nat} {ps : List PlD} {k : Nat} (h : UsedAt w U ps k) (dn : Nat) (hd : dn < 4) (he : (ps.getD k pl0).1 = (dn : Int)) : UsedAt (w.setCell ⟨U, dn, none⟩ (.bool true)) U ps (k + 1) := fun d h4 => by
  refine ⟨?_, by rw [World.frozen?_setCell]; exact (h d h4).2⟩
  by_cases e : d = dn
  · subst e
    rw [tt_true (show UsedBy ps (k + 1) d from ⟨k, by omega, he⟩)]
    exact World.cell?_setCell_same' _ _ _ (by rw [(h d h4).1]; rfl)
  · rw [tt_congr (show UsedBy ps (k + 1) d ↔ UsedBy ps k d from ⟨fun ⟨j, hj, hx⟩ => ⟨j, by
      by_cases ej : j = k
      · subst ej; exfalso; rw [he] at hx; omega
      · omega, hx⟩, fun ⟨j, hj, hx⟩ => ⟨j, by omega, hx⟩⟩)]
    rw [← (h d h4).1]
    exact World.cell?_setCell_other _ _ _ _ (by simp)

theorem take_get {α : Type} (l : List α) (d : α) (k j : Nat) (h : j < k) : (l.take k).getD j d = l.getD j d := by
  rw [List.getD, List.getElem?_take, if_pos h]; rfl
theorem placesOk_next {n : Int} {ps : List PlD} {k : Nat} (hk : k < ps.length) (h : PlacesOk n (ps.take k)) (h1 : 0 ≤ (ps.getD k pl0).1 ∧ (ps.getD k pl0).1 ≤ n - 1 ∧ 0 ≤ (ps.getD k pl0).2 ∧ (ps.getD k pl0).2 ≤ 11)
    (h2 : ∀ i, i < k → (ps.getD i pl0).1 ≠ (ps.getD k pl0).1) : PlacesOk n (ps.take (k + 1)) := fun j hj => by
  rw [List.length_take] at hj
  rw [take_get _ _ _ _ (by omega)]
  by_cases e : j = k
  · subst e
    exact ⟨h1, fun i hi => by rw [take_get _ _ _ _ (by omega)]; exact h2 i hi⟩
  · have := h j (by rw [List.length_take]; omega)
    rw [take_get _ _ _ _ (by omega)] at this
    exact ⟨this.1, fun i hi => by have := this.2 i hi; rw [take_get _ _ _ _ (by omega)] at this ⊢; exact this⟩

set_option maxRecDepth 100000 in
set_option maxHeartbeats 1000000 in
theorem arePlaces_any (n : Int) (a : Option Addr) (cap : Nat) (ps : List PlD) (w : World) (hp : Pool n) (hl : ps.length ≤ maxLen) (hx : Hid (PlacesAt w a ps)) :
    Calls Tryz.prog 88 #[.int .i64 n, .slice a ps.length cap] w fun e w' => e = .returned (.bool (tt (PlacesOk n ps))) ∧ Below w.heap.size w w' := by
  obtain ⟨hn1, hn2⟩ := hp
  unfold maxLen at hl
  go_enter Tryz.func88, Tryz.ntmps88
  go_wp2_with fail
  have hU0 : UsedAt (w.alloc (.cells #[.bool false, .bool false, .bool false, .bool false] 125)) w.heap.size ps 0 := fun d hd => by
    rw [tt_false (usedBy_zero ps d)]
    refine ⟨?_, by
      have hb := heap_alloc_new w (.cells #[.bool false, .bool false, .bool false, .bool false] 125)
      unfold World.frozen?
      simp only [hb]
      simp⟩
    rw [World.cell?_alloc_mark]
    match d, hd with
    | 0, _ => rfl
    | 1, _ => rfl
    | 2, _ => rfl
    | 3, _ => rfl
  have HU0 := Lib.hid hU0
  clear hU0
  go_loopw [10] (fun i wr => ∃ k : Nat, i = .int .i64 (k : Int) ∧ k ≤ ps.length ∧ Hid (UsedAt wr w.heap.size ps k) ∧ Below w.heap.size w wr ∧ w.heap.size + 1 ≤ wr.heap.size ∧ Hid (PlacesOk n (ps.take k))) (fun i _ => ps.length - (intOf i).toNat)
  case atStart => exact ⟨0, rfl, by omega, HU0, (Below.refl _ _).alloc (Nat.le_refl _) _, by simp, fun j hj => by simp at hj⟩
  case round =>
    obtain ⟨k, rfl, hk, hU, hB, hsz, hok⟩ := hrel
    by_cases hlt : k < ps.length
    · obtain ⟨b, off, rfl, hc⟩ := (hx.out.below hB).resolve_left (fun e => by subst e; simp at hlt)
      obtain ⟨c1, c2⟩ := hc k hlt
      clear hc
      generalize hg : ps.getD k pl0 = q at c1 c2
      have Hg := Lib.hid hg
      clear hg
      obtain ⟨d, s⟩ := q
      simp only at c1 c2
      have HA : Hid (Below w.heap.size w (wr.alloc (.cells #[.int .i64 d, .int .i64 s] 82))) := hB.alloc (by omega) _
      have hUa := Lib.hid (hU.out.alloc (.cells #[.int .i64 d, .int .i64 s] 82))
      by_cases h1 : d < 0
      · have HR := Lib.hid (tt_false (P := PlacesOk n ps) (fun h => by have := (h k hlt).1.1; rw [Hg.out] at this; simp at this; omega))
        have e1 : decide (d < 0) = true := by simp; omega
        go_wp2
        go_ret
        exact ⟨ret_bool' HR.out.symm, HA.out⟩
      · have e1 : decide (d < 0) = false := by simp; omega
        obtain ⟨dn, rfl⟩ := Int.eq_ofNat_of_zero_le (show 0 ≤ d by omega)
        by_cases h2 : n ≤ (dn : Int)
        · have HR := Lib.hid (tt_false (P := PlacesOk n ps) (fun h => by have := (h k hlt).1.2.1; rw [Hg.out] at this; simp at this; omega))
          have e2 : decide (n ≤ (dn : Int)) = true := by simp; omega
          go_wp2
          go_ret
          exact ⟨ret_bool' HR.out.symm, HA.out⟩
        · have e2 : decide (n ≤ (dn : Int)) = false := by simp; omega
          by_cases h3 : s < 0
          · have HR := Lib.hid (tt_false (P := PlacesOk n ps) (fun h => by have := (h k hlt).1.2.2.1; rw [Hg.out] at this; simp at this; omega))
            have e3 : decide (s < 0) = true := by simp; omega
            go_wp2
            go_ret
            exact ⟨ret_bool' HR.out.symm, HA.out⟩
          · have e3 : decide (s < 0) = false := by simp; omega
            by_cases h4 : 12 ≤ s
            · have HR := Lib.hid (tt_false (P := PlacesOk n ps) (fun h => by have := (h k hlt).1.2.2.2; rw [Hg.out] at this; simp at this; omega))
              have e4 : decide (12 ≤ s) = true := by simp; omega
              go_wp2
              go_ret
              exact ⟨ret_bool' HR.out.symm, HA.out⟩
            · have e4 : decide (12 ≤ s) = false := by simp; omega
              have hd4 : dn < 4 := by omega
              obtain ⟨cu, fu⟩ := hUa.out dn hd4
              by_cases h5 : UsedBy ps k dn
              · have HR := Lib.hid (tt_false (P := PlacesOk n ps) (fun h => by
                  obtain ⟨j, hj, hx⟩ := h5
                  have := (h k hlt).2 j hj
                  rw [Hg.out, hx] at this
                  simp at this))
                rw [tt_true h5] at cu
                clear h5
                go_wp2
                go_ret
                exact ⟨ret_bool' HR.out.symm, HA.out⟩
              · have HN : Hid (UsedAt ((wr.alloc (.cells #[.int .i64 (dn : Int), .int .i64 s] 82)).setCell ⟨w.heap.size, dn, none⟩ (.bool true)) w.heap.size ps (k + 1)) := hUa.out.next dn hd4 (by rw [Hg.out])
                have HO : Hid (PlacesOk n (ps.take (k + 1))) := placesOk_next hlt hok.out (by rw [Hg.out]; simp; omega) (fun i hi => by
                  rw [Hg.out]
                  exact fun e => h5 ⟨i, hi, e⟩)
                have HB2 : Hid (Below w.heap.size w ((wr.alloc (.cells #[.int .i64 (dn : Int), .int .i64 s] 82)).setCell ⟨w.heap.size, dn, none⟩ (.bool true))) := HA.out.setCell (p := ⟨w.heap.size, dn, none⟩) (Nat.le_refl _) _
                rw [tt_false h5] at cu
                clear h5
                go_wp2
                exact ⟨⟨k + 1, by go_num, by omega, HN, HB2.out, by simp; omega, HO⟩, by simp [intOf]; omega⟩
    · have HR := Lib.hid (tt_true (P := PlacesOk n ps) (by have := hok.out; rw [List.take_of_length_le (by omega)] at this; exact this))
      go_wp2
      go_ret
      exact ⟨ret_bool' HR.out.symm, hB⟩

end Go.Proofs.YtceielkcplcccaaGreatDoor

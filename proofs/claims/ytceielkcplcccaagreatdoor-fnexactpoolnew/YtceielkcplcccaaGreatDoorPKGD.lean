/- Lists of disks: how they lie in memory, the exact laws' own helpers over them, whether all are ok. Conditions: the row's own bound on sizes. Lists with one element more. Conditions: none. -/
import Derived.Test.YtceielkcplcccaaGreatDoorPKG0
import Derived.Test.YtceielkcplcccaaGreatDoorPKG9
import Derived.Test.YtceielkcplcccaaGreatDoorPKG6
import Derived.Test.YtceielkcplcccaaGreatDoorPKMK
namespace Go.Proofs.YtceielkcplcccaaGreatDoor
open Go.RowKit Go.Sort

/-- DISKS THAT LIE BEHIND AN ADDRESS. -/
def DksAt (w : World) (a : Option Addr) (ds : List DiskD) : Prop :=
  ds = [] ∨ ∃ b off, a = some ⟨b, off, none⟩ ∧ ∀ j, j < ds.length → ∃ v1 v2 v3 v4, w.cell? ⟨b, off + j * 5, none⟩ = some (.int .i64 (ds.getD j disk0).state) ∧ w.cell? ⟨b, off + j * 5 + 1, none⟩ = some v1 ∧ w.cell? ⟨b, off + j * 5 + 2, none⟩ = some v2 ∧ w.cell? ⟨b, off + j * 5 + 3, none⟩ = some v3 ∧ w.cell? ⟨b, off + j * 5 + 4, none⟩ = some v4 ∧ DiskV w (.agg #[.int .i64 (ds.getD j disk0).state, v1, v2, v3, v4]) (ds.getD j disk0)
def DksV (w : World) (v : Value) (ds : List DiskD) : Prop := ∃ a cap, v = .slice a ds.length cap ∧ ds.length ≤ cap ∧ cap ≤ maxLen ∧ DksAt w a ds
theorem DksAt.below {w w' : World} {a : Option Addr} {ds : List DiskD} (h : DksAt w a ds) (hB : Below w.heap.size w w') : DksAt w' a ds := by
  rcases h with h | ⟨b, off, e, hc⟩
  · exact .inl h
  · refine .inr ⟨b, off, e, fun j hj => ?_⟩
    obtain ⟨v1, v2, v3, v4, h0, h1, h2, h3, h4, hv⟩ := hc j hj
    exact ⟨v1, v2, v3, v4, cell_below hB h0, cell_below hB h1, cell_below hB h2, cell_below hB h3, cell_below hB h4, hv.below hB⟩
/-- One disk of a list, its slices laid open. -/
theorem DksAt.at {w : World} {a : Option Addr} {ds : List DiskD} (h : DksAt w a ds) (k : Nat) (hk : k < ds.length) : ∃ b off a1 n1 c1 a2 n2 c2 a3 n3 c3 a4 n4 c4, a = some ⟨b, off, none⟩ ∧ w.cell? ⟨b, off + k * 5, none⟩ = some (.int .i64 (ds.getD k disk0).state) ∧ w.cell? ⟨b, off + k * 5 + 1, none⟩ = some (.slice a1 n1 c1) ∧ w.cell? ⟨b, off + k * 5 + 2, none⟩ = some (.slice a2 n2 c2) ∧ w.cell? ⟨b, off + k * 5 + 3, none⟩ = some (.slice a3 n3 c3) ∧ w.cell? ⟨b, off + k * 5 + 4, none⟩ = some (.slice a4 n4 c4) ∧ DiskV w (.agg #[.int .i64 (ds.getD k disk0).state, .slice a1 n1 c1, .slice a2 n2 c2, .slice a3 n3 c3, .slice a4 n4 c4]) (ds.getD k disk0) := by
  obtain ⟨b, off, e, hc⟩ := h.resolve_left (fun e => by subst e; simp at hk)
  obtain ⟨v1, v2, v3, v4, h0, h1, h2, h3, h4, hv⟩ := hc k hk
  have hv' := hv
  obtain ⟨u1, u2, u3, u4, eu, ⟨a1, c1, e1, _⟩, ⟨a2, c2, e2, _⟩, ⟨a3, c3, e3, _⟩, ⟨a4, c4, e4, _⟩⟩ := hv
  cases eu
  subst e1
  subst e2
  subst e3
  subst e4
  exact ⟨b, off, _, _, _, _, _, _, _, _, _, _, _, _, e, h0, h1, h2, h3, h4, hv'⟩

def DksSmall (ds : List DiskD) : Prop := ds.length ≤ 1048576 ∧ ∀ j, j < ds.length → DiskSmall (ds.getD j disk0)

theorem infoDk : (Tryz.prog.info? 37).map (fun i => (i.zero, i.size, i.bytes)) = some (some (.agg #[.int .i64 0, .slice none 0 0, .slice none 0 0, .slice none 0 0, .slice none 0 0]), 5, 104) := by kernel_rfl
/-- DISKS IN A ROW, the first k of them there. -/
def DkRow (w : World) (base : Nat) (ds : List DiskD) (k : Nat) (xs : List Value) : Prop :=
  xs.length = ds.length * 5 ∧ ∀ j, j < k → ∃ v1 v2 v3 v4, xs[j * 5]? = some (.int .i64 (ds.getD j disk0).state) ∧ xs[j * 5 + 1]? = some v1 ∧ xs[j * 5 + 2]? = some v2 ∧ xs[j * 5 + 3]? = some v3 ∧ xs[j * 5 + 4]? = some v4 ∧ OwnDisk w base (.agg #[.int .i64 (ds.getD j disk0).state, v1, v2, v3, v4]) (ds.getD j disk0)
theorem DkRow.below {w w' : World} {base : Nat} {ds : List DiskD} {k : Nat} {xs : List Value} (h : DkRow w base ds k xs) (hB : Below w.heap.size w w') : DkRow w' base ds k xs :=
  ⟨h.1, fun j hj => by obtain ⟨v1, v2, v3, v4, q0, q1, q2, q3, q4, hv⟩ := h.2 j hj; exact ⟨v1, v2, v3, v4, q0, q1, q2, q3, q4, hv.below hB⟩⟩
theorem DkRow.far {w : World} {base : Nat} {ds : List DiskD} {k : Nat} {xs : List Value} (h : DkRow w base ds k xs) (p o : Nat) (u : Value) (hp : p < base) : DkRow (w.setCell ⟨p, o, none⟩ u) base ds k xs :=
  ⟨h.1, fun j hj => by obtain ⟨v1, v2, v3, v4, q0, q1, q2, q3, q4, hv⟩ := h.2 j hj; exact ⟨v1, v2, v3, v4, q0, q1, q2, q3, q4, hv.far p o u hp⟩⟩
theorem DkRow.next {w : World} {base : Nat} {ds : List DiskD} {k : Nat} {xs : List Value} {st : Int} {v1 v2 v3 v4 : Value} (h : DkRow w base ds k xs) (hk : k < ds.length) (h1 : (ds.getD k disk0).state = st) (h2 : OwnDisk w base (.agg #[.int .i64 st, v1, v2, v3, v4]) (ds.getD k disk0)) :
    DkRow w base ds (k + 1) (((((xs.set (k * 5) (.int .i64 st)).set (k * 5 + 1) v1).set (k * 5 + 2) v2).set (k * 5 + 3) v3).set (k * 5 + 4) v4) := by
  have hl := h.1
  refine ⟨by simp only [List.length_set]; exact hl, fun j hj => ?_⟩
  by_cases e : j = k
  · subst e
    refine ⟨v1, v2, v3, v4, ?_, ?_, ?_, ?_, ?_, by rw [h1]; exact h2⟩
    · rw [List.getElem?_set_ne (by omega), List.getElem?_set_ne (by omega), List.getElem?_set_ne (by omega), List.getElem?_set_ne (by omega), List.getElem?_set_self (by omega), h1]
    · rw [List.getElem?_set_ne (by omega), List.getElem?_set_ne (by omega), List.getElem?_set_ne (by omega), List.getElem?_set_self (by simp only [List.length_set]; omega)]
    · rw [List.getElem?_set_ne (by omega), List.getElem?_set_ne (by omega), List.getElem?_set_self (by simp only [List.length_set]; omega)]
    · rw [List.getElem?_set_ne (by omega), List.getElem?_set_self (by simp only [List.length_set]; omega)]
    · rw [List.getElem?_set_self (by simp only [List.length_set]; omega)]
  · obtain ⟨u1, u2, u3, u4, q0, q1, q2, q3, q4, hv⟩ := h.2 j (by omega)
    refine ⟨u1, u2, u3, u4, ?_, ?_, ?_, ?_, ?_, hv⟩
    all_goals rw [List.getElem?_set_ne (by omega), List.getElem?_set_ne (by omega), List.getElem?_set_ne (by omega), List.getElem?_set_ne (by omega), List.getElem?_set_ne (by omega)]; assumption
theorem DkRow.reads {w : World} {base : Nat} {ds : List DiskD} {xs : List Value} {g cap : Nat} {b0 : Nat} (h : DkRow w base ds ds.length xs) (ho : w.ownsRow b0 37 5 (.slice (some ⟨g, 0, none⟩) ds.length cap) ds.length xs) : DksV w (.slice (some ⟨g, 0, none⟩) ds.length cap) ds := by
  have ho' := ho
  rcases ho.2 with ⟨hv, _⟩ | ⟨g', cap', cur, hv, hb, hg, hkc, hcm, _⟩
  · cases hv
  · cases hv
    refine ⟨_, cap, rfl, hkc, hcm, .inr ⟨g, 0, rfl, fun j hj => ?_⟩⟩
    obtain ⟨v1, v2, v3, v4, q0, q1, q2, q3, q4, hv⟩ := h.2 j hj
    rw [Nat.zero_add]
    exact ⟨v1, v2, v3, v4, (own_cell ho' (j * 5) (by omega)).1.trans q0, (own_cell ho' (j * 5 + 1) (by omega)).1.trans q1, (own_cell ho' (j * 5 + 2) (by omega)).1.trans q2, (own_cell ho' (j * 5 + 3) (by omega)).1.trans q3, (own_cell ho' (j * 5 + 4) (by omega)).1.trans q4, hv.reads⟩

set_option maxRecDepth 100000 in
set_option maxHeartbeats 2000000 in
theorem eqDiskS_same (a b : Option Addr) (ca cb : Nat) (ds : List DiskD) (w : World) (hl : ds.length ≤ maxLen) (ha : Hid (DksAt w a ds)) (hb : Hid (DksAt w b ds)) :
    Calls Tryz.prog 16 #[.slice a ds.length ca, .slice b ds.length cb] w fun e w' => e = .returned (.bool true) ∧ Below w.heap.size w w' := by
  unfold maxLen at hl
  have d0 : ((ds.length : Int) != (ds.length : Int)) = false := by simp
  go_enter Tryz.func16, Tryz.ntmps16
  go_wp2_with fail
  go_loopw [5] (fun i wr => ∃ k : Nat, i = .int .i64 (k : Int) ∧ k ≤ ds.length ∧ Hid (Below w.heap.size w wr)) (fun i _ => ds.length - (intOf i).toNat)
  case atStart => exact ⟨0, rfl, by omega, Below.refl _ _⟩
  case round =>
    obtain ⟨k, rfl, hk, hB⟩ := hrel
    by_cases hlt : k < ds.length
    · obtain ⟨b1, o1, a1, n1, c1, a2, n2, c2, a3, n3, c3, a4, n4, c4, rfl, e0, e1, e2, e3, e4, hv⟩ := (ha.out.below hB.out).at k hlt
      obtain ⟨b2, o2, f1, m1, g1, f2, m2, g2, f3, m3, g3, f4, m4, g4, rfl, r0, r1, r2, r3, r4, hu⟩ := (hb.out.below hB.out).at k hlt
      have HE := Lib.hid (fun w' (hw : Below wr.heap.size wr w') => eqDisk_same _ _ _ w' (hv.below hw) (hu.below hw))
      generalize ds.getD k disk0 = q at e0 r0 HE
      obtain ⟨st, xs, ys, bs, ps⟩ := q
      simp only at e0 r0 HE
      have t0 := cell_regrown e0
      have t1 := cell_regrown e1
      have t2 := cell_regrown e2
      have t3 := cell_regrown e3
      have t4 := cell_regrown e4
      have s0 := cell_regrown r0
      have s1 := cell_regrown r1
      have s2 := cell_regrown r2
      have s3 := cell_regrown r3
      have s4 := cell_regrown r4
      clear e0 e1 e2 e3 e4 r0 r1 r2 r3 r4 hv hu
      have i1 : (k : Int) < (ds.length : Int) := by omega
      have i0 : (0 : Int) ≤ (k : Int) := by omega
      go_wp2_with fail
      refine wp_region_quiet_below (by kernel_rfl) (by kernel_rfl) ?_
      repeat (go_big_quiet_step ((go_at_call 32; with_reducible exact Calls.regrown_of (HE.out _ (below_regrown _ _ _)))))
      refine wpQuiet_nil ?_
      intro w9 hw9
      have HB9 : Hid (Below w.heap.size w w9) := by obtain ⟨p, rfl⟩ := hw9; exact rg_below hB.out _ _
      clear hw9
      go_wp2
      exact ⟨⟨k + 1, by go_num, by omega, HB9⟩, by simp [intOf]; omega⟩
    · go_wp2
      go_ret
      exact ⟨rfl, hB.out⟩

/-- ALL DISKS ARE OK. -/
def AllDk (ds : List DiskD) : Prop := ∀ j, j < ds.length → DiskFine (ds.getD j disk0)

def StripeFine (ds : List DiskD) : Prop := Pool (ds.length : Int) ∧ AllDk ds

end Go.Proofs.YtceielkcplcccaaGreatDoor

namespace Go.Proofs.YtceielkcplcccaaGreatDoor
open Go.RowKit

/-- A write more at the end of a chain. -/
theorem getD_snoc_lt {α : Type} (l : List α) (x d : α) (j : Nat) (h : j < l.length) : (l ++ [x]).getD j d = l.getD j d := by
  rw [List.getD, List.getElem?_append_left h]; rfl
theorem getD_snoc_eq {α : Type} (l : List α) (x d : α) : (l ++ [x]).getD l.length d = x := by
  rw [List.getD, List.getElem?_append_right (Nat.le_refl _)]; simp
theorem get_snoc_eq {α : Type} (l : List α) (x : α) : (l ++ [x])[l.length]? = some x := by
  rw [List.getElem?_append_right (Nat.le_refl _)]; simp

end Go.Proofs.YtceielkcplcccaaGreatDoor

/- Pointers, volumes and roots as plain data, when they are ok, and how they lie in memory. Conditions: none. Numbers within bounds. Conditions: none. A byte of a text, nought behind its end. Conditions: none. Names of volumes. Conditions: none but the row's own bound on sizes. Rows of one's own and worlds that have grown: what several texts share. Conditions: none. Small functions of chapter 2: how many disks a pool has, how many columns a text, whether a pointer is nothing. Conditions: none. -/
import Derived.WalkKit
import Derived.Lib.Hide
import Derived.Below
import Derived.Test.YtliadobopideaaaGreatDoorRows
import Derived.Deep.QuietTactic
import Derived.BigQuiet
import Derived.IntWalk
import Derived.RangeFuncNested
import Derived.RangeFuncBound
import Derived.RangeFuncCalls
import Derived.RangeFuncLeaves
import Derived.RangeFuncWrites
import Derived.RangeFuncBox
import Derived.Shelf.Abstract
import Derived.Shelf.RegionOpen
import Derived.OwnWalkIn
import Derived.TacticsInMore
import Derived.LoopNIn
import Derived.LoopIn
import Derived.OwnWalk
import Derived.Maps.Range
import Derived.Lib.QuietBelow
import Derived.Deep.RegionHeld3
import Derived.Deep.AppendLies
import Derived.Laws.BytesArg
namespace Go.Proofs.YtliadobopideaaaGreatDoor
open Go.RowKit

/-- A TRUTH VALUE of a statement. -/
noncomputable def tt (P : Prop) : Bool := @decide P (Classical.propDecidable P)
theorem tt_true {P : Prop} (h : P) : tt P = true := by unfold tt; exact @decide_eq_true P (Classical.propDecidable P) h
theorem tt_false {P : Prop} (h : ¬P) : tt P = false := by unfold tt; exact @decide_eq_false P (Classical.propDecidable P) h
theorem tt_iff (P : Prop) : tt P = true ↔ P := by
  unfold tt; exact @decide_eq_true_iff P (Classical.propDecidable P)
theorem tt_congr {P Q : Prop} (h : P ↔ Q) : tt P = tt Q := by rw [propext h]
theorem ret_bool' {a b : Bool} (h : a = b) : Ending.returned (.bool a) = .returned (.bool b) := by rw [h]

abbrev PlD := Int × Int
structure PtrD where
  size : Int
  sum : Int
  places : List PlD
structure VolD where
  name : ByteArray
  blocks : List PtrD
structure RootD where
  txg : Int
  vols : List VolD

def pl0 : PlD := (0, 0)
def ptr0 : PtrD := ⟨0, 0, []⟩
def vol0 : VolD := ⟨ByteArray.empty, []⟩

/-- PLACES of a pool of n disks, on disks of their own. -/
def PlacesOk (n : Int) (ps : List PlD) : Prop :=
  ∀ j, j < ps.length → (0 ≤ (ps.getD j pl0).1 ∧ (ps.getD j pl0).1 ≤ n - 1 ∧ 0 ≤ (ps.getD j pl0).2 ∧ (ps.getD j pl0).2 ≤ 11) ∧ ∀ i, i < j → (ps.getD i pl0).1 ≠ (ps.getD j pl0).1
def Pool (n : Int) : Prop := 3 ≤ n ∧ n ≤ 4
def Nothing (p : PtrD) : Prop := p.size = 0 ∧ p.sum = 0 ∧ p.places = []
def Told (n : Int) (p : PtrD) : Prop :=
  1 ≤ p.size ∧ p.size ≤ 3 * min 3 (n - 1) ∧ 0 ≤ p.sum ∧ p.sum ≤ 1000000000 ∧ (p.places.length : Int) = (p.size + 2) / 3 + 1 ∧ PlacesOk n p.places
/-- A POINTER IS OK in a pool of n disks. -/
def PtrFine (n : Int) (p : PtrD) : Prop := Nothing p ∨ Told n p
def PtrOkP (n : Int) (p : PtrD) : Prop := Pool n ∧ PtrFine n p

/-- PLACES THAT LIE BEHIND AN ADDRESS. -/
def PlacesAt (w : World) (a : Option Addr) (ps : List PlD) : Prop :=
  ps = [] ∨ ∃ b off, a = some ⟨b, off, none⟩ ∧ ∀ j, j < ps.length → w.cell? ⟨b, off + j * 2, none⟩ = some (.int .i64 (ps.getD j pl0).1) ∧ w.cell? ⟨b, off + j * 2 + 1, none⟩ = some (.int .i64 (ps.getD j pl0).2)
/-- A SLICE OF PLACES. -/
def PlacesV (w : World) (v : Value) (ps : List PlD) : Prop := ∃ a cap, v = .slice a ps.length cap ∧ ps.length ≤ cap ∧ cap ≤ maxLen ∧ PlacesAt w a ps
/-- POINTERS THAT LIE BEHIND AN ADDRESS. -/
def PtrsAt (w : World) (a : Option Addr) (ps : List PtrD) : Prop :=
  ps = [] ∨ ∃ b off, a = some ⟨b, off, none⟩ ∧ ∀ j, j < ps.length → w.cell? ⟨b, off + j * 3, none⟩ = some (.int .i64 (ps.getD j ptr0).size) ∧ w.cell? ⟨b, off + j * 3 + 1, none⟩ = some (.int .i64 (ps.getD j ptr0).sum) ∧
    ∃ v, w.cell? ⟨b, off + j * 3 + 2, none⟩ = some v ∧ PlacesV w v (ps.getD j ptr0).places
def PtrsV (w : World) (v : Value) (ps : List PtrD) : Prop := ∃ a cap, v = .slice a ps.length cap ∧ ps.length ≤ cap ∧ cap ≤ maxLen ∧ PtrsAt w a ps
/-- VOLUMES THAT LIE BEHIND AN ADDRESS. -/
def VolsAt (w : World) (a : Option Addr) (vs : List VolD) : Prop :=
  vs = [] ∨ ∃ b off, a = some ⟨b, off, none⟩ ∧ ∀ j, j < vs.length → w.cell? ⟨b, off + j * 2, none⟩ = some (.string (vs.getD j vol0).name) ∧
    ∃ v, w.cell? ⟨b, off + j * 2 + 1, none⟩ = some v ∧ PtrsV w v (vs.getD j vol0).blocks
def VolsV (w : World) (v : Value) (vs : List VolD) : Prop := ∃ a cap, v = .slice a vs.length cap ∧ vs.length ≤ cap ∧ cap ≤ maxLen ∧ VolsAt w a vs

theorem cell_below {w w' : World} {b o : Nat} {v : Value} (hB : Below w.heap.size w w') (h : w.cell? ⟨b, o, none⟩ = some v) : w'.cell? ⟨b, o, none⟩ = some v :=
  (hB.cell (p := ⟨b, o, none⟩) (World.block_lt_of_cell? w _ h)).trans h
theorem PlacesAt.below {w w' : World} {a : Option Addr} {ps : List PlD} (h : PlacesAt w a ps) (hB : Below w.heap.size w w') : PlacesAt w' a ps := by
  rcases h with h | ⟨b, off, e, hc⟩
  · exact .inl h
  · exact .inr ⟨b, off, e, fun j hj => ⟨cell_below hB (hc j hj).1, cell_below hB (hc j hj).2⟩⟩
theorem PlacesV.below {w w' : World} {v : Value} {ps : List PlD} (h : PlacesV w v ps) (hB : Below w.heap.size w w') : PlacesV w' v ps := by
  obtain ⟨a, cap, e, h1, h2, h3⟩ := h
  exact ⟨a, cap, e, h1, h2, h3.below hB⟩
theorem PtrsAt.below {w w' : World} {a : Option Addr} {ps : List PtrD} (h : PtrsAt w a ps) (hB : Below w.heap.size w w') : PtrsAt w' a ps := by
  rcases h with h | ⟨b, off, e, hc⟩
  · exact .inl h
  · refine .inr ⟨b, off, e, fun j hj => ?_⟩
    obtain ⟨h1, h2, v, h3, h4⟩ := hc j hj
    exact ⟨cell_below hB h1, cell_below hB h2, v, cell_below hB h3, h4.below hB⟩
theorem PtrsV.below {w w' : World} {v : Value} {ps : List PtrD} (h : PtrsV w v ps) (hB : Below w.heap.size w w') : PtrsV w' v ps := by
  obtain ⟨a, cap, e, h1, h2, h3⟩ := h
  exact ⟨a, cap, e, h1, h2, h3.below hB⟩
theorem VolsAt.below {w w' : World} {a : Option Addr} {vs : List VolD} (h : VolsAt w a vs) (hB : Below w.heap.size w w') : VolsAt w' a vs := by
  rcases h with h | ⟨b, off, e, hc⟩
  · exact .inl h
  · refine .inr ⟨b, off, e, fun j hj => ?_⟩
    obtain ⟨h1, v, h3, h4⟩ := hc j hj
    exact ⟨cell_below hB h1, v, cell_below hB h3, h4.below hB⟩
theorem VolsV.below {w w' : World} {v : Value} {vs : List VolD} (h : VolsV w v vs) (hB : Below w.heap.size w w') : VolsV w' v vs := by
  obtain ⟨a, cap, e, h1, h2, h3⟩ := h
  exact ⟨a, cap, e, h1, h2, h3.below hB⟩

end Go.Proofs.YtliadobopideaaaGreatDoor

namespace Go.Proofs.YtliadobopideaaaGreatDoor
open Go.RowKit

set_option maxHeartbeats 400000 in
theorem in_yes (n lo hi : Int) (w : World) (h : lo ≤ n ∧ n ≤ hi) :
    Calls Tryz.prog 55 #[.int .i64 n, .int .i64 lo, .int .i64 hi] w fun e w' => e = .returned (.bool true) ∧ w = w' := by
  have h1 : decide (lo ≤ n) = true := by simp; omega
  have h2 : decide (n ≤ hi) = true := by simp; omega
  go_enter Tryz.func55, Tryz.ntmps55
  go_wp2
  go_ret
  exact ⟨rfl, rfl⟩

set_option maxHeartbeats 400000 in
theorem in_no (n lo hi : Int) (w : World) (h : ¬(lo ≤ n ∧ n ≤ hi)) :
    Calls Tryz.prog 55 #[.int .i64 n, .int .i64 lo, .int .i64 hi] w fun e w' => e = .returned (.bool false) ∧ w = w' := by
  by_cases hl : lo ≤ n
  · have h1 : decide (lo ≤ n) = true := by simp; omega
    have h2 : decide (n ≤ hi) = false := by simp; omega
    clear h
    go_enter Tryz.func55, Tryz.ntmps55
    go_wp2
    go_ret
    exact ⟨rfl, rfl⟩
  · have h1 : decide (lo ≤ n) = false := by simp; omega
    clear h
    go_enter Tryz.func55, Tryz.ntmps55
    go_wp2
    go_ret
    exact ⟨rfl, rfl⟩
theorem in_any (n lo hi : Int) (w : World) :
    Calls Tryz.prog 55 #[.int .i64 n, .int .i64 lo, .int .i64 hi] w fun e w' => e = .returned (.bool (tt (lo ≤ n ∧ n ≤ hi))) ∧ w = w' := by
  by_cases h : lo ≤ n ∧ n ≤ hi
  · rw [tt_true h]; exact in_yes n lo hi w h
  · rw [tt_false h]; exact in_no n lo hi w h

end Go.Proofs.YtliadobopideaaaGreatDoor

namespace Go.Proofs.YtliadobopideaaaGreatDoor
open Go.RowKit Go.Shelf

/-- THE BYTE AT A PLACE OF A TEXT, nought behind its end. -/
def byteAt (s : ByteArray) (i : Nat) : Int := ((s.data.toList[i]?.getD 0).toNat : Int)

theorem byteAt_bd (s : ByteArray) (i : Nat) : 0 ≤ byteAt s i ∧ byteAt s i ≤ 255 := by
  unfold byteAt
  have := (s.data.toList[i]?.getD 0).toNat_lt
  omega

theorem byteAt_lt {s : ByteArray} {i : Nat} (h : i < s.size) : byteAt s i = (s[i].toNat : Int) := by
  unfold byteAt
  have h' : i < s.data.toList.length := by simpa using h
  rw [List.getElem?_eq_getElem h']
  rfl

theorem byteAt_ge {s : ByteArray} {i : Nat} (h : s.size ≤ i) : byteAt s i = 0 := by
  unfold byteAt
  have h' : s.data.toList.length ≤ i := by simpa using h
  rw [List.getElem?_eq_none h']
  rfl

theorem ret_int {k : IntKind} {a b : Int} (h : a = b) : Ending.returned (.int k a) = .returned (.int k b) := by rw [h]


end Go.Proofs.YtliadobopideaaaGreatDoor

namespace Go.Proofs.YtliadobopideaaaGreatDoor
open Go.RowKit Go.Sort

/-- A NAME of a volume. -/
def NameOk (s : ByteArray) : Prop := (1 ≤ s.size ∧ s.size ≤ 3) ∧ ∀ i, i < s.size → 97 ≤ byteAt s i ∧ byteAt s i ≤ 122

set_option maxRecDepth 100000 in
set_option maxHeartbeats 1000000 in
theorem l2Name_any (s : ByteArray) (w : World) (hs : s.size ≤ maxLen) :
    Calls Tryz.prog 87 #[.string s] w fun e w' => e = .returned (.bool (tt (NameOk s))) ∧ w = w' := by
  unfold maxLen at hs
  by_cases h : 1 ≤ (s.size : Int) ∧ (s.size : Int) ≤ 3
  · go_enter Tryz.func87, Tryz.ntmps87
    go_wp2_with fail
    refine (in_yes _ _ _ _ h).mono ?_
    rintro e w1 ⟨rfl, rfl⟩
    go_wp2_with fail
    go_loop [3] (fun i => ∃ k : Nat, i = .int .i64 (k : Int) ∧ k ≤ s.size ∧ Hid (∀ j, j < k → 97 ≤ byteAt s j ∧ byteAt s j ≤ 122)) (fun i => s.size - (intOf i).toNat)
    case atStart => exact ⟨0, rfl, by omega, fun j hj => by omega⟩
    case round =>
      obtain ⟨k, rfl, hk, hall⟩ := hrel
      by_cases hlt : k < s.size
      · have HE := Lib.hid (byteAt_lt hlt)
        have hb := byteAt_bd s k
        rw [HE.out] at hb
        by_cases h1 : (s[k].toNat : Int) < 97
        · have d1 : decide ((s[k].toNat : Int) < 97) = true := by simp; omega
          have HF := Lib.hid (tt_false (P := NameOk s) (fun h => by have := (h.2 k hlt).1; rw [HE.out] at this; omega))
          go_wp2
          go_ret
          exact ⟨ret_bool' HF.out.symm, rfl⟩
        · have d1 : decide ((s[k].toNat : Int) < 97) = false := by simp; omega
          by_cases h2 : 122 < (s[k].toNat : Int)
          · have d2 : decide (122 < (s[k].toNat : Int)) = true := by simp; omega
            have HF := Lib.hid (tt_false (P := NameOk s) (fun h => by have := (h.2 k hlt).2; rw [HE.out] at this; omega))
            go_wp2
            go_ret
            exact ⟨ret_bool' HF.out.symm, rfl⟩
          · have d2 : decide (122 < (s[k].toNat : Int)) = false := by simp; omega
            have HN : Hid (∀ j, j < k + 1 → 97 ≤ byteAt s j ∧ byteAt s j ≤ 122) := fun j hj => by
              by_cases e : j = k
              · subst e; rw [HE.out]; omega
              · exact hall.out j (by omega)
            go_wp2
            exact ⟨⟨k + 1, by go_num, by omega, HN⟩, by simp [intOf]; omega⟩
      · have HF := Lib.hid (tt_true (P := NameOk s) ⟨by omega, fun j hj => hall.out j (by omega)⟩)
        go_wp2
        go_ret
        exact ⟨ret_bool' HF.out.symm, rfl⟩
  · have HF := Lib.hid (tt_false (P := NameOk s) (fun k => h (by have := k.1; omega)))
    go_enter Tryz.func87, Tryz.ntmps87
    go_wp2_with fail
    refine (in_no _ _ _ _ h).mono ?_
    rintro e w1 ⟨rfl, rfl⟩
    clear h
    go_wp2
    go_ret
    exact ⟨ret_bool' HF.out.symm, rfl⟩

set_option maxRecDepth 100000 in
set_option maxHeartbeats 1000000 in
theorem isName_any (s : ByteArray) (w : World) (hs : s.size ≤ maxLen) :
    Calls Tryz.prog 67 #[.string s] w fun e w' => e = .returned (.bool (tt (NameOk s))) ∧ w = w' := by
  unfold maxLen at hs
  by_cases h1 : s.size < 1
  · have d1 : decide ((s.size : Int) < 1) = true := by simp; omega
    have HF := Lib.hid (tt_false (P := NameOk s) (fun k => by have := k.1; omega))
    clear h1
    go_enter Tryz.func67, Tryz.ntmps67
    go_wp2
    go_ret
    exact ⟨ret_bool' HF.out.symm, rfl⟩
  · have d1 : decide ((s.size : Int) < 1) = false := by simp; omega
    by_cases h2 : 3 < s.size
    · have d2 : decide (3 < (s.size : Int)) = true := by simp; omega
      have HF := Lib.hid (tt_false (P := NameOk s) (fun k => by have := k.1; omega))
      go_enter Tryz.func67, Tryz.ntmps67
      go_wp2
      go_ret
      exact ⟨ret_bool' HF.out.symm, rfl⟩
    · have d2 : decide (3 < (s.size : Int)) = false := by simp; omega
      go_enter Tryz.func67, Tryz.ntmps67
      go_wp2_with fail
      go_loop [14] (fun i => ∃ k : Nat, i = .int .i64 (k : Int) ∧ k ≤ s.size ∧ Hid (∀ j, j < k → 97 ≤ byteAt s j ∧ byteAt s j ≤ 122)) (fun i => s.size - (intOf i).toNat)
      case atStart => exact ⟨0, rfl, by omega, fun j hj => by omega⟩
      case round =>
        obtain ⟨k, rfl, hk, hall⟩ := hrel
        by_cases hlt : k < s.size
        · have HE := Lib.hid (byteAt_lt hlt)
          have hb := byteAt_bd s k
          rw [HE.out] at hb
          by_cases h3 : (s[k].toNat : Int) < 97
          · have d3 : decide ((s[k].toNat : Int) < 97) = true := by simp; omega
            have HF := Lib.hid (tt_false (P := NameOk s) (fun h => by have := (h.2 k hlt).1; rw [HE.out] at this; omega))
            go_wp2
            go_ret
            exact ⟨ret_bool' HF.out.symm, rfl⟩
          · have d3 : decide ((s[k].toNat : Int) < 97) = false := by simp; omega
            by_cases h4 : 122 < (s[k].toNat : Int)
            · have d4 : decide (122 < (s[k].toNat : Int)) = true := by simp; omega
              have HF := Lib.hid (tt_false (P := NameOk s) (fun h => by have := (h.2 k hlt).2; rw [HE.out] at this; omega))
              go_wp2
              go_ret
              exact ⟨ret_bool' HF.out.symm, rfl⟩
            · have d4 : decide (122 < (s[k].toNat : Int)) = false := by simp; omega
              have HN : Hid (∀ j, j < k + 1 → 97 ≤ byteAt s j ∧ byteAt s j ≤ 122) := fun j hj => by
                by_cases e : j = k
                · subst e; rw [HE.out]; omega
                · exact hall.out j (by omega)
              go_wp2
              exact ⟨⟨k + 1, by go_num, by omega, HN⟩, by simp [intOf]; omega⟩
        · have HF := Lib.hid (tt_true (P := NameOk s) ⟨by omega, fun j hj => hall.out j (by omega)⟩)
          go_wp2
          go_ret
          exact ⟨ret_bool' HF.out.symm, rfl⟩

end Go.Proofs.YtliadobopideaaaGreatDoor

namespace Go.Proofs.YtliadobopideaaaGreatDoor
open Go.RowKit Go.Sort

/-- A cell of a row of one's own, and a store into it. -/
theorem own_cell {w : World} {base K : Nat} {e : TypeId} {g n cap : Nat} {xs : List Value} (h : w.ownsRow base e K (.slice (some ⟨g, 0, none⟩) n cap) n xs) (i : Nat) (hi : i < n * K) :
    w.cell? ⟨g, i, none⟩ = xs[i]? ∧ w.frozen? ⟨g, i, none⟩ = false ∧ base ≤ g ∧ xs.length = n * K := by
  rcases h.2 with ⟨hv, _⟩ | ⟨g', cap', cur, hv, hb, hg, hkc, hcm, hcs, hx⟩
  · cases hv
  · cases hv
    have e : (cur.toList.take (n * K))[i]? = xs[i]? := by rw [hx]
    rw [List.getElem?_take, if_pos hi, Array.getElem?_toList] at e
    refine ⟨?_, ?_, hb, h.1⟩
    · simp only [World.cell?, hg]
      exact e
    · simp [World.frozen?, hg]
theorem own_set {w : World} {base K : Nat} {e : TypeId} {g n cap : Nat} {xs : List Value} (h : w.ownsRow base e K (.slice (some ⟨g, 0, none⟩) n cap) n xs) (i : Nat) (u : Value) :
    (w.setCell ⟨g, i, none⟩ u).ownsRow base e K (.slice (some ⟨g, 0, none⟩) n cap) n (xs.set i u) := by
  rcases h.2 with ⟨hv, _⟩ | ⟨g', cap', cur, hv, hb, hg, hkc, hcm, hcs, hx⟩
  · cases hv
  · cases hv
    refine ⟨by rw [List.length_set]; exact h.1, .inr ⟨g, cap, cur.setIfInBounds i u, rfl, hb, ?_, hkc, hcm, by simp; omega, ?_⟩⟩
    · obtain ⟨hlt, hh⟩ := Array.getElem?_eq_some_iff.1 hg
      show (w.heap.modify g _)[g]? = _
      rw [Array.getElem?_eq_getElem (by rw [Array.size_modify]; exact hlt), Array.getElem_modify_self, hh]
      rfl
    · rw [Array.toList_setIfInBounds, List.take_set, hx]
theorem own_below {w w' : World} {base : Nat} {e : TypeId} {size : Nat} {v : Value} {n : Nat} {xs : List Value} (h : w.ownsRow base e size v n xs) (hB : Below w.heap.size w w') : w'.ownsRow base e size v n xs :=
  h.kept (row := none) ⟨hB.os, hB.tape, hB.output, hB.size, fun k hk _ => hB.block k hk⟩ (by cases v.ownBlock <;> simp)
theorem own_mono {w : World} {base base' K : Nat} {e : TypeId} {v : Value} {n : Nat} {xs : List Value} (h : w.ownsRow base e K v n xs) (hb : base' ≤ base) : w.ownsRow base' e K v n xs := by
  refine ⟨h.1, ?_⟩
  rcases h.2 with h | ⟨g, cap, cur, hv, hg, hr⟩
  · exact .inl h
  · exact .inr ⟨g, cap, cur, hv, Nat.le_trans hb hg, hr⟩
/-- A store into another block. -/
theorem own_other {w : World} {base K : Nat} {e : TypeId} {v : Value} {n : Nat} {xs : List Value} (h : w.ownsRow base e K v n xs) (p o : Nat) (u : Value) (hp : v.ownBlock ≠ some p) : (w.setCell ⟨p, o, none⟩ u).ownsRow base e K v n xs :=
  h.kept (row := some p) ⟨rfl, rfl, rfl, by rw [World.size_setCell]; exact Nat.le_refl _, fun k _ hne => Below.heap_setCell _ _ _ _ (fun e => hne (by rw [e]))⟩ (.inr hp)
theorem own_far {w : World} {base K : Nat} {e : TypeId} {v : Value} {n : Nat} {xs : List Value} (h : w.ownsRow base e K v n xs) (p o : Nat) (u : Value) (hp : p < base) : (w.setCell ⟨p, o, none⟩ u).ownsRow base e K v n xs :=
  own_other h p o u (fun e => by have := (h.lt p e).1; omega)
theorem bcell {W w1 : World} (hb : Below W.heap.size W w1) : (∀ b o, b < W.heap.size → w1.cell? ⟨b, o, none⟩ = W.cell? ⟨b, o, none⟩) ∧ (∀ b o, b < W.heap.size → w1.frozen? ⟨b, o, none⟩ = W.frozen? ⟨b, o, none⟩) :=
  ⟨fun b o h => hb.cell (p := ⟨b, o, none⟩) h, fun b o h => hb.frozen (p := ⟨b, o, none⟩) h⟩
theorem belowN {n : Nat} {w w' : World} (h : Below n w w') (d : Nat) : Below n w (w'.drewN d) := ⟨h.os, h.tape, h.output, h.size, h.block⟩
theorem rg_same {P : Program} {f : FuncId} {args : Array Value} {w : World} {d : Nat} {os : Array Obj} {v : Value}
    (h : Calls P f args (grow (redrawn w d) os) fun e w' => e = .returned v ∧ grow (redrawn w d) os = w') : Calls P f args (grow (redrawn w d) os) fun e w'' => e = .returned v ∧ ∃ p : Regrown, w'' = grow (redrawn w p.d) p.os :=
  Calls.regrown_of (h.mono fun _ _ ⟨he, hw⟩ => ⟨he, hw ▸ Below.refl _ _⟩)
theorem rg_below {w0 w : World} (h : Below w0.heap.size w0 w) (d : Nat) (os : Array Obj) : Below w0.heap.size w0 (grow (redrawn w d) os) := h.trans ((below_regrown w d os).mono h.size)

end Go.Proofs.YtliadobopideaaaGreatDoor

namespace Go.Proofs.YtliadobopideaaaGreatDoor
open Go.RowKit

set_option maxHeartbeats 400000 in
theorem l2Disks_any (n : Int) (w : World) :
    Calls Tryz.prog 54 #[.int .i64 n] w fun e w' => e = .returned (.bool (tt (Pool n))) ∧ w = w' := by
  go_enter Tryz.func54, Tryz.ntmps54
  go_wp2_with fail
  refine (in_any n 3 4 _).mono ?_
  rintro e w1 ⟨rfl, rfl⟩
  go_wp2
  go_ret
  exact ⟨rfl, rfl⟩

set_option maxHeartbeats 400000 in
theorem isPool_any (n : Int) (w : World) :
    Calls Tryz.prog 33 #[.int .i64 n] w fun e w' => e = .returned (.bool (tt (Pool n))) ∧ w = w' := by
  by_cases h : Pool n
  · rw [tt_true h]
    obtain ⟨a, b⟩ := h
    have h1 : decide (3 ≤ n) = true := by simp; omega
    have h2 : decide (n ≤ 4) = true := by simp; omega
    go_enter Tryz.func33, Tryz.ntmps33
    go_wp2
    go_ret
    exact ⟨rfl, rfl⟩
  · rw [tt_false h]
    unfold Pool at h
    by_cases a : 3 ≤ n
    · have h1 : decide (3 ≤ n) = true := by simp; omega
      have h2 : decide (n ≤ 4) = false := by simp; omega
      clear h
      go_enter Tryz.func33, Tryz.ntmps33
      go_wp2
      go_ret
      exact ⟨rfl, rfl⟩
    · have h1 : decide (3 ≤ n) = false := by simp; omega
      clear h
      go_enter Tryz.func33, Tryz.ntmps33
      go_wp2
      go_ret
      exact ⟨rfl, rfl⟩

set_option maxHeartbeats 400000 in
theorem l2Cols_any (n : Int) (w : World) (h0 : 0 ≤ n) (h1 : n ≤ 1000) :
    Calls Tryz.prog 107 #[.int .i64 n] w fun e w' => e = .returned (.int .i64 ((n + 2) / 3)) ∧ w = w' := by
  have H : Hid ((n + 3 - 1) / 3 = (n + 2) / 3) := by show (n + 3 - 1) / 3 = (n + 2) / 3; omega
  go_enter Tryz.func107, Tryz.ntmps107
  go_wp2
  go_ret
  exact ⟨congrArg (fun z => Ending.returned (.int .i64 z)) H.out, rfl⟩

set_option maxHeartbeats 400000 in
theorem sizeMax_any (n : Int) (w : World) (hp : Pool n) :
    Calls Tryz.prog 95 #[.int .i64 n] w fun e w' => e = .returned (.int .i64 (3 * min 3 (n - 1))) ∧ w = w' := by
  obtain ⟨h0, h1⟩ := hp
  by_cases h : n = 3
  · subst h
    go_enter Tryz.func95, Tryz.ntmps95
    go_wp2
    go_ret
    exact ⟨rfl, rfl⟩
  · obtain rfl : n = 4 := by omega
    go_enter Tryz.func95, Tryz.ntmps95
    go_wp2
    go_ret
    exact ⟨rfl, rfl⟩

set_option maxHeartbeats 400000 in
theorem cols_any (n s : Int) (u : Value) (w : World) (h0 : 0 ≤ n) (h1 : n ≤ 1000) :
    Calls Tryz.prog 96 #[.agg #[.int .i64 n, .int .i64 s, u]] w fun e w' => e = .returned (.int .i64 ((n + 2) / 3)) ∧ Below w.heap.size w w' := by
  have H : Hid ((n + 3 - 1) / 3 = (n + 2) / 3) := by show (n + 3 - 1) / 3 = (n + 2) / 3; omega
  go_enter Tryz.func96, Tryz.ntmps96
  go_wp2
  go_ret
  exact ⟨congrArg (fun z => Ending.returned (.int .i64 z)) H.out, (Below.refl _ _).alloc (Nat.le_refl _) _⟩

set_option maxHeartbeats 400000 in
theorem isNothing_any (p : PtrD) (a : Option Addr) (cap : Nat) (w : World) :
    Calls Tryz.prog 52 #[.agg #[.int .i64 p.size, .int .i64 p.sum, .slice a p.places.length cap]] w fun e w' => e = .returned (.bool (tt (Nothing p))) ∧ Below w.heap.size w w' := by
  obtain ⟨z, s, ps⟩ := p
  show Calls Tryz.prog 52 #[.agg #[.int .i64 z, .int .i64 s, .slice a ps.length cap]] w fun e w' => e = .returned (.bool (tt (Nothing ⟨z, s, ps⟩))) ∧ Below w.heap.size w w'
  by_cases h1 : z = 0
  · have d1 : ((z : Int) == 0) = true := by simp; omega
    by_cases h2 : s = 0
    · have d2 : ((s : Int) == 0) = true := by simp; omega
      by_cases h3 : ps = []
      · have H := Lib.hid (tt_true (P := Nothing ⟨z, s, ps⟩) ⟨h1, h2, h3⟩)
        have d3 : ((ps.length : Int) == 0) = true := by rw [h3]; rfl
        clear h1 h2 h3
        go_enter Tryz.func52, Tryz.ntmps52
        go_wp2
        go_ret
        exact ⟨ret_bool' H.out.symm, (Below.refl _ _).alloc (Nat.le_refl _) _⟩
      · have H := Lib.hid (tt_false (P := Nothing ⟨z, s, ps⟩) (fun h => h3 h.2.2))
        have d3 : ((ps.length : Int) == 0) = false := by simp [h3]
        clear h1 h2 h3
        go_enter Tryz.func52, Tryz.ntmps52
        go_wp2
        go_ret
        exact ⟨ret_bool' H.out.symm, (Below.refl _ _).alloc (Nat.le_refl _) _⟩
    · have d2 : ((s : Int) == 0) = false := by simp; omega
      have H := Lib.hid (tt_false (P := Nothing ⟨z, s, ps⟩) (fun h => h2 h.2.1))
      clear h1 h2
      go_enter Tryz.func52, Tryz.ntmps52
      go_wp2
      go_ret
      exact ⟨ret_bool' H.out.symm, (Below.refl _ _).alloc (Nat.le_refl _) _⟩
  · have d1 : ((z : Int) == 0) = false := by simp; omega
    have H := Lib.hid (tt_false (P := Nothing ⟨z, s, ps⟩) (fun h => h1 h.1))
    clear h1
    go_enter Tryz.func52, Tryz.ntmps52
    go_wp2
    go_ret
    exact ⟨ret_bool' H.out.symm, (Below.refl _ _).alloc (Nat.le_refl _) _⟩

end Go.Proofs.YtliadobopideaaaGreatDoor

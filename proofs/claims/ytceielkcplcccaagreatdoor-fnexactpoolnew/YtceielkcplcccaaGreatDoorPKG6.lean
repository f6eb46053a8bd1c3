/- DiskOk of the program and of the specification. Conditions: none but the row's own bound on sizes. DiskOk of the specification. Conditions: none but the row's own bound on sizes. Numbers within bounds. Conditions: none. Small functions of chapter 2: how many disks a pool has, how many columns a text, whether a pointer is nothing. Conditions: none. -/
import Derived.Test.YtceielkcplcccaaGreatDoorPKG9
import Derived.Shelf.Abstract
import Derived.Test.YtceielkcplcccaaGreatDoorPKK
import Derived.Deep.QuietTactic
import Derived.BigQuiet
import Derived.IntWalk
namespace Go.Proofs.YtceielkcplcccaaGreatDoor
open Go.RowKit Go.Sort Go.Shelf

/-- SLOTS ARE OK. -/
def SlotFine (s : ByteArray) (b : Bool) : Prop := (s.size = 0 ∧ b = false) ∨ s.size = 3
def SlotsFine (xs : List ByteArray) (bs : List Bool) : Prop := ∀ j, j < xs.length → SlotFine (xs.getD j ByteArray.empty) (bs.getD j false)
def HasAll (d : DiskD) : Prop := d.slots.length = 12 ∧ d.rings.length = 2 ∧ d.spoilt.length = 12 ∧ d.wait.length ≤ 40
def HasNone (d : DiskD) : Prop := AllTx Empty0 d.slots ∧ AllTx Empty0 d.rings ∧ d.wait.length = 0
/-- **DiskOk**, as the document has it. -/
def DiskFine (d : DiskD) : Prop := StateOk d.state ∧ HasAll d ∧ SlotsFine d.slots d.spoilt ∧ AllTx Ring7 d.rings ∧ AllPu PutOk d.wait ∧ (d.state = 1 → HasNone d)

end Go.Proofs.YtceielkcplcccaaGreatDoor

namespace Go.Proofs.YtceielkcplcccaaGreatDoor
open Go.RowKit Go.Sort Go.Shelf

/-- WHAT THE SPECIFICATION ASKS, round by round. -/
def SpSlot (st : Int) (s : ByteArray) (b : Bool) : Prop := SlotFine s b ∧ (st = 1 → s.size = 0)
def SpRing (st : Int) (s : ByteArray) : Prop := s.size ≤ 700 ∧ (st = 1 → s.size = 0)
theorem fine_iff (st : Int) (xs ys : List ByteArray) (bs : List Bool) (ps : List PutD) : DiskFine ⟨st, xs, ys, bs, ps⟩ ↔ (StateOk st ∧ HasAll ⟨st, xs, ys, bs, ps⟩) ∧ (∀ j, j < xs.length → SpSlot st (xs.getD j ByteArray.empty) (bs.getD j false)) ∧ (∀ j, j < ys.length → SpRing st (ys.getD j ByteArray.empty)) ∧ AllPu PutOk ps ∧ (st = 1 → ps.length = 0) :=
  ⟨fun ⟨h1, h2, h3, h4, h5, h6⟩ => ⟨⟨h1, h2⟩, fun j hj => ⟨h3 j hj, fun e => (h6 e).1 j hj⟩, fun j hj => ⟨h4 j hj, fun e => (h6 e).2.1 j hj⟩, h5, fun e => (h6 e).2.2⟩,
   fun ⟨⟨h1, h2⟩, h3, h4, h5, h6⟩ => ⟨h1, h2, fun j hj => (h3 j hj).1, fun j hj => (h4 j hj).1, h5, fun e => ⟨fun j hj => (h3 j hj).2 e, fun j hj => (h4 j hj).2 e, h6 e⟩⟩⟩

end Go.Proofs.YtceielkcplcccaaGreatDoor

namespace Go.Proofs.YtceielkcplcccaaGreatDoor
open Go.RowKit

set_option maxHeartbeats 400000 in
theorem in_yes (n lo hi : Int) (w : World) (h : lo ≤ n ∧ n ≤ hi) :
    Calls Tryz.prog 22 #[.int .i64 n, .int .i64 lo, .int .i64 hi] w fun e w' => e = .returned (.bool true) ∧ w = w' := by
  have h1 : decide (lo ≤ n) = true := by simp; omega
  have h2 : decide (n ≤ hi) = true := by simp; omega
  go_enter Tryz.func22, Tryz.ntmps22
  go_wp2
  go_ret
  exact ⟨rfl, rfl⟩

set_option maxHeartbeats 400000 in
theorem in_no (n lo hi : Int) (w : World) (h : ¬(lo ≤ n ∧ n ≤ hi)) :
    Calls Tryz.prog 22 #[.int .i64 n, .int .i64 lo, .int .i64 hi] w fun e w' => e = .returned (.bool false) ∧ w = w' := by
  by_cases hl : lo ≤ n
  · have h1 : decide (lo ≤ n) = true := by simp; omega
    have h2 : decide (n ≤ hi) = false := by simp; omega
    clear h
    go_enter Tryz.func22, Tryz.ntmps22
    go_wp2
    go_ret
    exact ⟨rfl, rfl⟩
  · have h1 : decide (lo ≤ n) = false := by simp; omega
    clear h
    go_enter Tryz.func22, Tryz.ntmps22
    go_wp2
    go_ret
    exact ⟨rfl, rfl⟩
theorem in_any (n lo hi : Int) (w : World) :
    Calls Tryz.prog 22 #[.int .i64 n, .int .i64 lo, .int .i64 hi] w fun e w' => e = .returned (.bool (tt (lo ≤ n ∧ n ≤ hi))) ∧ w = w' := by
  by_cases h : lo ≤ n ∧ n ≤ hi
  · rw [tt_true h]; exact in_yes n lo hi w h
  · rw [tt_false h]; exact in_no n lo hi w h

end Go.Proofs.YtceielkcplcccaaGreatDoor

namespace Go.Proofs.YtceielkcplcccaaGreatDoor
open Go.RowKit

set_option maxHeartbeats 400000 in
theorem l2Disks_any (n : Int) (w : World) :
    Calls Tryz.prog 9 #[.int .i64 n] w fun e w' => e = .returned (.bool (tt (Pool n))) ∧ w = w' := by
  go_enter Tryz.func9, Tryz.ntmps9
  go_wp2_with fail
  refine (in_any n 3 4 _).mono ?_
  rintro e w1 ⟨rfl, rfl⟩
  go_wp2
  go_ret
  exact ⟨rfl, rfl⟩

set_option maxHeartbeats 400000 in
theorem isPool_any (n : Int) (w : World) :
    Calls Tryz.prog 13 #[.int .i64 n] w fun e w' => e = .returned (.bool (tt (Pool n))) ∧ w = w' := by
  by_cases h : Pool n
  · rw [tt_true h]
    obtain ⟨a, b⟩ := h
    have h1 : decide (3 ≤ n) = true := by simp; omega
    have h2 : decide (n ≤ 4) = true := by simp; omega
    go_enter Tryz.func13, Tryz.ntmps13
    go_wp2
    go_ret
    exact ⟨rfl, rfl⟩
  · rw [tt_false h]
    unfold Pool at h
    by_cases a : 3 ≤ n
    · have h1 : decide (3 ≤ n) = true := by simp; omega
      have h2 : decide (n ≤ 4) = false := by simp; omega
      clear h
      go_enter Tryz.func13, Tryz.ntmps13
      go_wp2
      go_ret
      exact ⟨rfl, rfl⟩
    · have h1 : decide (3 ≤ n) = false := by simp; omega
      clear h
      go_enter Tryz.func13, Tryz.ntmps13
      go_wp2
      go_ret
      exact ⟨rfl, rfl⟩

set_option maxHeartbeats 400000 in
theorem l2Cols_any (n : Int) (w : World) (h0 : 0 ≤ n) (h1 : n ≤ 1000) :
    Calls Tryz.prog 101 #[.int .i64 n] w fun e w' => e = .returned (.int .i64 ((n + 2) / 3)) ∧ w = w' := by
  have H : Hid ((n + 3 - 1) / 3 = (n + 2) / 3) := by show (n + 3 - 1) / 3 = (n + 2) / 3; omega
  go_enter Tryz.func101, Tryz.ntmps101
  go_wp2
  go_ret
  exact ⟨congrArg (fun z => Ending.returned (.int .i64 z)) H.out, rfl⟩

set_option maxHeartbeats 400000 in
theorem sizeMax_any (n : Int) (w : World) (hp : Pool n) :
    Calls Tryz.prog 86 #[.int .i64 n] w fun e w' => e = .returned (.int .i64 (3 * min 3 (n - 1))) ∧ w = w' := by
  obtain ⟨h0, h1⟩ := hp
  by_cases h : n = 3
  · subst h
    go_enter Tryz.func86, Tryz.ntmps86
    go_wp2
    go_ret
    exact ⟨rfl, rfl⟩
  · obtain rfl : n = 4 := by omega
    go_enter Tryz.func86, Tryz.ntmps86
    go_wp2
    go_ret
    exact ⟨rfl, rfl⟩

set_option maxHeartbeats 400000 in
theorem cols_any (n s : Int) (u : Value) (w : World) (h0 : 0 ≤ n) (h1 : n ≤ 1000) :
    Calls Tryz.prog 87 #[.agg #[.int .i64 n, .int .i64 s, u]] w fun e w' => e = .returned (.int .i64 ((n + 2) / 3)) ∧ Below w.heap.size w w' := by
  have H : Hid ((n + 3 - 1) / 3 = (n + 2) / 3) := by show (n + 3 - 1) / 3 = (n + 2) / 3; omega
  go_enter Tryz.func87, Tryz.ntmps87
  go_wp2
  go_ret
  exact ⟨congrArg (fun z => Ending.returned (.int .i64 z)) H.out, (Below.refl _ _).alloc (Nat.le_refl _) _⟩

set_option maxHeartbeats 400000 in
theorem isNothing_any (p : PtrD) (a : Option Addr) (cap : Nat) (w : World) :
    Calls Tryz.prog 52 #[.agg #[.int .i64 p.size, .int .i64 p.sum, .slice a p.places.length cap]] w fun e w' => e = .returned (.bool (tt (Nothing p))) ∧ Below w.heap.size w w' := by
  obtain ⟨z, s, ps⟩ := p
  show Calls Tryz.prog 52 #[.agg #[.int .i64 z, .int .i64 s, .slice a ps.length cap]] w fun e w' => e = .returned (.bool (tt (Nothing ⟨z, s, ps⟩))) ∧ Below w.heap.size w w'
  by_cases h1 : z = 0
  · have d1 : ((z : Int) == 0) = true := by simp; omega
    by_cases h2 : s = 0
    · have d2 : ((s : Int) == 0) = true := by simp; omega
      by_cases h3 : ps = []
      · have H := Lib.hid (tt_true (P := Nothing ⟨z, s, ps⟩) ⟨h1, h2, h3⟩)
        have d3 : ((ps.length : Int) == 0) = true := by rw [h3]; rfl
        clear h1 h2 h3
        go_enter Tryz.func52, Tryz.ntmps52
        go_wp2
        go_ret
        exact ⟨ret_bool' H.out.symm, (Below.refl _ _).alloc (Nat.le_refl _) _⟩
      · have H := Lib.hid (tt_false (P := Nothing ⟨z, s, ps⟩) (fun h => h3 h.2.2))
        have d3 : ((ps.length : Int) == 0) = false := by simp [h3]
        clear h1 h2 h3
        go_enter Tryz.func52, Tryz.ntmps52
        go_wp2
        go_ret
        exact ⟨ret_bool' H.out.symm, (Below.refl _ _).alloc (Nat.le_refl _) _⟩
    · have d2 : ((s : Int) == 0) = false := by simp; omega
      have H := Lib.hid (tt_false (P := Nothing ⟨z, s, ps⟩) (fun h => h2 h.2.1))
      clear h1 h2
      go_enter Tryz.func52, Tryz.ntmps52
      go_wp2
      go_ret
      exact ⟨ret_bool' H.out.symm, (Below.refl _ _).alloc (Nat.le_refl _) _⟩
  · have d1 : ((z : Int) == 0) = false := by simp; omega
    have H := Lib.hid (tt_false (P := Nothing ⟨z, s, ps⟩) (fun h => h1 h.1))
    clear h1
    go_enter Tryz.func52, Tryz.ntmps52
    go_wp2
    go_ret
    exact ⟨ret_bool' H.out.symm, (Below.refl _ _).alloc (Nat.le_refl _) _⟩

end Go.Proofs.YtceielkcplcccaaGreatDoor

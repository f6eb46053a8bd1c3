/- Numbers within bounds. Conditions: none. Small functions of chapter 2: how many disks a pool has, how many columns a text, whether a pointer is nothing. Conditions: none. -/
import Derived.Test.YtcdiengbmjkglaaGreatPKK
import Derived.Deep.QuietTactic
import Derived.BigQuiet
import Derived.IntWalk
namespace Go.Proofs.YtcdiengbmjkglaaGreat
open Go.RowKit

set_option maxHeartbeats 400000 in
theorem in_yes (n lo hi : Int) (w : World) (h : lo ≤ n ∧ n ≤ hi) :
    Calls Tryz.prog 96 #[.int .i64 n, .int .i64 lo, .int .i64 hi] w fun e w' => e = .returned (.bool true) ∧ w = w' := by
  have h1 : decide (lo ≤ n) = true := by simp; omega
  have h2 : decide (n ≤ hi) = true := by simp; omega
  go_enter Tryz.func96, Tryz.ntmps96
  go_wp2
  go_ret
  exact ⟨rfl, rfl⟩

set_option maxHeartbeats 400000 in
theorem in_no (n lo hi : Int) (w : World) (h : ¬(lo ≤ n ∧ n ≤ hi)) :
    Calls Tryz.prog 96 #[.int .i64 n, .int .i64 lo, .int .i64 hi] w fun e w' => e = .returned (.bool false) ∧ w = w' := by
  by_cases hl : lo ≤ n
  · have h1 : decide (lo ≤ n) = true := by simp; omega
    have h2 : decide (n ≤ hi) = false := by simp; omega
    clear h
    go_enter Tryz.func96, Tryz.ntmps96
    go_wp2
    go_ret
    exact ⟨rfl, rfl⟩
  · have h1 : decide (lo ≤ n) = false := by simp; omega
    clear h
    go_enter Tryz.func96, Tryz.ntmps96
    go_wp2
    go_ret
    exact ⟨rfl, rfl⟩
theorem in_any (n lo hi : Int) (w : World) :
    Calls Tryz.prog 96 #[.int .i64 n, .int .i64 lo, .int .i64 hi] w fun e w' => e = .returned (.bool (tt (lo ≤ n ∧ n ≤ hi))) ∧ w = w' := by
  by_cases h : lo ≤ n ∧ n ≤ hi
  · rw [tt_true h]; exact in_yes n lo hi w h
  · rw [tt_false h]; exact in_no n lo hi w h

end Go.Proofs.YtcdiengbmjkglaaGreat

namespace Go.Proofs.YtcdiengbmjkglaaGreat
open Go.RowKit

set_option maxHeartbeats 400000 in
theorem l2Disks_any (n : Int) (w : World) :
    Calls Tryz.prog 95 #[.int .i64 n] w fun e w' => e = .returned (.bool (tt (Pool n))) ∧ w = w' := by
  go_enter Tryz.func95, Tryz.ntmps95
  go_wp2_with fail
  refine (in_any n 3 4 _).mono ?_
  rintro e w1 ⟨rfl, rfl⟩
  go_wp2
  go_ret
  exact ⟨rfl, rfl⟩

set_option maxHeartbeats 400000 in
theorem isPool_any (n : Int) (w : World) :
    Calls Tryz.prog 100 #[.int .i64 n] w fun e w' => e = .returned (.bool (tt (Pool n))) ∧ w = w' := by
  by_cases h : Pool n
  · rw [tt_true h]
    obtain ⟨a, b⟩ := h
    have h1 : decide (3 ≤ n) = true := by simp; omega
    have h2 : decide (n ≤ 4) = true := by simp; omega
    go_enter Tryz.func100, Tryz.ntmps100
    go_wp2
    go_ret
    exact ⟨rfl, rfl⟩
  · rw [tt_false h]
    unfold Pool at h
    by_cases a : 3 ≤ n
    · have h1 : decide (3 ≤ n) = true := by simp; omega
      have h2 : decide (n ≤ 4) = false := by simp; omega
      clear h
      go_enter Tryz.func100, Tryz.ntmps100
      go_wp2
      go_ret
      exact ⟨rfl, rfl⟩
    · have h1 : decide (3 ≤ n) = false := by simp; omega
      clear h
      go_enter Tryz.func100, Tryz.ntmps100
      go_wp2
      go_ret
      exact ⟨rfl, rfl⟩

set_option maxHeartbeats 400000 in
theorem l2Cols_any (n : Int) (w : World) (h0 : 0 ≤ n) (h1 : n ≤ 1000) :
    Calls Tryz.prog 47 #[.int .i64 n] w fun e w' => e = .returned (.int .i64 ((n + 2) / 3)) ∧ w = w' := by
  have H : Hid ((n + 3 - 1) / 3 = (n + 2) / 3) := by show (n + 3 - 1) / 3 = (n + 2) / 3; omega
  go_enter Tryz.func47, Tryz.ntmps47
  go_wp2
  go_ret
  exact ⟨congrArg (fun z => Ending.returned (.int .i64 z)) H.out, rfl⟩

set_option maxHeartbeats 400000 in
theorem sizeMax_any (n : Int) (w : World) (hp : Pool n) :
    Calls Tryz.prog 102 #[.int .i64 n] w fun e w' => e = .returned (.int .i64 (3 * min 3 (n - 1))) ∧ w = w' := by
  obtain ⟨h0, h1⟩ := hp
  by_cases h : n = 3
  · subst h
    go_enter Tryz.func102, Tryz.ntmps102
    go_wp2
    go_ret
    exact ⟨rfl, rfl⟩
  · obtain rfl : n = 4 := by omega
    go_enter Tryz.func102, Tryz.ntmps102
    go_wp2
    go_ret
    exact ⟨rfl, rfl⟩

set_option maxHeartbeats 400000 in
theorem cols_any (n s : Int) (u : Value) (w : World) (h0 : 0 ≤ n) (h1 : n ≤ 1000) :
    Calls Tryz.prog 103 #[.agg #[.int .i64 n, .int .i64 s, u]] w fun e w' => e = .returned (.int .i64 ((n + 2) / 3)) ∧ Below w.heap.size w w' := by
  have H : Hid ((n + 3 - 1) / 3 = (n + 2) / 3) := by show (n + 3 - 1) / 3 = (n + 2) / 3; omega
  go_enter Tryz.func103, Tryz.ntmps103
  go_wp2
  go_ret
  exact ⟨congrArg (fun z => Ending.returned (.int .i64 z)) H.out, (Below.refl _ _).alloc (Nat.le_refl _) _⟩

set_option maxHeartbeats 400000 in
theorem isNothing_any (p : PtrD) (a : Option Addr) (cap : Nat) (w : World) :
    Calls Tryz.prog 70 #[.agg #[.int .i64 p.size, .int .i64 p.sum, .slice a p.places.length cap]] w fun e w' => e = .returned (.bool (tt (Nothing p))) ∧ Below w.heap.size w w' := by
  obtain ⟨z, s, ps⟩ := p
  show Calls Tryz.prog 70 #[.agg #[.int .i64 z, .int .i64 s, .slice a ps.length cap]] w fun e w' => e = .returned (.bool (tt (Nothing ⟨z, s, ps⟩))) ∧ Below w.heap.size w w'
  by_cases h1 : z = 0
  · have d1 : ((z : Int) == 0) = true := by simp; omega
    by_cases h2 : s = 0
    · have d2 : ((s : Int) == 0) = true := by simp; omega
      by_cases h3 : ps = []
      · have H := Lib.hid (tt_true (P := Nothing ⟨z, s, ps⟩) ⟨h1, h2, h3⟩)
        have d3 : ((ps.length : Int) == 0) = true := by rw [h3]; rfl
        clear h1 h2 h3
        go_enter Tryz.func70, Tryz.ntmps70
        go_wp2
        go_ret
        exact ⟨ret_bool' H.out.symm, (Below.refl _ _).alloc (Nat.le_refl _) _⟩
      · have H := Lib.hid (tt_false (P := Nothing ⟨z, s, ps⟩) (fun h => h3 h.2.2))
        have d3 : ((ps.length : Int) == 0) = false := by simp [h3]
        clear h1 h2 h3
        go_enter Tryz.func70, Tryz.ntmps70
        go_wp2
        go_ret
        exact ⟨ret_bool' H.out.symm, (Below.refl _ _).alloc (Nat.le_refl _) _⟩
    · have d2 : ((s : Int) == 0) = false := by simp; omega
      have H := Lib.hid (tt_false (P := Nothing ⟨z, s, ps⟩) (fun h => h2 h.2.1))
      clear h1 h2
      go_enter Tryz.func70, Tryz.ntmps70
      go_wp2
      go_ret
      exact ⟨ret_bool' H.out.symm, (Below.refl _ _).alloc (Nat.le_refl _) _⟩
  · have d1 : ((z : Int) == 0) = false := by simp; omega
    have H := Lib.hid (tt_false (P := Nothing ⟨z, s, ps⟩) (fun h => h1 h.1))
    clear h1
    go_enter Tryz.func70, Tryz.ntmps70
    go_wp2
    go_ret
    exact ⟨ret_bool' H.out.symm, (Below.refl _ _).alloc (Nat.le_refl _) _⟩

end Go.Proofs.YtcdiengbmjkglaaGreat

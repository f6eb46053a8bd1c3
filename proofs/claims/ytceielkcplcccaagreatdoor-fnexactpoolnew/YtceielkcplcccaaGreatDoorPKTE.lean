/- Texts that are equal or not. Conditions: none. A byte of a text, nought behind its end. Conditions: none. Names of volumes. Conditions: none but the row's own bound on sizes. -/
import Derived.WalkKit
import Derived.Test.YtceielkcplcccaaGreatDoorRows
import Derived.RangeFuncNested
import Derived.RangeFuncBound
import Derived.RangeFuncCalls
import Derived.RangeFuncLeaves
import Derived.RangeFuncWrites
import Derived.RangeFuncBox
import Derived.Shelf.Abstract
import Derived.Shelf.RegionOpen
import Derived.OwnWalkIn
import Derived.TacticsInMore
import Derived.LoopNIn
import Derived.LoopIn
import Derived.Lib.Hide
import Derived.Test.YtceielkcplcccaaGreatDoorPKG6
import Derived.OwnWalk
import Derived.Maps.Range
import Derived.Lib.QuietBelow
import Derived.Deep.QuietTactic
import Derived.BigQuiet
import Derived.IntWalk
import Derived.Deep.RegionHeld3
namespace Go.Proofs.YtceielkcplcccaaGreatDoor
open Go.RowKit

theorem text_yes {a b : ByteArray} (h : a = b) : (a.toList == b.toList) = true := by rw [h]; exact beq_self_eq_true _
theorem text_no {a b : ByteArray} (h : a ≠ b) : (a.toList == b.toList) = false := by
  rw [beq_eq_false_iff_ne]
  intro e
  rw [ByteArray.toList_eq, ByteArray.toList_eq] at e
  exact h (ByteArray.ext (Array.toList_inj.1 e))

end Go.Proofs.YtceielkcplcccaaGreatDoor

namespace Go.Proofs.YtceielkcplcccaaGreatDoor
open Go.RowKit Go.Shelf

/-- THE BYTE AT A PLACE OF A TEXT, nought behind its end. -/
def byteAt (s : ByteArray) (i : Nat) : Int := ((s.data.toList[i]?.getD 0).toNat : Int)

theorem byteAt_bd (s : ByteArray) (i : Nat) : 0 ≤ byteAt s i ∧ byteAt s i ≤ 255 := by
  unfold byteAt
  have := (s.data.toList[i]?.getD 0).toNat_lt
  omega

theorem byteAt_lt {s : ByteArray} {i : Nat} (h : i < s.size) : byteAt s i = (s[i].toNat : Int) := by
  unfold byteAt
  have h' : i < s.data.toList.length := by simpa using h
  rw [List.getElem?_eq_getElem h']
  rfl

theorem byteAt_ge {s : ByteArray} {i : Nat} (h : s.size ≤ i) : byteAt s i = 0 := by
  unfold byteAt
  have h' : s.data.toList.length ≤ i := by simpa using h
  rw [List.getElem?_eq_none h']
  rfl

theorem ret_int {k : IntKind} {a b : Int} (h : a = b) : Ending.returned (.int k a) = .returned (.int k b) := by rw [h]


end Go.Proofs.YtceielkcplcccaaGreatDoor

namespace Go.Proofs.YtceielkcplcccaaGreatDoor
open Go.RowKit Go.Sort

/-- A NAME of a volume. -/
def NameOk (s : ByteArray) : Prop := (1 ≤ s.size ∧ s.size ≤ 3) ∧ ∀ i, i < s.size → 97 ≤ byteAt s i ∧ byteAt s i ≤ 122

set_option maxRecDepth 100000 in
set_option maxHeartbeats 1000000 in
theorem l2Name_any (s : ByteArray) (w : World) (hs : s.size ≤ maxLen) :
    Calls Tryz.prog 81 #[.string s] w fun e w' => e = .returned (.bool (tt (NameOk s))) ∧ w = w' := by
  unfold maxLen at hs
  by_cases h : 1 ≤ (s.size : Int) ∧ (s.size : Int) ≤ 3
  · go_enter Tryz.func81, Tryz.ntmps81
    go_wp2_with fail
    refine (in_yes _ _ _ _ h).mono ?_
    rintro e w1 ⟨rfl, rfl⟩
    go_wp2_with fail
    go_loop [3] (fun i => ∃ k : Nat, i = .int .i64 (k : Int) ∧ k ≤ s.size ∧ Hid (∀ j, j < k → 97 ≤ byteAt s j ∧ byteAt s j ≤ 122)) (fun i => s.size - (intOf i).toNat)
    case atStart => exact ⟨0, rfl, by omega, fun j hj => by omega⟩
    case round =>
      obtain ⟨k, rfl, hk, hall⟩ := hrel
      by_cases hlt : k < s.size
      · have HE := Lib.hid (byteAt_lt hlt)
        have hb := byteAt_bd s k
        rw [HE.out] at hb
        by_cases h1 : (s[k].toNat : Int) < 97
        · have d1 : decide ((s[k].toNat : Int) < 97) = true := by simp; omega
          have HF := Lib.hid (tt_false (P := NameOk s) (fun h => by have := (h.2 k hlt).1; rw [HE.out] at this; omega))
          go_wp2
          go_ret
          exact ⟨ret_bool' HF.out.symm, rfl⟩
        · have d1 : decide ((s[k].toNat : Int) < 97) = false := by simp; omega
          by_cases h2 : 122 < (s[k].toNat : Int)
          · have d2 : decide (122 < (s[k].toNat : Int)) = true := by simp; omega
            have HF := Lib.hid (tt_false (P := NameOk s) (fun h => by have := (h.2 k hlt).2; rw [HE.out] at this; omega))
            go_wp2
            go_ret
            exact ⟨ret_bool' HF.out.symm, rfl⟩
          · have d2 : decide (122 < (s[k].toNat : Int)) = false := by simp; omega
            have HN : Hid (∀ j, j < k + 1 → 97 ≤ byteAt s j ∧ byteAt s j ≤ 122) := fun j hj => by
              by_cases e : j = k
              · subst e; rw [HE.out]; omega
              · exact hall.out j (by omega)
            go_wp2
            exact ⟨⟨k + 1, by go_num, by omega, HN⟩, by simp [intOf]; omega⟩
      · have HF := Lib.hid (tt_true (P := NameOk s) ⟨by omega, fun j hj => hall.out j (by omega)⟩)
        go_wp2
        go_ret
        exact ⟨ret_bool' HF.out.symm, rfl⟩
  · have HF := Lib.hid (tt_false (P := NameOk s) (fun k => h (by have := k.1; omega)))
    go_enter Tryz.func81, Tryz.ntmps81
    go_wp2_with fail
    refine (in_no _ _ _ _ h).mono ?_
    rintro e w1 ⟨rfl, rfl⟩
    clear h
    go_wp2
    go_ret
    exact ⟨ret_bool' HF.out.symm, rfl⟩

set_option maxRecDepth 100000 in
set_option maxHeartbeats 1000000 in
theorem isName_any (s : ByteArray) (w : World) (hs : s.size ≤ maxLen) :
    Calls Tryz.prog 66 #[.string s] w fun e w' => e = .returned (.bool (tt (NameOk s))) ∧ w = w' := by
  unfold maxLen at hs
  by_cases h1 : s.size < 1
  · have d1 : decide ((s.size : Int) < 1) = true := by simp; omega
    have HF := Lib.hid (tt_false (P := NameOk s) (fun k => by have := k.1; omega))
    clear h1
    go_enter Tryz.func66, Tryz.ntmps66
    go_wp2
    go_ret
    exact ⟨ret_bool' HF.out.symm, rfl⟩
  · have d1 : decide ((s.size : Int) < 1) = false := by simp; omega
    by_cases h2 : 3 < s.size
    · have d2 : decide (3 < (s.size : Int)) = true := by simp; omega
      have HF := Lib.hid (tt_false (P := NameOk s) (fun k => by have := k.1; omega))
      go_enter Tryz.func66, Tryz.ntmps66
      go_wp2
      go_ret
      exact ⟨ret_bool' HF.out.symm, rfl⟩
    · have d2 : decide (3 < (s.size : Int)) = false := by simp; omega
      go_enter Tryz.func66, Tryz.ntmps66
      go_wp2_with fail
      go_loop [14] (fun i => ∃ k : Nat, i = .int .i64 (k : Int) ∧ k ≤ s.size ∧ Hid (∀ j, j < k → 97 ≤ byteAt s j ∧ byteAt s j ≤ 122)) (fun i => s.size - (intOf i).toNat)
      case atStart => exact ⟨0, rfl, by omega, fun j hj => by omega⟩
      case round =>
        obtain ⟨k, rfl, hk, hall⟩ := hrel
        by_cases hlt : k < s.size
        · have HE := Lib.hid (byteAt_lt hlt)
          have hb := byteAt_bd s k
          rw [HE.out] at hb
          by_cases h3 : (s[k].toNat : Int) < 97
          · have d3 : decide ((s[k].toNat : Int) < 97) = true := by simp; omega
            have HF := Lib.hid (tt_false (P := NameOk s) (fun h => by have := (h.2 k hlt).1; rw [HE.out] at this; omega))
            go_wp2
            go_ret
            exact ⟨ret_bool' HF.out.symm, rfl⟩
          · have d3 : decide ((s[k].toNat : Int) < 97) = false := by simp; omega
            by_cases h4 : 122 < (s[k].toNat : Int)
            · have d4 : decide (122 < (s[k].toNat : Int)) = true := by simp; omega
              have HF := Lib.hid (tt_false (P := NameOk s) (fun h => by have := (h.2 k hlt).2; rw [HE.out] at this; omega))
              go_wp2
              go_ret
              exact ⟨ret_bool' HF.out.symm, rfl⟩
            · have d4 : decide (122 < (s[k].toNat : Int)) = false := by simp; omega
              have HN : Hid (∀ j, j < k + 1 → 97 ≤ byteAt s j ∧ byteAt s j ≤ 122) := fun j hj => by
                by_cases e : j = k
                · subst e; rw [HE.out]; omega
                · exact hall.out j (by omega)
              go_wp2
              exact ⟨⟨k + 1, by go_num, by omega, HN⟩, by simp [intOf]; omega⟩
        · have HF := Lib.hid (tt_true (P := NameOk s) ⟨by omega, fun j hj => hall.out j (by omega)⟩)
          go_wp2
          go_ret
          exact ⟨ret_bool' HF.out.symm, rfl⟩

end Go.Proofs.YtceielkcplcccaaGreatDoor

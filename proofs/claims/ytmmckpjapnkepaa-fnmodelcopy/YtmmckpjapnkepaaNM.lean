/- Names of volumes. Conditions: none but the row's own bound on sizes. -/
import Derived.Test.YtmmckpjapnkepaaS0
import Derived.Test.YtmmckpjapnkepaaA0
import Derived.OwnWalk
import Derived.Maps.Range
import Derived.Lib.QuietBelow
import Derived.Deep.QuietTactic
import Derived.BigQuiet
import Derived.IntWalk
import Derived.Deep.RegionHeld3
namespace Go.Proofs.Ytmmckpjapnkepaa
open Go.RowKit Go.Sort

/-- A NAME of a volume. -/
def NameOk (s : ByteArray) : Prop := (1 ≤ s.size ∧ s.size ≤ 3) ∧ ∀ i, i < s.size → 97 ≤ byteAt s i ∧ byteAt s i ≤ 122

set_option maxRecDepth 100000 in
set_option maxHeartbeats 1000000 in
theorem l2Name_any (s : ByteArray) (w : World) (hs : s.size ≤ maxLen) :
    Calls Try.prog 66 #[.string s] w fun e w' => e = .returned (.bool (tt (NameOk s))) ∧ w = w' := by
  unfold maxLen at hs
  by_cases h : 1 ≤ (s.size : Int) ∧ (s.size : Int) ≤ 3
  · go_enter Try.func66, Try.ntmps66
    go_wp2_with fail
    refine (in_yes _ _ _ _ h).mono ?_
    rintro e w1 ⟨rfl, rfl⟩
    go_wp2_with fail
    go_loop [3] (fun i => ∃ k : Nat, i = .int .i64 (k : Int) ∧ k ≤ s.size ∧ Hid (∀ j, j < k → 97 ≤ byteAt s j ∧ byteAt s j ≤ 122)) (fun i => s.size - (intOf i).toNat)
    case atStart => exact ⟨0, rfl, by omega, fun j hj => by omega⟩
    case round =>
      obtain ⟨k, rfl, hk, hall⟩ := hrel
      by_cases hlt : k < s.size
      · have HE := Lib.hid (byteAt_lt hlt)
        have hb := byteAt_bd s k
        rw [HE.out] at hb
        by_cases h1 : (s[k].toNat : Int) < 97
        · have d1 : decide ((s[k].toNat : Int) < 97) = true := by simp; omega
          have HF := Lib.hid (tt_false (P := NameOk s) (fun h => by have := (h.2 k hlt).1; rw [HE.out] at this; omega))
          go_wp2
          go_ret
          exact ⟨ret_bool' HF.out.symm, rfl⟩
        · have d1 : decide ((s[k].toNat : Int) < 97) = false := by simp; omega
          by_cases h2 : 122 < (s[k].toNat : Int)
          · have d2 : decide (122 < (s[k].toNat : Int)) = true := by simp; omega
            have HF := Lib.hid (tt_false (P := NameOk s) (fun h => by have := (h.2 k hlt).2; rw [HE.out] at this; omega))
            go_wp2
            go_ret
            exact ⟨ret_bool' HF.out.symm, rfl⟩
          · have d2 : decide (122 < (s[k].toNat : Int)) = false := by simp; omega
            have HN : Hid (∀ j, j < k + 1 → 97 ≤ byteAt s j ∧ byteAt s j ≤ 122) := fun j hj => by
              by_cases e : j = k
              · subst e; rw [HE.out]; omega
              · exact hall.out j (by omega)
            go_wp2
            exact ⟨⟨k + 1, by go_num, by omega, HN⟩, by simp [intOf]; omega⟩
      · have HF := Lib.hid (tt_true (P := NameOk s) ⟨by omega, fun j hj => hall.out j (by omega)⟩)
        go_wp2
        go_ret
        exact ⟨ret_bool' HF.out.symm, rfl⟩
  · have HF := Lib.hid (tt_false (P := NameOk s) (fun k => h (by have := k.1; omega)))
    go_enter Try.func66, Try.ntmps66
    go_wp2_with fail
    refine (in_no _ _ _ _ h).mono ?_
    rintro e w1 ⟨rfl, rfl⟩
    clear h
    go_wp2
    go_ret
    exact ⟨ret_bool' HF.out.symm, rfl⟩

set_option maxRecDepth 100000 in
set_option maxHeartbeats 1000000 in
theorem isName_any (s : ByteArray) (w : World) (hs : s.size ≤ maxLen) :
    Calls Try.prog 71 #[.string s] w fun e w' => e = .returned (.bool (tt (NameOk s))) ∧ w = w' := by
  unfold maxLen at hs
  by_cases h1 : s.size < 1
  · have d1 : decide ((s.size : Int) < 1) = true := by simp; omega
    have HF := Lib.hid (tt_false (P := NameOk s) (fun k => by have := k.1; omega))
    clear h1
    go_enter Try.func71, Try.ntmps71
    go_wp2
    go_ret
    exact ⟨ret_bool' HF.out.symm, rfl⟩
  · have d1 : decide ((s.size : Int) < 1) = false := by simp; omega
    by_cases h2 : 3 < s.size
    · have d2 : decide (3 < (s.size : Int)) = true := by simp; omega
      have HF := Lib.hid (tt_false (P := NameOk s) (fun k => by have := k.1; omega))
      go_enter Try.func71, Try.ntmps71
      go_wp2
      go_ret
      exact ⟨ret_bool' HF.out.symm, rfl⟩
    · have d2 : decide (3 < (s.size : Int)) = false := by simp; omega
      go_enter Try.func71, Try.ntmps71
      go_wp2_with fail
      go_loop [14] (fun i => ∃ k : Nat, i = .int .i64 (k : Int) ∧ k ≤ s.size ∧ Hid (∀ j, j < k → 97 ≤ byteAt s j ∧ byteAt s j ≤ 122)) (fun i => s.size - (intOf i).toNat)
      case atStart => exact ⟨0, rfl, by omega, fun j hj => by omega⟩
      case round =>
        obtain ⟨k, rfl, hk, hall⟩ := hrel
        by_cases hlt : k < s.size
        · have HE := Lib.hid (byteAt_lt hlt)
          have hb := byteAt_bd s k
          rw [HE.out] at hb
          by_cases h3 : (s[k].toNat : Int) < 97
          · have d3 : decide ((s[k].toNat : Int) < 97) = true := by simp; omega
            have HF := Lib.hid (tt_false (P := NameOk s) (fun h => by have := (h.2 k hlt).1; rw [HE.out] at this; omega))
            go_wp2
            go_ret
            exact ⟨ret_bool' HF.out.symm, rfl⟩
          · have d3 : decide ((s[k].toNat : Int) < 97) = false := by simp; omega
            by_cases h4 : 122 < (s[k].toNat : Int)
            · have d4 : decide (122 < (s[k].toNat : Int)) = true := by simp; omega
              have HF := Lib.hid (tt_false (P := NameOk s) (fun h => by have := (h.2 k hlt).2; rw [HE.out] at this; omega))
              go_wp2
              go_ret
              exact ⟨ret_bool' HF.out.symm, rfl⟩
            · have d4 : decide (122 < (s[k].toNat : Int)) = false := by simp; omega
              have HN : Hid (∀ j, j < k + 1 → 97 ≤ byteAt s j ∧ byteAt s j ≤ 122) := fun j hj => by
                by_cases e : j = k
                · subst e; rw [HE.out]; omega
                · exact hall.out j (by omega)
              go_wp2
              exact ⟨⟨k + 1, by go_num, by omega, HN⟩, by simp [intOf]; omega⟩
        · have HF := Lib.hid (tt_true (P := NameOk s) ⟨by omega, fun j hj => hall.out j (by omega)⟩)
          go_wp2
          go_ret
          exact ⟨ret_bool' HF.out.symm, rfl⟩

end Go.Proofs.Ytmmckpjapnkepaa

/- The sum of a text below 8192 bytes, as the specification has it. Conditions: the text is short. -/
import Derived.Test.YtliadobopideaaaGreatDoorPSRS2
namespace Go.Proofs.YtliadobopideaaaGreatDoor
open Go.RowKit Go.Sort

theorem sumTo_bdG (s : ByteArray) (k : Nat) (h : k ≤ 8192) : 0 ≤ sumTo s k ∧ sumTo s k ≤ (k : Int) * 18800895 := by
  induction k with
  | zero => exact ⟨Int.le_refl _, by simp [sumTo]⟩
  | succ k ih =>
    have ih := ih (by omega)
    have hb := byteAt_bd s k
    have ht : byteAt s k * (65536 + (k : Int) + 1) ≤ 255 * 73729 := Int.mul_le_mul hb.2 (by omega) (by omega) (by omega)
    have ht0 : 0 ≤ byteAt s k * (65536 + (k : Int) + 1) := Int.mul_nonneg hb.1 (by omega)
    have e : sumTo s (k + 1) = sumTo s k + byteAt s k * (65536 + (k : Int) + 1) := rfl
    rw [e]
    constructor
    · omega
    · have : ((k + 1 : Nat) : Int) * 18800895 = (k : Int) * 18800895 + 18800895 := by omega
      omega

set_option maxRecDepth 100000 in
set_option maxHeartbeats 1000000 in
theorem l2Check_gen (s : ByteArray) (hs : s.size < 8192) (w : World) :
    Calls Tryz.prog 29 #[.string s] w fun e w' => e = .returned (.int .i64 (sumTo s s.size)) ∧ w = w' := by
  go_enter Tryz.func29, Tryz.ntmps29
  go_wp2
  go_loop [3, 4] (fun n i => ∃ k : Nat, k ≤ s.size ∧ i = .int .i64 k ∧ n = .int .i64 (sumTo s k)) (fun _ i => s.size - (intOf i).toNat)
  case atStart => exact ⟨0, Nat.zero_le _, rfl, rfl⟩
  case round =>
    obtain ⟨k, hk, rfl, rfl⟩ := hrel
    have hd := sumTo_bdG s k (by omega)
    have hl9 : (k : Int) * 18800895 ≤ 8192 * 18800895 := by omega
    by_cases hlt : k < s.size
    · have HS : Hid (sumTo s (k + 1) = sumTo s k + (s[k].toNat : Int) * (65536 + (k : Int) + 1)) := by rw [← byteAt_lt hlt]; rfl
      have hb8 : (s[k].toNat : Int) < 256 := by have := s[k].toNat_lt; omega
      have hb0 : (0 : Int) ≤ (s[k].toNat : Int) := by omega
      have ht : (s[k].toNat : Int) * (65536 + (k : Int) + 1) ≤ 255 * 73729 := Int.mul_le_mul (by omega) (by omega) (by omega) (by omega)
      have ht0 : 0 ≤ (s[k].toNat : Int) * (65536 + (k : Int) + 1) := Int.mul_nonneg (by omega) (by omega)
      go_wp2
      go_round
      case rel => exact ⟨k + 1, by omega, by go_num, by rw [HS.out]⟩
      case measure => simp [intOf]; omega
    · obtain rfl : k = s.size := by omega
      go_wp2
      go_ret
      exact ⟨rfl, rfl⟩

end Go.Proofs.YtliadobopideaaaGreatDoor

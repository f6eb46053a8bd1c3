/- SumOf of the specification answers the sum of the first nine bytes. Conditions: none. -/
import Derived.Test.YtcdiengbmjkglaaGreatPKA0
namespace Go.Proofs.YtcdiengbmjkglaaGreat
open Go.RowKit Go.Shelf
attribute [local go_sem] Oper.semAt_some

set_option maxRecDepth 100000 in
set_option maxHeartbeats 1000000 in
theorem specSum_any (s : ByteArray) (hs : s.size ≤ maxLen) (w : World) :
    Calls Tryz.prog 23 #[.string s] w fun e w' => e = .returned (.int .i64 (sumOf s)) ∧ w = w' := by
  unfold maxLen at hs
  go_enter Tryz.func23, Tryz.ntmps23
  go_wp2
  go_loop [3, 4] (fun n i => ∃ k : Nat, k ≤ s.size ∧ k ≤ 9 ∧ i = .int .i64 k ∧ n = .int .i64 (sumTo s k)) (fun _ i => 9 - (intOf i).toNat)
  case atStart => exact ⟨0, Nat.zero_le _, Nat.zero_le _, rfl, rfl⟩
  case round =>
    obtain ⟨k, hk, hk9, rfl, rfl⟩ := hrel
    have hd := sumTo_bd s k hk9
    have hl9 : (k : Int) * 36028797018963968 ≤ 9 * 36028797018963968 := by omega
    by_cases hlt : k < s.size
    · by_cases h9 : k < 9
      · have HS : Hid (sumTo s (k + 1) = sumTo s k + (s[k].toNat : Int) * (65536 + (k : Int) + 1)) := by rw [← byteAt_lt hlt]; rfl
        have ht := term_bd (oct s k)
        rw [oct_1 s (by omega), byteAt_lt hlt] at ht
        simp only at ht
        have hb8 : (s[k].toNat : Int) < 256 := by have := s[k].toNat_lt; omega
        go_wp2
        go_round
        case rel => exact ⟨k + 1, by omega, by omega, by go_num, by rw [HS.out]⟩
        case measure => simp [intOf]; omega
      · have HS := Lib.hid (show sumOf s = sumTo s k by unfold sumOf; rw [show min s.size 9 = k by omega])
        go_wp2
        go_ret
        exact ⟨ret_int HS.out.symm, rfl⟩
    · have HS := Lib.hid (show sumOf s = sumTo s k by unfold sumOf; rw [show min s.size 9 = k by omega])
      go_wp2
      go_ret
      exact ⟨ret_int HS.out.symm, rfl⟩

end Go.Proofs.YtcdiengbmjkglaaGreat

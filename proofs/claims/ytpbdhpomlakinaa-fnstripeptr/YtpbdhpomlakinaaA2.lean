/- SumOf of the program and SumOf of the specification both answer the sum of the first nine bytes. Conditions: none. -/
import Derived.Test.YtpbdhpomlakinaaA3
namespace Go.Proofs.Ytpbdhpomlakinaa
open Go.RowKit Go.Shelf
attribute [local go_sem] Oper.semAt_some

theorem byteAt_extract (s : ByteArray) (m k : Nat) (hm : m ≤ s.size) (hk : k < m) : byteAt (s.extract 0 m) k = byteAt s k := by
  rw [byteAt_lt (by rw [ByteArray.size_extract]; omega), byteAt_lt (by omega)]
  rw [ByteArray.getElem_extract]
  congr 2
  simp
theorem sumTo_extract (s : ByteArray) (m k : Nat) (hm : m ≤ s.size) (hk : k ≤ m) : sumTo (s.extract 0 m) k = sumTo s k := by
  induction k with
  | zero => rfl
  | succ k ih => unfold sumTo; rw [ih (by omega), byteAt_extract s m k hm (by omega)]

set_option maxRecDepth 100000 in
set_option maxHeartbeats 1000000 in
theorem implSum_any (s : ByteArray) (w : World) :
    Calls Try.prog 40 #[.string s] w fun e w' => e = .returned (.int .i64 (sumOf s)) ∧ Below w.heap.size w w' := by
  by_cases h9 : s.size ≤ 9
  · have hi : (s.size : Int) ≤ 9 := by omega
    have HS : Hid (sumTo s s.size = sumOf s) := by
      show sumTo s s.size = sumOf s
      unfold sumOf; rw [show min s.size 9 = s.size by omega]
    go_enter Try.func40, Try.ntmps40
    go_wp2_with fail
    refine (weighed_any s (by omega) _).mono ?_
    rintro e w1 ⟨rfl, hB⟩
    go_wp2
    go_ret
    exact ⟨ret_int HS.out, hB⟩
  · have hi : ¬ (s.size : Int) ≤ 9 := by omega
    have hi' : 9 ≤ s.size := by omega
    have hsz : (s.extract 0 9).size = 9 := by rw [ByteArray.size_extract]; omega
    have HS : Hid (sumTo (s.extract 0 9) 9 = sumOf s) := by
      show sumTo (s.extract 0 9) 9 = sumOf s
      rw [sumTo_extract s 9 9 hi' (Nat.le_refl _)]
      unfold sumOf; rw [show min s.size 9 = 9 by omega]
    have HW := Lib.hid (fun w' => weighed_any (s.extract 0 9) (by omega) w')
    clear hsz
    go_enter Try.func40, Try.ntmps40
    go_wp2_with fail
    refine (HW.out _).mono ?_
    rintro e w1 ⟨rfl, hB⟩
    go_wp2
    go_ret
    exact ⟨ret_int HS.out, hB⟩

set_option maxRecDepth 100000 in
set_option maxHeartbeats 1000000 in
theorem specSum_any (s : ByteArray) (hs : s.size ≤ maxLen) (w : World) :
    Calls Try.prog 124 #[.string s] w fun e w' => e = .returned (.int .i64 (sumOf s)) ∧ w = w' := by
  unfold maxLen at hs
  go_enter Try.func124, Try.ntmps124
  go_wp2
  go_loop [3, 4] (fun n i => ∃ k : Nat, k ≤ s.size ∧ k ≤ 9 ∧ i = .int .i64 k ∧ n = .int .i64 (sumTo s k)) (fun _ i => 9 - (intOf i).toNat)
  case atStart => exact ⟨0, Nat.zero_le _, Nat.zero_le _, rfl, rfl⟩
  case round =>
    obtain ⟨k, hk, hk9, rfl, rfl⟩ := hrel
    have hd := sumTo_bd s k hk9
    have hl9 : (k : Int) * 36028797018963968 ≤ 9 * 36028797018963968 := by omega
    by_cases hlt : k < s.size
    · by_cases h9 : k < 9
      · have HS : Hid (sumTo s (k + 1) = sumTo s k + (s[k].toNat : Int) * (65536 + (k : Int) + 1)) := by rw [← byteAt_lt hlt]; rfl
        have ht := term_bd (oct s k)
        rw [oct_1 s (by omega), byteAt_lt hlt] at ht
        simp only at ht
        have hb8 : (s[k].toNat : Int) < 256 := by have := s[k].toNat_lt; omega
        go_wp2
        go_round
        case rel => exact ⟨k + 1, by omega, by omega, by go_num, by rw [HS.out]⟩
        case measure => simp [intOf]; omega
      · have HS := Lib.hid (show sumOf s = sumTo s k by unfold sumOf; rw [show min s.size 9 = k by omega])
        go_wp2
        go_ret
        exact ⟨ret_int HS.out.symm, rfl⟩
    · have HS := Lib.hid (show sumOf s = sumTo s k by unfold sumOf; rw [show min s.size 9 = k by omega])
      go_wp2
      go_ret
      exact ⟨ret_int HS.out.symm, rfl⟩

end Go.Proofs.Ytpbdhpomlakinaa

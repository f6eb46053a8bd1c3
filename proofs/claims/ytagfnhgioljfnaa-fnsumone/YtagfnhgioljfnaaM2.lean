/- Plain facts: a sum tells texts apart that differ in one byte, or two. Conditions: texts of at most nine bytes. -/
import Derived.Test.YtagfnhgioljfnaaM1
import Derived.Test.YtagfnhgioljfnaaC1
namespace Go.Proofs.Ytagfnhgioljfnaa

theorem xor8_ne (b c : Int) (hb : 0 ≤ b ∧ b ≤ 255) (hc : 1 ≤ c ∧ c ≤ 255) : bits .xor .u8 b c ≠ b := by
  rw [u8_xor b c hb.1 (by omega) (by omega) (by omega)]
  intro h
  have h1 : b.toNat ^^^ c.toNat = b.toNat := by omega
  have h2 : b.toNat ^^^ (b.toNat ^^^ c.toNat) = b.toNat ^^^ b.toNat := by rw [h1]
  rw [← Nat.xor_assoc, Nat.xor_self, Nat.zero_xor] at h2
  omega

theorem sumTo_with (s : ByteArray) (k : Nat) (x : Int) (hk : k < s.size) (hx : 0 ≤ x ∧ x ≤ 255) (n : Nat) :
    sumTo (withAt s k x) n = sumTo s n + if k < n then (x - byteAt s k) * (65536 + (k : Int) + 1) else 0 := by
  induction n with
  | zero => simp [sumTo]
  | succ n ih =>
    show sumTo (withAt s k x) n + byteAt (withAt s k x) n * (65536 + (n : Int) + 1) = sumTo s n + byteAt s n * (65536 + (n : Int) + 1) + _
    rw [ih, withAt_byte s k x hk hx n]
    by_cases e : n = k
    · subst e
      rw [if_neg (by omega), if_pos rfl, if_pos (by omega), Int.sub_mul]
      omega
    · rw [if_neg e]
      by_cases h : k < n
      · rw [if_pos h, if_pos (by omega)]; omega
      · rw [if_neg h, if_neg (by omega)]; omega

theorem sumOf_with (s : ByteArray) (k : Nat) (x : Int) (hk : k < s.size) (h9 : s.size ≤ 9) (hx : 0 ≤ x ∧ x ≤ 255) :
    sumOf (withAt s k x) = sumOf s + (x - byteAt s k) * (65536 + (k : Int) + 1) := by
  unfold sumOf
  rw [withAt_size, sumTo_with s k x hk hx, if_pos (by omega)]

theorem sum_one (s : ByteArray) (k : Nat) (c : Int) (hk : k < s.size) (h9 : s.size ≤ 9) (hc : 1 ≤ c ∧ c ≤ 255) :
    sumOf (withAt s k (bits .xor .u8 (byteAt s k) c)) ≠ sumOf s := by
  have hb := byteAt_bd s k
  have hx := xor8_bd (byteAt s k) c hb (by omega)
  have hn := xor8_ne (byteAt s k) c hb hc
  rw [sumOf_with s k _ hk h9 hx]
  intro h
  have h0 : (bits .xor .u8 (byteAt s k) c - byteAt s k) * (65536 + (k : Int) + 1) = 0 := by omega
  rcases Int.mul_eq_zero.1 h0 with h | h <;> omega

theorem mul_small (d : Int) (k : Nat) (hd : -255 ≤ d ∧ d ≤ 255) (hk : k < 9) : -2040 ≤ d * (k : Int) ∧ d * (k : Int) ≤ 2040 := by
  have h1 : d * (k : Int) ≤ 255 * (k : Int) := Int.mul_le_mul_of_nonneg_right hd.2 (by omega)
  have h2 : -255 * (k : Int) ≤ d * (k : Int) := Int.mul_le_mul_of_nonneg_right hd.1 (by omega)
  omega

theorem sum_two (s : ByteArray) (k j : Nat) (c : Int) (hk : k < s.size) (hj : j < s.size) (hkj : j ≠ k) (h9 : s.size ≤ 9) (hc : 1 ≤ c ∧ c ≤ 255) :
    sumOf (withAt (withAt s k (bits .xor .u8 (byteAt s k) c)) j (bits .xor .u8 (byteAt (withAt s k (bits .xor .u8 (byteAt s k) c)) j) c)) ≠ sumOf s := by
  have hb := byteAt_bd s k
  have hb' := byteAt_bd s j
  have hx := xor8_bd (byteAt s k) c hb (by omega)
  have hx' := xor8_bd (byteAt s j) c hb' (by omega)
  have hn := xor8_ne (byteAt s k) c hb hc
  have hn' := xor8_ne (byteAt s j) c hb' hc
  have e := withAt_byte s k (bits .xor .u8 (byteAt s k) c) hk hx j
  rw [if_neg hkj] at e
  rw [e, sumOf_with _ j _ (by rw [withAt_size]; exact hj) (by rw [withAt_size]; exact h9) hx', sumOf_with s k _ hk h9 hx, e]
  generalize bits .xor .u8 (byteAt s k) c = x at *
  generalize bits .xor .u8 (byteAt s j) c = y at *
  generalize byteAt s k = b at *
  generalize byteAt s j = d at *
  intro h
  have m1 := mul_small (x - b) k (by omega) (by omega)
  have m2 := mul_small (y - d) j (by omega) (by omega)
  have r1 : (x - b) * (65536 + (k : Int) + 1) = (x - b) * 65537 + (x - b) * (k : Int) := by rw [← Int.mul_add]; congr 1; omega
  have r2 : (y - d) * (65536 + (j : Int) + 1) = (y - d) * 65537 + (y - d) * (j : Int) := by rw [← Int.mul_add]; congr 1; omega
  rw [r1, r2] at h
  have h3 : (y - d) = -(x - b) := by omega
  rw [h3] at h m2
  have h4 : (x - b) * (k : Int) = (x - b) * (j : Int) := by rw [Int.neg_mul] at h; rw [Int.neg_mul] at h; omega
  have h5 := Int.eq_of_mul_eq_mul_left (show x - b ≠ 0 by omega) h4
  omega

end Go.Proofs.Ytagfnhgioljfnaa

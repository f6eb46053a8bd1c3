/- Plain facts on XorOf: order and grouping do not matter, twice is none. Conditions: none. -/
import Derived.Test.YtphenphfficnaabX1
namespace Go.Proofs.Ytphenphfficnaab

theorem xor8_nat {a b : Int} (ha : 0 ≤ a ∧ a ≤ 255) (hb : 0 ≤ b ∧ b ≤ 255) : bits .xor .u8 a b = ((a.toNat ^^^ b.toNat : Nat) : Int) := u8_xor a b ha.1 (by omega) hb.1 (by omega)
theorem xor8_comm {a b : Int} (ha : 0 ≤ a ∧ a ≤ 255) (hb : 0 ≤ b ∧ b ≤ 255) : bits .xor .u8 a b = bits .xor .u8 b a := by rw [xor8_nat ha hb, xor8_nat hb ha, Nat.xor_comm]
theorem xor8_assoc {a b c : Int} (ha : 0 ≤ a ∧ a ≤ 255) (hb : 0 ≤ b ∧ b ≤ 255) (hc : 0 ≤ c ∧ c ≤ 255) : bits .xor .u8 (bits .xor .u8 a b) c = bits .xor .u8 a (bits .xor .u8 b c) := by
  have h1 := xor8_bd a b ha hb
  have h2 := xor8_bd b c hb hc
  rw [xor8_nat h1 hc, xor8_nat ha h2, xor8_nat ha hb, xor8_nat hb hc]
  simp only [Int.toNat_natCast]
  rw [Nat.xor_assoc]
theorem xor8_self {a : Int} (ha : 0 ≤ a ∧ a ≤ 255) : bits .xor .u8 a a = 0 := by rw [xor8_nat ha ha, Nat.xor_self]; rfl
theorem xor8_nil {a : Int} (ha : 0 ≤ a ∧ a ≤ 255) : bits .xor .u8 a 0 = a := by rw [xor8_nat ha (by omega)]; simp; omega
theorem xor8_nil' {a : Int} (ha : 0 ≤ a ∧ a ≤ 255) : bits .xor .u8 0 a = a := by rw [xor8_nat (by omega) ha]; simp; omega
theorem xor8_back {a b : Int} (ha : 0 ≤ a ∧ a ≤ 255) (hb : 0 ≤ b ∧ b ≤ 255) : bits .xor .u8 (bits .xor .u8 a b) b = a := by rw [xor8_assoc ha hb hb, xor8_self hb, xor8_nil ha]

theorem xorS_comm (s t : ByteArray) : xorS s t = xorS t s := by
  refine text_ext (by rw [xorS_size, xorS_size]; omega) fun i _ => ?_
  rw [xorS_byte, xorS_byte, xor8_comm (byteAt_bd s i) (byteAt_bd t i)]
theorem xorS_assoc (s t r : ByteArray) : xorS (xorS s t) r = xorS s (xorS t r) := by
  refine text_ext (by rw [xorS_size, xorS_size, xorS_size, xorS_size]; omega) fun i _ => ?_
  rw [xorS_byte, xorS_byte, xorS_byte, xorS_byte, xor8_assoc (byteAt_bd s i) (byteAt_bd t i) (byteAt_bd r i)]
theorem xorS_back (s t : ByteArray) (i : Nat) : byteAt (xorS (xorS s t) t) i = byteAt s i := by rw [xorS_byte, xorS_byte, xor8_back (byteAt_bd s i) (byteAt_bd t i)]
theorem xorS_self (s : ByteArray) (i : Nat) : byteAt (xorS s s) i = 0 := by rw [xorS_byte, xor8_self (byteAt_bd s i)]
theorem xorS_empty (s t : ByteArray) (h : t.size = 0) : xorS s t = s := by
  refine text_ext (by rw [xorS_size]; omega) fun i _ => ?_
  rw [xorS_byte, byteAt_ge (s := t) (by omega), xor8_nil (byteAt_bd s i)]

end Go.Proofs.Ytphenphfficnaab

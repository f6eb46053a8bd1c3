/- XorOf of the program and XorOf of the specification both answer the same text. Conditions: texts of at most 2^40 bytes. -/
import Derived.Test.YtphenphfficnaabX1
import Derived.Test.YtphenphfficnaabW1
namespace Go.Proofs.Ytphenphfficnaab
open Go.RowKit Go.Shelf

set_option maxHeartbeats 400000 in
theorem implXor_any (s t : ByteArray) (hs : s.size ≤ 1099511627776) (ht : t.size ≤ 1099511627776) (w : World) :
    Calls Try.prog 9 #[.string s, .string t] w fun e w' => e = .returned (.string (xorS s t)) ∧ Below w.heap.size w w' := by
  go_enter Try.func9, Try.ntmps9
  go_wp2_with fail
  refine (callsIn_wide.1 (joined_in s t hs ht _)).mono ?_
  rintro e w' ⟨rfl, hB⟩
  go_wp2
  go_ret
  exact ⟨rfl, hB⟩

/-- The first k bytes of XorOf. -/
def xorTo (s t : ByteArray) (k : Nat) : List Int := (List.range k).map fun i => bits .xor .u8 (byteAt s i) (byteAt t i)
theorem xorTo_succ (s t : ByteArray) (k : Nat) : xorTo s t (k + 1) = xorTo s t k ++ [bits .xor .u8 (byteAt s k) (byteAt t k)] := by simp [xorTo, List.range_succ]
theorem xor8_none (x : Int) (h : 0 ≤ x ∧ x ≤ 255) : bits .xor .u8 x 0 = x := by rw [u8_xor x 0 h.1 (by omega) (by omega) (by omega)]; simp; omega
theorem xor8_none' (x : Int) (h : 0 ≤ x ∧ x ≤ 255) : bits .xor .u8 0 x = x := by rw [u8_xor 0 x (by omega) (by omega) h.1 (by omega)]; simp; omega

set_option maxRecDepth 100000 in
set_option maxHeartbeats 4000000 in
theorem specXor_any (s t : ByteArray) (hs : s.size ≤ 1099511627776) (ht : t.size ≤ 1099511627776) (w : World) :
    Calls Try.prog 8 #[.string s, .string t] w fun e w' => e = .returned (.string (xorS s t)) ∧ Below w.heap.size w w' := by
  obtain ⟨i0, hi0, hz0, hz1, hz2⟩ := info_parts info5
  obtain ⟨m, hm⟩ : ∃ m : Nat, m = max s.size t.size := ⟨_, rfl⟩
  have hmax : max (s.size : Int) (t.size : Int) = (m : Int) := by omega
  have hmb : m ≤ 1099511627776 := by omega
  have Hm := Lib.hid hm
  clear hm
  go_enter Try.func8, Try.ntmps8
  go_wp2_with fail
  go_loopw [5, 6, 7] (fun o i _ wr => ∃ k : Nat, k ≤ m ∧ i = .int .i64 (k : Int) ∧ wr.ownsRow w.heap.size 5 1 o k ((xorTo s t k).map (Value.int .u8)) ∧ Below w.heap.size w wr)
    (fun _ i _ _ => m - (intOf i).toNat)
  case atStart => exact ⟨0, Nat.zero_le _, rfl, World.ownsRow_made w #[] 0 (Nat.le_refl _) (by simp [maxLen]) (by simp), (Below.refl _ _).alloc (Nat.le_refl _) _⟩
  case round =>
    obtain ⟨k, hk, rfl, hown, hB⟩ := hrel
    by_cases hlt : k < m
    · have hsz : w.heap.size ≤ wr.heap.size := hB.size
      have HS := Lib.hid (xorTo_succ s t k)
      have hlk : ∀ i, u5.ownBlock = some i → w.heap.size ≤ i := fun i e => (hown.lt i e).1
      have Hlk := Lib.hid hlk
      clear hlk
      by_cases h1 : k < s.size
      · have b1 : (s[k].toNat : Int) < 256 := by have := s[k].toNat_lt; omega
        by_cases h2 : k < t.size
        · have HX : Hid (bits .xor .u8 (byteAt s k) (byteAt t k) = bits .xor .u8 (s[k].toNat : Int) (t[k].toNat : Int)) := by rw [byteAt_lt h1, byteAt_lt h2]; exact rfl
          have b2 : (t[k].toNat : Int) < 256 := by have := t[k].toNat_lt; omega
          go_wp2_with (at_builtin; refine wpList_append_lies _ rfl _ _ 37 rfl w.heap.size 5 i0 (.int .u8 0) 1 1 Try.underlying37 hi0 hz0 hz1 hz2 rfl (by omega) _ k ((xorTo s t k).map (Value.int .u8)) rfl (hown.alloc _) ⟨wr.heap.size, 0, none⟩ 1 1 [.int .u8 (bits .xor .u8 (s[k].toNat : Int) (t[k].toNat : Int))] rfl rfl (news_new _ _ 5 _ rfl) (by simp [Value.oneCell']) (by omega) (by simp [maxLen]; omega) (by omega) (by simp; omega) _ rfl ?_; intro g cap w4 hown4 hgrow4 hat4 hlt4)
          go_roundw
          case rel => exact ⟨k + 1, by omega, by go_num, by rw [HS.out, HX.out, List.map_append]; exact hown4, (hB.alloc hsz _).grown hgrow4 (by simp; omega) Hlk.out⟩
          case measure => simp [intOf]; omega
        · have HX : Hid (bits .xor .u8 (byteAt s k) (byteAt t k) = (s[k].toNat : Int)) := by rw [byteAt_ge (by omega : t.size ≤ k), xor8_none _ (byteAt_bd s k), byteAt_lt h1]; exact rfl
          have b3 : ¬ k < t.size := h2
          go_wp2_with (at_builtin; refine wpList_append_lies _ rfl _ _ 37 rfl w.heap.size 5 i0 (.int .u8 0) 1 1 Try.underlying37 hi0 hz0 hz1 hz2 rfl (by omega) _ k ((xorTo s t k).map (Value.int .u8)) rfl (hown.alloc _) ⟨wr.heap.size, 0, none⟩ 1 1 [.int .u8 ((s[k].toNat : Int))] rfl rfl (news_new _ _ 5 _ rfl) (by simp [Value.oneCell']) (by omega) (by simp [maxLen]; omega) (by omega) (by simp; omega) _ rfl ?_; intro g cap w4 hown4 hgrow4 hat4 hlt4)
          go_roundw
          case rel => exact ⟨k + 1, by omega, by go_num, by rw [HS.out, HX.out, List.map_append]; exact hown4, (hB.alloc hsz _).grown hgrow4 (by simp; omega) Hlk.out⟩
          case measure => simp [intOf]; omega
      · have h2 : k < t.size := by have := Hm.out; omega
        have b2 : (t[k].toNat : Int) < 256 := by have := t[k].toNat_lt; omega
        have HX : Hid (bits .xor .u8 (byteAt s k) (byteAt t k) = bits .xor .u8 0 (t[k].toNat : Int)) := by rw [byteAt_ge (by omega : s.size ≤ k), byteAt_lt h2]; exact rfl
        have b3 : ¬ k < s.size := h1
        go_wp2_with (at_builtin; refine wpList_append_lies _ rfl _ _ 37 rfl w.heap.size 5 i0 (.int .u8 0) 1 1 Try.underlying37 hi0 hz0 hz1 hz2 rfl (by omega) _ k ((xorTo s t k).map (Value.int .u8)) rfl (hown.alloc _) ⟨wr.heap.size, 0, none⟩ 1 1 [.int .u8 (bits .xor .u8 0 (t[k].toNat : Int))] rfl rfl (news_new _ _ 5 _ rfl) (by simp [Value.oneCell']) (by omega) (by simp [maxLen]; omega) (by omega) (by simp; omega) _ rfl ?_; intro g cap w4 hown4 hgrow4 hat4 hlt4)
        go_roundw
        case rel => exact ⟨k + 1, by omega, by go_num, by rw [HS.out, HX.out, List.map_append]; exact hown4, (hB.alloc hsz _).grown hgrow4 (by simp; omega) Hlk.out⟩
        case measure => simp [intOf]; omega
    · have hconv := conv_own hown
      have HE : Hid (strOfNums (xorTo s t k) = xorS s t) := by
        have e : k = max s.size t.size := by have := Hm.out; omega
        rw [e]; exact rfl
      go_wp2
      go_ret
      exact ⟨by rw [← HE.out]; rfl, hB⟩

end Go.Proofs.Ytphenphfficnaab

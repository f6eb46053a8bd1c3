/- Plain facts on XorOf: order and grouping do not matter, twice is none. Conditions: none. Plain facts on columns: how a text is split. Conditions: none. Slices of bytes and of texts of the call's own: what is appended, and bytes read as a text. Conditions: none. XorOf of the program and XorOf of the specification both answer the same text. Conditions: texts of at most 2^40 bytes. ColsOf of the program: a text is split into columns. Conditions: none but the row's own bound on sizes. -/
import Derived.Test.YtcdiengbmjkglaaGreatPKX1
import Derived.Test.YtcdiengbmjkglaaGreatPKShelf
import Derived.WalkKit
import Derived.Lib.Hide
import Derived.Deep.AppendLies
import Derived.Laws.BytesArg
import Derived.OwnWalk
import Derived.Maps.Range
import Derived.Test.YtcdiengbmjkglaaGreatRows
namespace Go.Proofs.YtcdiengbmjkglaaGreat

theorem xor8_nat {a b : Int} (ha : 0 ≤ a ∧ a ≤ 255) (hb : 0 ≤ b ∧ b ≤ 255) : bits .xor .u8 a b = ((a.toNat ^^^ b.toNat : Nat) : Int) := u8_xor a b ha.1 (by omega) hb.1 (by omega)
theorem xor8_comm {a b : Int} (ha : 0 ≤ a ∧ a ≤ 255) (hb : 0 ≤ b ∧ b ≤ 255) : bits .xor .u8 a b = bits .xor .u8 b a := by rw [xor8_nat ha hb, xor8_nat hb ha, Nat.xor_comm]
theorem xor8_assoc {a b c : Int} (ha : 0 ≤ a ∧ a ≤ 255) (hb : 0 ≤ b ∧ b ≤ 255) (hc : 0 ≤ c ∧ c ≤ 255) : bits .xor .u8 (bits .xor .u8 a b) c = bits .xor .u8 a (bits .xor .u8 b c) := by
  have h1 := xor8_bd a b ha hb
  have h2 := xor8_bd b c hb hc
  rw [xor8_nat h1 hc, xor8_nat ha h2, xor8_nat ha hb, xor8_nat hb hc]
  simp only [Int.toNat_natCast]
  rw [Nat.xor_assoc]
theorem xor8_self {a : Int} (ha : 0 ≤ a ∧ a ≤ 255) : bits .xor .u8 a a = 0 := by rw [xor8_nat ha ha, Nat.xor_self]; rfl
theorem xor8_nil {a : Int} (ha : 0 ≤ a ∧ a ≤ 255) : bits .xor .u8 a 0 = a := by rw [xor8_nat ha (by omega)]; simp; omega
theorem xor8_nil' {a : Int} (ha : 0 ≤ a ∧ a ≤ 255) : bits .xor .u8 0 a = a := by rw [xor8_nat (by omega) ha]; simp; omega
theorem xor8_back {a b : Int} (ha : 0 ≤ a ∧ a ≤ 255) (hb : 0 ≤ b ∧ b ≤ 255) : bits .xor .u8 (bits .xor .u8 a b) b = a := by rw [xor8_assoc ha hb hb, xor8_self hb, xor8_nil ha]

theorem xorS_comm (s t : ByteArray) : xorS s t = xorS t s := by
  refine text_ext (by rw [xorS_size, xorS_size]; omega) fun i _ => ?_
  rw [xorS_byte, xorS_byte, xor8_comm (byteAt_bd s i) (byteAt_bd t i)]
theorem xorS_assoc (s t r : ByteArray) : xorS (xorS s t) r = xorS s (xorS t r) := by
  refine text_ext (by rw [xorS_size, xorS_size, xorS_size, xorS_size]; omega) fun i _ => ?_
  rw [xorS_byte, xorS_byte, xorS_byte, xorS_byte, xor8_assoc (byteAt_bd s i) (byteAt_bd t i) (byteAt_bd r i)]
theorem xorS_back (s t : ByteArray) (i : Nat) : byteAt (xorS (xorS s t) t) i = byteAt s i := by rw [xorS_byte, xorS_byte, xor8_back (byteAt_bd s i) (byteAt_bd t i)]
theorem xorS_self (s : ByteArray) (i : Nat) : byteAt (xorS s s) i = 0 := by rw [xorS_byte, xor8_self (byteAt_bd s i)]
theorem xorS_empty (s t : ByteArray) (h : t.size = 0) : xorS s t = s := by
  refine text_ext (by rw [xorS_size]; omega) fun i _ => ?_
  rw [xorS_byte, byteAt_ge (s := t) (by omega), xor8_nil (byteAt_bd s i)]

end Go.Proofs.YtcdiengbmjkglaaGreat

namespace Go.Proofs.YtcdiengbmjkglaaGreat

/-- COLUMN i OF A TEXT: three bytes, noughts behind its end. -/
def colOf (s : ByteArray) (i : Nat) : ByteArray := strOfNums [byteAt s (3 * i), byteAt s (3 * i + 1), byteAt s (3 * i + 2)]
def colsTo (s : ByteArray) (k : Nat) : List ByteArray := (List.range k).map (colOf s)
/-- **ColsOf**, as the document has it. -/
def colsOf (s : ByteArray) : List ByteArray := if s.size ≤ 9 then colsTo s ((s.size + 2) / 3) else []
theorem colsTo_succ (s : ByteArray) (k : Nat) : colsTo s (k + 1) = colsTo s k ++ [colOf s k] := by simp [colsTo, List.range_succ]
theorem colsTo_length (s : ByteArray) (k : Nat) : (colsTo s k).length = k := by simp [colsTo]
theorem colOf_size (s : ByteArray) (i : Nat) : (colOf s i).size = 3 := by simp [colOf, strOfNums_size]
theorem colOf_byte (s : ByteArray) (i j : Nat) (hj : j < 3) : byteAt (colOf s i) j = byteAt s (3 * i + j) := by
  unfold colOf
  rw [byteAt_ofNums]
  · match j, hj with
    | 0, _ => rfl
    | 1, _ => rfl
    | 2, _ => rfl
  · intro n
    match n with
    | 0 => exact byteAt_bd _ _
    | 1 => exact byteAt_bd _ _
    | 2 => exact byteAt_bd _ _
    | n + 3 => simp [List.getD]

/-- Three noughts. -/
def nul3 : ByteArray := ⟨(Lib.repeatL [0] 3).toArray⟩
theorem nul3_size : nul3.size = 3 := rfl
theorem nul3_byte (i : Nat) : byteAt nul3 i = 0 := by
  match i with
  | 0 => rfl
  | 1 => rfl
  | 2 => rfl
  | i + 3 => exact byteAt_ge (by rw [nul3_size]; omega)

theorem byteAt_extract (s : ByteArray) (a b i : Nat) : byteAt (s.extract a b) i = if a + i < b then byteAt s (a + i) else 0 := by
  unfold byteAt
  rw [show (s.extract a b).data.toList = (s.data.toList.drop a).take (b - a) by simp [ByteArray.data_extract, List.extract_eq_take_drop]]
  rw [List.getElem?_take]
  by_cases h : i < b - a
  · rw [if_pos h, if_pos (by omega), List.getElem?_drop]
  · rw [if_neg h, if_neg (by omega)]
    rfl
theorem filled_eq (s : ByteArray) (k b : Nat) (hb : b = min (3 * k + 3) s.size) : xorS (s.extract (3 * k) b) nul3 = colOf s k := by
  have hsz : (s.extract (3 * k) b).size ≤ 3 := by simp [ByteArray.size_extract]; omega
  refine text_ext (by rw [xorS_size, colOf_size, nul3_size]; omega) fun i hi => ?_
  rw [xorS_size, nul3_size] at hi
  rw [xorS_byte, nul3_byte, xor8_nil (byteAt_bd _ i), colOf_byte s k i (by omega), byteAt_extract]
  by_cases h : 3 * k + i < b
  · rw [if_pos h]
  · rw [if_neg h, byteAt_ge (by omega)]

end Go.Proofs.YtcdiengbmjkglaaGreat

namespace Go.Proofs.YtcdiengbmjkglaaGreat
open Go.RowKit

theorem grownBy_drew1 {w w' : World} {r : Option Nat} (h : w.grownBy w' r) : w.grownBy w'.drew r := ⟨h.os, h.tape, h.output, h.size, h.block⟩

/-- 'string(out)' of a slice of one's own. -/
theorem conv_own {w : World} {base : Nat} {v : Value} {k : Nat} {zs : List Int} (h : w.ownsRow base 5 1 v k (zs.map (Value.int .u8))) :
    (convert 41 9 v).run Tryz.prog w = .ok (.string (strOfNums zs)) w := by
  have hl : zs.length = k := by have := h.1; simpa using this
  rcases h.2 with ⟨rfl, hk⟩ | ⟨g, cap, cur, rfl, hb, hg, hkc, hcm, hcs, hx⟩
  · have : zs = [] := List.eq_nil_of_length_eq_zero (by omega)
    subst this
    exact run_convert_bytes_nil w 41 5 Tryz.underlying41 Tryz.underlying5 0 0 9 Tryz.underlying9
  · refine run_convert_bytes_arg w 41 5 Tryz.underlying41 Tryz.underlying5 g 0 k cap zs hl (fun i hi => ?_) 9 Tryz.underlying9
    have e : (cur.toList.take (k * 1))[i]? = (zs.map (Value.int .u8))[i]? := by rw [hx]
    rw [List.getElem?_take, if_pos (by omega)] at e
    simp only [World.cell?, hg, Nat.zero_add]
    simp [List.getD, List.getElem?_eq_getElem (show i < zs.length by omega)] at e ⊢
    exact e

theorem news_new (W : World) (z : Value) (t : TypeId) (H : Nat) (hH : W.heap.size = H) : ∀ j u, [z][j]? = some u → (W.alloc (.cells #[z] t)).cell? ((⟨H, 0, none⟩ : Addr).add j) = some u := by
  subst hH
  exact World.news_of_block (cs := #[z]) (t := t) (fr := (0, 0)) (heap_alloc_new W _)

theorem info5 : (Tryz.prog.info? 5).map (fun i => (i.zero, i.size, i.bytes)) = some (some (.int .u8 0), 1, 1) := by kernel_rfl

end Go.Proofs.YtcdiengbmjkglaaGreat

namespace Go.Proofs.YtcdiengbmjkglaaGreat
open Go.RowKit Go.Shelf

set_option maxHeartbeats 400000 in
theorem implXor_any (s t : ByteArray) (hs : s.size ≤ 1099511627776) (ht : t.size ≤ 1099511627776) (w : World) :
    Calls Tryz.prog 109 #[.string s, .string t] w fun e w' => e = .returned (.string (xorS s t)) ∧ Below w.heap.size w w' := by
  go_enter Tryz.func109, Tryz.ntmps109
  go_wp2_with fail
  refine (callsIn_wide.1 (joined_in s t hs ht _)).mono ?_
  rintro e w' ⟨rfl, hB⟩
  go_wp2
  go_ret
  exact ⟨rfl, hB⟩

/-- The first k bytes of XorOf. -/
def xorTo (s t : ByteArray) (k : Nat) : List Int := (List.range k).map fun i => bits .xor .u8 (byteAt s i) (byteAt t i)
theorem xorTo_succ (s t : ByteArray) (k : Nat) : xorTo s t (k + 1) = xorTo s t k ++ [bits .xor .u8 (byteAt s k) (byteAt t k)] := by simp [xorTo, List.range_succ]
theorem xor8_none (x : Int) (h : 0 ≤ x ∧ x ≤ 255) : bits .xor .u8 x 0 = x := by rw [u8_xor x 0 h.1 (by omega) (by omega) (by omega)]; simp; omega
theorem xor8_none' (x : Int) (h : 0 ≤ x ∧ x ≤ 255) : bits .xor .u8 0 x = x := by rw [u8_xor 0 x (by omega) (by omega) h.1 (by omega)]; simp; omega

set_option maxRecDepth 100000 in
set_option maxHeartbeats 4000000 in
theorem specXor_any (s t : ByteArray) (hs : s.size ≤ 1099511627776) (ht : t.size ≤ 1099511627776) (w : World) :
    Calls Tryz.prog 124 #[.string s, .string t] w fun e w' => e = .returned (.string (xorS s t)) ∧ Below w.heap.size w w' := by
  obtain ⟨i0, hi0, hz0, hz1, hz2⟩ := info_parts info5
  obtain ⟨m, hm⟩ : ∃ m : Nat, m = max s.size t.size := ⟨_, rfl⟩
  have hmax : max (s.size : Int) (t.size : Int) = (m : Int) := by omega
  have hmb : m ≤ 1099511627776 := by omega
  have Hm := Lib.hid hm
  clear hm
  go_enter Tryz.func124, Tryz.ntmps124
  go_wp2_with fail
  go_loopw [5, 6, 7] (fun o i _ wr => ∃ k : Nat, k ≤ m ∧ i = .int .i64 (k : Int) ∧ wr.ownsRow w.heap.size 5 1 o k ((xorTo s t k).map (Value.int .u8)) ∧ Below w.heap.size w wr)
    (fun _ i _ _ => m - (intOf i).toNat)
  case atStart => exact ⟨0, Nat.zero_le _, rfl, World.ownsRow_made w #[] 0 (Nat.le_refl _) (by simp [maxLen]) (by simp), (Below.refl _ _).alloc (Nat.le_refl _) _⟩
  case round =>
    obtain ⟨k, hk, rfl, hown, hB⟩ := hrel
    by_cases hlt : k < m
    · have hsz : w.heap.size ≤ wr.heap.size := hB.size
      have HS := Lib.hid (xorTo_succ s t k)
      have hlk : ∀ i, u5.ownBlock = some i → w.heap.size ≤ i := fun i e => (hown.lt i e).1
      have Hlk := Lib.hid hlk
      clear hlk
      by_cases h1 : k < s.size
      · have b1 : (s[k].toNat : Int) < 256 := by have := s[k].toNat_lt; omega
        by_cases h2 : k < t.size
        · have HX : Hid (bits .xor .u8 (byteAt s k) (byteAt t k) = bits .xor .u8 (s[k].toNat : Int) (t[k].toNat : Int)) := by rw [byteAt_lt h1, byteAt_lt h2]; exact rfl
          have b2 : (t[k].toNat : Int) < 256 := by have := t[k].toNat_lt; omega
          go_wp2_with (at_builtin; refine wpList_append_lies _ rfl _ _ 41 rfl w.heap.size 5 i0 (.int .u8 0) 1 1 Tryz.underlying41 hi0 hz0 hz1 hz2 rfl (by omega) _ k ((xorTo s t k).map (Value.int .u8)) rfl (hown.alloc _) ⟨wr.heap.size, 0, none⟩ 1 1 [.int .u8 (bits .xor .u8 (s[k].toNat : Int) (t[k].toNat : Int))] rfl rfl (news_new _ _ 5 _ rfl) (by simp [Value.oneCell']) (by omega) (by simp [maxLen]; omega) (by omega) (by simp; omega) _ rfl ?_; intro g cap w4 hown4 hgrow4 hat4 hlt4)
          go_roundw
          case rel => exact ⟨k + 1, by omega, by go_num, by rw [HS.out, HX.out, List.map_append]; exact hown4, (hB.alloc hsz _).grown hgrow4 (by simp; omega) Hlk.out⟩
          case measure => simp [intOf]; omega
        · have HX : Hid (bits .xor .u8 (byteAt s k) (byteAt t k) = (s[k].toNat : Int)) := by rw [byteAt_ge (by omega : t.size ≤ k), xor8_none _ (byteAt_bd s k), byteAt_lt h1]; exact rfl
          have b3 : ¬ k < t.size := h2
          go_wp2_with (at_builtin; refine wpList_append_lies _ rfl _ _ 41 rfl w.heap.size 5 i0 (.int .u8 0) 1 1 Tryz.underlying41 hi0 hz0 hz1 hz2 rfl (by omega) _ k ((xorTo s t k).map (Value.int .u8)) rfl (hown.alloc _) ⟨wr.heap.size, 0, none⟩ 1 1 [.int .u8 ((s[k].toNat : Int))] rfl rfl (news_new _ _ 5 _ rfl) (by simp [Value.oneCell']) (by omega) (by simp [maxLen]; omega) (by omega) (by simp; omega) _ rfl ?_; intro g cap w4 hown4 hgrow4 hat4 hlt4)
          go_roundw
          case rel => exact ⟨k + 1, by omega, by go_num, by rw [HS.out, HX.out, List.map_append]; exact hown4, (hB.alloc hsz _).grown hgrow4 (by simp; omega) Hlk.out⟩
          case measure => simp [intOf]; omega
      · have h2 : k < t.size := by have := Hm.out; omega
        have b2 : (t[k].toNat : Int) < 256 := by have := t[k].toNat_lt; omega
        have HX : Hid (bits .xor .u8 (byteAt s k) (byteAt t k) = bits .xor .u8 0 (t[k].toNat : Int)) := by rw [byteAt_ge (by omega : s.size ≤ k), byteAt_lt h2]; exact rfl
        have b3 : ¬ k < s.size := h1
        go_wp2_with (at_builtin; refine wpList_append_lies _ rfl _ _ 41 rfl w.heap.size 5 i0 (.int .u8 0) 1 1 Tryz.underlying41 hi0 hz0 hz1 hz2 rfl (by omega) _ k ((xorTo s t k).map (Value.int .u8)) rfl (hown.alloc _) ⟨wr.heap.size, 0, none⟩ 1 1 [.int .u8 (bits .xor .u8 0 (t[k].toNat : Int))] rfl rfl (news_new _ _ 5 _ rfl) (by simp [Value.oneCell']) (by omega) (by simp [maxLen]; omega) (by omega) (by simp; omega) _ rfl ?_; intro g cap w4 hown4 hgrow4 hat4 hlt4)
        go_roundw
        case rel => exact ⟨k + 1, by omega, by go_num, by rw [HS.out, HX.out, List.map_append]; exact hown4, (hB.alloc hsz _).grown hgrow4 (by simp; omega) Hlk.out⟩
        case measure => simp [intOf]; omega
    · have hconv := conv_own hown
      have HE : Hid (strOfNums (xorTo s t k) = xorS s t) := by
        have e : k = max s.size t.size := by have := Hm.out; omega
        rw [e]; exact rfl
      go_wp2
      go_ret
      exact ⟨by rw [← HE.out]; rfl, hB⟩

end Go.Proofs.YtcdiengbmjkglaaGreat

namespace Go.Proofs.YtcdiengbmjkglaaGreat
open Go.RowKit Go.Shelf

theorem repeatNul_any (s : ByteArray) (hs : s = ⟨#[0]⟩) (w : World) :
    Calls Tryz.prog 126 #[.string s, .int .i64 3] w fun e w' => e = .returned (.string nul3) ∧ Below w.heap.size w w' := by
  subst hs
  exact Tryz.strings_Repeat ⟨#[0]⟩ 3 w (by omega) (by decide)

set_option maxHeartbeats 400000 in
theorem filled_any (p : ByteArray) (hp : p.size ≤ 1000) (w : World) :
    Calls Tryz.prog 107 #[.string p] w fun e w' => e = .returned (.string (xorS p nul3)) ∧ Below w.heap.size w w' := by
  go_enter Tryz.func107, Tryz.ntmps107
  go_wp2_with fail
  refine (repeatNul_any _ rfl _).mono ?_
  rintro e w1 ⟨rfl, hB1⟩
  go_wp2_with fail
  refine (implXor_any p nul3 (by omega) (by rw [nul3_size]; omega) _).mono ?_
  rintro e w2 ⟨rfl, hB2⟩
  go_wp2
  go_ret
  exact ⟨rfl, hB1.trans (hB2.mono hB1.size)⟩

theorem info9 : (Tryz.prog.info? 9).map (fun i => (i.zero, i.size, i.bytes)) = some (some (.string ByteArray.empty), 1, 16) := by kernel_rfl

theorem owns_below {w w' : World} {base : Nat} {e : TypeId} {size : Nat} {v : Value} {n : Nat} {xs : List Value} (h : w.ownsRow base e size v n xs) (hB : Below w.heap.size w w') : w'.ownsRow base e size v n xs :=
  h.kept (row := none) ⟨hB.os, hB.tape, hB.output, hB.size, fun k hk _ => hB.block k hk⟩ (by cases v.ownBlock <;> simp)

/-- A NEW SLICE OF TEXTS. -/
def NewStrs (xs : List ByteArray) (w : World) (e : Ending) (w' : World) : Prop :=
  ∃ v, e = .returned v ∧ w'.ownsRow w.heap.size 9 1 v xs.length (xs.map Value.string) ∧ Below w.heap.size w w'

set_option maxRecDepth 100000 in
set_option maxHeartbeats 4000000 in
theorem implCols_any (s : ByteArray) (hs : s.size ≤ maxLen) (w : World) :
    Calls Tryz.prog 73 #[.string s] w (NewStrs (colsOf s) w) := by
  unfold maxLen at hs
  obtain ⟨i0, hi0, hz0, hz1, hz2⟩ := info_parts info9
  by_cases h9 : s.size ≤ 9
  · have HE := Lib.hid (show colsOf s = colsTo s ((s.size + 2) / 3) by unfold colsOf; rw [if_pos h9])
    go_enter Tryz.func73, Tryz.ntmps73
    go_wp2_with fail
    go_loopw [3, 4] (fun o i wr => ∃ k f : Nat, f = 3 * k ∧ f ≤ s.size + 2 ∧ i = .int .i64 (f : Int) ∧ wr.ownsRow w.heap.size 9 1 o k ((colsTo s k).map Value.string) ∧ Below w.heap.size w wr)
      (fun _ i _ => s.size + 3 - (intOf i).toNat)
    case atStart => exact ⟨0, 0, rfl, by omega, rfl, World.ownsRow_nil _ _ _ _, Below.refl _ _⟩
    case round =>
      obtain ⟨k, f, hf, hk, rfl, hown, hB⟩ := hrel
      have Hf := Lib.hid hf
      have hk4 : k ≤ 4 := by omega
      clear hf
      by_cases hlt : f < s.size
      · obtain ⟨b, hb⟩ : ∃ b : Nat, b = min (f + 3) s.size := ⟨_, rfl⟩
        have hmn : min ((f : Int) + 3) (s.size : Int) = (b : Int) := by omega
        have hb1 : f ≤ b := by omega
        have hb2 : b ≤ s.size := by omega
        have hps : (s.extract f b).size ≤ 1000 := by simp [ByteArray.size_extract]; omega
        have HX : Hid (xorS (s.extract f b) nul3 = colOf s k) := by have := Hf.out; subst this; exact filled_eq s k b hb
        have HS := Lib.hid (colsTo_succ s k)
        have hsz : w.heap.size ≤ wr.heap.size := hB.size
        have Hlk : Hid (∀ i, u3.ownBlock = some i → w.heap.size ≤ i) := fun i e => (hown.lt i e).1
        clear hb
        go_wp2_with fail
        refine (filled_any (s.extract f b) hps _).mono ?_
        rintro e w1 ⟨rfl, hB1⟩
        rw [HX.out]
        have hown1 := owns_below hown hB1
        have q1 := hB1.size
        go_wp2_with (at_builtin; refine wpList_append_lies _ rfl _ _ 46 rfl w.heap.size 9 i0 _ 1 16 Tryz.underlying46 hi0 hz0 hz1 hz2 rfl (by omega) _ k ((colsTo s k).map Value.string) rfl (hown1.alloc _) ⟨w1.heap.size, 0, none⟩ 1 1 [.string (colOf s k)] rfl rfl (news_new _ _ 9 _ rfl) (by simp [Value.oneCell']) (by omega) (by simp [maxLen]; omega) (by omega) (by simp; omega) _ rfl ?_; intro g cap w4 hown4 hgrow4 hat4 hlt4)
        go_roundw
        case rel => exact ⟨k + 1, f + 3, by have := Hf.out; omega, by omega, by go_num, by rw [HS.out, List.map_append]; exact hown4, ((hB.trans (hB1.mono hsz)).alloc (by omega) _).grown hgrow4 (by simp; omega) Hlk.out⟩
        case measure => simp [intOf]; omega
      · have HL : Hid (colsOf s = colsTo s k) := by
          rw [HE.out]
          have := Hf.out
          rw [show (s.size + 2) / 3 = k by omega]; exact rfl
        go_wp2
        go_ret
        exact ⟨_, rfl, by rw [HL.out, colsTo_length]; exact hown, hB⟩
  · have HE := Lib.hid (show colsOf s = [] by unfold colsOf; rw [if_neg h9])
    go_enter Tryz.func73, Tryz.ntmps73
    go_wp2
    go_ret
    exact ⟨_, rfl, by rw [HE.out]; exact World.ownsRow_nil _ _ _ _, Below.refl _ _⟩

end Go.Proofs.YtcdiengbmjkglaaGreat

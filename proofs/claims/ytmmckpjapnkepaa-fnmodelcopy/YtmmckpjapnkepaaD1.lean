/- The reader of drawn codes: what pick answers lies in its range, and only the reader's own block turns. Conditions: the reader's place is below a million. -/
import Derived.WalkKit
import Derived.Lib.Hide
import Derived.Deep.QuietTactic
import Derived.BigQuiet
import Derived.RangeFuncBox
import Derived.Laws.BitsAllLaws
import Derived.Test.YtmmckpjapnkepaaRows
namespace Go.Proofs.Ytmmckpjapnkepaa
open Go.RowKit

/-- A READER AT BLOCK B, its place p, over bytes that lie below n₀. -/
def Rd (n₀ B p : Nat) (w : World) : Prop :=
  n₀ ≤ B ∧ ∃ (a : Option Addr) (len cap : Nat) (zs : Nat → Int), w.heap[B]? = some (.cells #[.slice a len cap, .int .i64 (p : Int)] 90 (0, 0)) ∧ len ≤ 2000 ∧ (∀ i, 0 ≤ zs i ∧ zs i ≤ 255) ∧
    (len = 0 ∨ ∃ b off, a = some ⟨b, off, none⟩ ∧ b < n₀ ∧ ∀ i, i < len → w.cell? ⟨b, off + i, none⟩ = some (.int .u8 (zs i)))

/-- WHAT pick ANSWERS. -/
def Picked (n₀ B p : Nat) (n : Int) (w : World) (e : Ending) (w' : World) : Prop :=
  ∃ v : Int, e = .returned (.int .i64 v) ∧ 0 ≤ v ∧ (1 ≤ n → v < n) ∧ Rd n₀ B (p + 1) w' ∧ w.grownBy w' (some B)

theorem i64_xor_nat (a b : Nat) (ha : a < 9223372036854775808) (hb : b < 9223372036854775808) : bits .xor .i64 (a : Int) (b : Int) = ((a ^^^ b : Nat) : Int) := by
  have hx : a ^^^ b < 2 ^ 63 := Nat.xor_lt_two_pow (by omega) (by omega)
  show IntKind.i64.wrap ((BitVec.ofInt 64 (a : Int) ^^^ BitVec.ofInt 64 (b : Int)).toNat : Int) = _
  rw [BitVec.toNat_xor, ofInt_u64 a (by omega), ofInt_u64 b (by omega)]
  simp [IntKind.wrap, IntKind.bits, IntKind.signed]
  omega

theorem mix_bd (x n : Int) (hx : 0 ≤ x ∧ x ≤ 4611686018427387904) (hn : 1 ≤ n) :
    0 ≤ (bits BinOp.xor IntKind.i64 (wrap64 x) (wrap64 ((wrap64 x).tdiv 64))).tmod n ∧ (bits BinOp.xor IntKind.i64 (wrap64 x) (wrap64 ((wrap64 x).tdiv 64))).tmod n < n := by
  have h1 : wrap64 x = x := by unfold wrap64; omega
  rw [h1]
  obtain ⟨X, rfl⟩ := Int.eq_ofNat_of_zero_le hx.1
  have h2 : (X : Int).tdiv 64 = ((X / 64 : Nat) : Int) := by rw [Int.tdiv_eq_ediv_of_nonneg hx.1]; omega
  have h3 : wrap64 ((X / 64 : Nat) : Int) = ((X / 64 : Nat) : Int) := by unfold wrap64; omega
  rw [h2, h3, i64_xor_nat X (X / 64) (by omega) (by omega), Int.tmod_eq_emod_of_nonneg (by omega)]
  exact ⟨Int.emod_nonneg _ (by omega), Int.emod_lt_of_pos _ (by omega)⟩

theorem mix_in (z y : Int) (p len : Nat) (hz : 0 ≤ z ∧ z ≤ 255) (hy : 0 ≤ y ∧ y ≤ 255) (hp : p ≤ 1000000) (hlm : len ≤ 2000) (hl0 : 0 < len) :
    0 ≤ z * 131 + y * 1117 + (p : Int) * 29 + wrap64 (wrap64 ((p : Int) / (len : Int)) * 53) ∧ z * 131 + y * 1117 + (p : Int) * 29 + wrap64 (wrap64 ((p : Int) / (len : Int)) * 53) ≤ 4611686018427387904 := by
  have a : 0 ≤ (p : Int) / (len : Int) := Int.ediv_nonneg (by omega) (by omega)
  have b : (p : Int) / (len : Int) ≤ p := Int.ediv_le_self _ (by omega)
  generalize (p : Int) / (len : Int) = q at a b ⊢
  have h1 : wrap64 q = q := by unfold wrap64; omega
  have h2 : wrap64 (q * 53) = q * 53 := by unfold wrap64; omega
  rw [h1, h2]
  omega

theorem grownBy_setCellAt (w : World) (B o : Nat) (v : Value) : w.grownBy (w.setCell ⟨B, o, none⟩ v) (some B) :=
  ⟨rfl, rfl, rfl, by simp [World.setCell], fun k _ h => Below.heap_setCell _ _ _ _ (fun e => h (by rw [e]))⟩

theorem Rd.drewN {n₀ B p : Nat} {w : World} (h : Rd n₀ B p w) (d : Nat) : Rd n₀ B p (w.drewN d) := by
  obtain ⟨hB, a, len, cap, zs, hblk, hlm, hz, hcs⟩ := h
  refine ⟨hB, a, len, cap, zs, by simpa using hblk, hlm, hz, ?_⟩
  rcases hcs with h | ⟨b, off, rfl, hb, hc⟩
  · exact .inl h
  · exact .inr ⟨b, off, rfl, hb, fun i hi => by simpa using hc i hi⟩

theorem grownBy_drewN {w w' : World} {r : Option Nat} (h : w.grownBy w' r) (d : Nat) : w.grownBy (w'.drewN d) r := ⟨h.os, h.tape, h.output, h.size, h.block⟩

set_option maxRecDepth 100000 in
set_option maxHeartbeats 1000000 in
theorem pick_low (B p : Nat) (n : Int) (w : World) (hp : p ≤ 1000000) (hn : n < 1)
    (h1 : w.cell? ⟨B, 1, none⟩ = some (.int .i64 (p : Int))) (hf : w.frozen? ⟨B, 1, none⟩ = false) :
    Calls Try.prog 36 #[.pointer (some ⟨B, 0, none⟩), .int .i64 n] w fun e w' => e = .returned (.int .i64 0) ∧ w.setCell ⟨B, 1, none⟩ (.int .i64 ((p : Int) + 1)) = w' := by
  go_enter Try.func36, Try.ntmps36
  go_wp2
  go_ret
  exact ⟨rfl, rfl⟩

set_option maxRecDepth 100000 in
set_option maxHeartbeats 1000000 in
theorem pick_none (B p : Nat) (a : Option Addr) (cap : Nat) (n : Int) (w : World) (hp : p ≤ 1000000) (hn : 1 ≤ n)
    (h0 : w.cell? ⟨B, 0, none⟩ = some (.slice a 0 cap)) (h1 : w.cell? ⟨B, 1, none⟩ = some (.int .i64 (p : Int))) (hf : w.frozen? ⟨B, 1, none⟩ = false) :
    Calls Try.prog 36 #[.pointer (some ⟨B, 0, none⟩), .int .i64 n] w fun e w' => e = .returned (.int .i64 0) ∧ w.setCell ⟨B, 1, none⟩ (.int .i64 ((p : Int) + 1)) = w' := by
  have hd : decide (n < 1) = false := by simp; omega
  go_enter Try.func36, Try.ntmps36
  go_wp2
  go_ret
  exact ⟨rfl, rfl⟩

set_option maxRecDepth 100000 in
set_option maxHeartbeats 1000000 in
theorem pick_in (B p : Nat) (b off len cap : Nat) (n z : Int) (w : World) (hp : p ≤ 1000000) (hn : 1 ≤ n) (hl : p < len) (hz : 0 ≤ z ∧ z ≤ 255)
    (h0 : w.cell? ⟨B, 0, none⟩ = some (.slice (some ⟨b, off, none⟩) len cap)) (h1 : w.cell? ⟨B, 1, none⟩ = some (.int .i64 (p : Int))) (hf : w.frozen? ⟨B, 1, none⟩ = false)
    (hc : (w.setCell ⟨B, 1, none⟩ (.int .i64 ((p : Int) + 1))).cell? ⟨b, off + p, none⟩ = some (.int .u8 z)) :
    Calls Try.prog 36 #[.pointer (some ⟨B, 0, none⟩), .int .i64 n] w fun e w' => e = .returned (.int .i64 (z % n)) ∧ w.setCell ⟨B, 1, none⟩ (.int .i64 ((p : Int) + 1)) = w' := by
  have hd : decide (n < 1) = false := by simp; omega
  have he : ((len : Int) == 0) = false := by simp; omega
  go_enter Try.func36, Try.ntmps36
  go_wp2
  go_ret
  exact ⟨rfl, rfl⟩

set_option maxRecDepth 100000 in
set_option maxHeartbeats 1000000 in
theorem pick_past (B p : Nat) (b off len cap i j : Nat) (n z y : Int) (w : World) (hp : p ≤ 1000000) (hn : 1 ≤ n) (hl : len ≤ p) (hl0 : 0 < len) (hlm : len ≤ 2000) (hz : 0 ≤ z ∧ z ≤ 255) (hy : 0 ≤ y ∧ y ≤ 255)
    (h0 : w.cell? ⟨B, 0, none⟩ = some (.slice (some ⟨b, off, none⟩) len cap)) (h1 : w.cell? ⟨B, 1, none⟩ = some (.int .i64 (p : Int))) (hf : w.frozen? ⟨B, 1, none⟩ = false)
    (hi : (p : Int) % (len : Int) = (i : Int)) (hj : ((p : Int) * 7 + 3) % (len : Int) = (j : Int)) (hil : i < len) (hjl : j < len)
    (hc : (w.setCell ⟨B, 1, none⟩ (.int .i64 ((p : Int) + 1))).cell? ⟨b, off + i, none⟩ = some (.int .u8 z))
    (hc' : (w.setCell ⟨B, 1, none⟩ (.int .i64 ((p : Int) + 1))).cell? ⟨b, off + j, none⟩ = some (.int .u8 y)) :
    Calls Try.prog 36 #[.pointer (some ⟨B, 0, none⟩), .int .i64 n] w fun e w' => (∃ v : Int, e = .returned (.int .i64 v) ∧ 0 ≤ v ∧ v < n) ∧ ∃ d, w' = (w.setCell ⟨B, 1, none⟩ (.int .i64 ((p : Int) + 1))).drewN d := by
  have hd : decide (n < 1) = false := by simp; omega
  have he : ((len : Int) == 0) = false := by simp; omega
  go_enter Try.func36, Try.ntmps36
  go_wp2
  go_quiet (fail)
  go_wp2
  have Hm := mix_bd (z * 131 + y * 1117 + (p : Int) * 29 + wrap64 (wrap64 ((p : Int) / (len : Int)) * 53)) n (mix_in z y p len hz hy hp hlm hl0) hn
  generalize ((bits BinOp.xor IntKind.i64 (wrap64 (z * 131 + y * 1117 + (p : Int) * 29 + wrap64 (wrap64 ((p : Int) / (len : Int)) * 53)))
                  (wrap64 ((wrap64 (z * 131 + y * 1117 + (p : Int) * 29 + wrap64 (wrap64 ((p : Int) / (len : Int)) * 53))).tdiv 64))).tmod n) = v at Hm ⊢
  go_ret
  exact ⟨⟨v, rfl, Hm.1, Hm.2⟩, nq, rfl⟩

/-- THE STORE INTO THE READER'S PLACE. -/
theorem Rd.turn {B p : Nat} {w : World} {v0 : Value} (hb : w.heap[B]? = some (.cells #[v0, .int .i64 (p : Int)] 90 (0, 0))) :
    (w.setCell ⟨B, 1, none⟩ (.int .i64 ((p : Int) + 1))).heap[B]? = some (.cells #[v0, .int .i64 ((p + 1 : Nat) : Int)] 90 (0, 0)) := by
  obtain ⟨hlt, hk⟩ := Array.getElem?_eq_some_iff.1 hb
  show (w.heap.modify B _)[B]? = _
  rw [Array.getElem?_eq_getElem (by rw [Array.size_modify]; exact hlt), Array.getElem_modify_self, hk]
  simp

theorem heap_drewN (w : World) (d : Nat) : (w.drewN d).heap = w.heap := by simp

theorem pick_any (n₀ B p : Nat) (n : Int) (w : World) (hp : p ≤ 1000000) (hR : Rd n₀ B p w) :
    Calls Try.prog 36 #[.pointer (some ⟨B, 0, none⟩), .int .i64 n] w (Picked n₀ B p n w) := by
  obtain ⟨hB, a, len, cap, zs, hblk, hlm, hz, hcs⟩ := hR
  have h0 : w.cell? ⟨B, 0, none⟩ = some (.slice a len cap) := by simp [World.cell?, hblk]
  have h1 : w.cell? ⟨B, 1, none⟩ = some (.int .i64 (p : Int)) := by simp [World.cell?, hblk]
  have hf : w.frozen? ⟨B, 1, none⟩ = false := by simp [World.frozen?, hblk]
  have hR' : Rd n₀ B (p + 1) (w.setCell ⟨B, 1, none⟩ (.int .i64 ((p : Int) + 1))) := by
    refine ⟨hB, a, len, cap, zs, Rd.turn hblk, hlm, hz, ?_⟩
    rcases hcs with h | ⟨b, off, rfl, hb, hc⟩
    · exact .inl h
    · exact .inr ⟨b, off, rfl, hb, fun i hi => (World.cell?_of_block (Below.heap_setCell _ _ _ _ (by simp; omega))).trans (hc i hi)⟩
  have hg : w.grownBy (w.setCell ⟨B, 1, none⟩ (.int .i64 ((p : Int) + 1))) (some B) := grownBy_setCellAt w B 1 _
  have fin : ∀ (v : Int) (w' : World), (∃ d, w' = (w.setCell ⟨B, 1, none⟩ (.int .i64 ((p : Int) + 1))).drewN d) → 0 ≤ v → (1 ≤ n → v < n) → Picked n₀ B p n w (.returned (.int .i64 v)) w' := by
    rintro v w' ⟨d, rfl⟩ hv hvn
    exact ⟨v, rfl, hv, hvn, hR'.drewN d, grownBy_drewN hg d⟩
  by_cases hn : n < 1
  · refine (pick_low B p n w hp hn h1 hf).mono ?_
    rintro e w' ⟨rfl, rfl⟩
    exact fin 0 _ ⟨0, rfl⟩ (by omega) (by omega)
  · rcases hcs with rfl | ⟨b, off, rfl, hb, hc⟩
    · refine (pick_none B p a cap n w hp (by omega) h0 h1 hf).mono ?_
      rintro e w' ⟨rfl, rfl⟩
      exact fin 0 _ ⟨0, rfl⟩ (by omega) (by omega)
    · have hcc : ∀ i, i < len → (w.setCell ⟨B, 1, none⟩ (.int .i64 ((p : Int) + 1))).cell? ⟨b, off + i, none⟩ = some (.int .u8 (zs i)) := fun i hi =>
        (World.cell?_of_block (Below.heap_setCell _ _ _ _ (by simp; omega))).trans (hc i hi)
      by_cases hl : p < len
      · refine (pick_in B p b off len cap n (zs p) w hp (by omega) hl (hz p) h0 h1 hf (hcc p hl)).mono ?_
        rintro e w' ⟨rfl, rfl⟩
        exact fin _ _ ⟨0, rfl⟩ (Int.emod_nonneg _ (by omega)) (fun _ => Int.emod_lt_of_pos _ (by omega))
      · by_cases hl0 : len = 0
        · subst hl0
          refine (pick_none B p _ cap n w hp (by omega) h0 h1 hf).mono ?_
          rintro e w' ⟨rfl, rfl⟩
          exact fin 0 _ ⟨0, rfl⟩ (by omega) (by omega)
        · have hi : p % len < len := Nat.mod_lt _ (by omega)
          have hj : (p * 7 + 3) % len < len := Nat.mod_lt _ (by omega)
          refine (pick_past B p b off len cap (p % len) ((p * 7 + 3) % len) n (zs _) (zs _) w hp (by omega) (by omega) (by omega) hlm (hz _) (hz _) h0 h1 hf (by push_cast; rfl) (by push_cast; rfl) hi hj (hcc _ hi) (hcc _ hj)).mono ?_
          rintro e w' ⟨⟨v, rfl, hv⟩, hd⟩
          exact fin v _ hd hv.1 (fun _ => hv.2)

end Go.Proofs.Ytmmckpjapnkepaa

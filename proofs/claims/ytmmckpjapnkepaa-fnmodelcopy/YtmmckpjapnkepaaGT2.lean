/- The exact laws' own helpers for texts: sizes and comparisons. Conditions: none but the row's own bound on sizes. -/
import Derived.Test.YtmmckpjapnkepaaGT1
namespace Go.Proofs.Ytmmckpjapnkepaa
open Go.RowKit Go.Sort

/-- LITTLE: so many at most, at every level. -/
def TxSmall (xs : List ByteArray) : Prop := xs.length ≤ 1048576 ∧ ∀ j, j < xs.length → (xs.getD j ByteArray.empty).size ≤ 1048576
def SzIf (P : Prop) (left : Nat) (w : World) (e : Ending) (w' : World) : Prop := (e = .returned (.int .i64 (-1)) ∨ ∃ r : Nat, e = .returned (.int .i64 (r : Int)) ∧ r ≤ left ∧ P) ∧ Below w.heap.size w w'

set_option maxRecDepth 100000 in
set_option maxHeartbeats 1000000 in
theorem szTx_any (a : Option Addr) (cap : Nat) (xs : List ByteArray) (left : Nat) (w : World) (hl : xs.length ≤ maxLen) (hs : Hid (∀ j, j < xs.length → (xs.getD j ByteArray.empty).size ≤ maxLen)) (hleft : left ≤ 1048576) (hx : Hid (TxAt w a xs)) :
    Calls Try.prog 82 #[.slice a xs.length cap, .int .i64 (left : Int)] w (SzIf (TxSmall xs) left w) := by
  unfold maxLen at hl
  by_cases h0 : left < xs.length
  · have d0 : decide ((left : Int) - (xs.length : Int) < 0) = true := by simp; omega
    go_enter Try.func82, Try.ntmps82
    go_wp2
    go_ret
    exact ⟨.inl rfl, Below.refl _ _⟩
  · obtain ⟨r0, hr0⟩ : ∃ r0 : Nat, (left : Int) - (xs.length : Int) = (r0 : Int) := ⟨left - xs.length, by omega⟩
    have d0 : decide ((left : Int) - (xs.length : Int) < 0) = false := by simp; omega
    go_enter Try.func82, Try.ntmps82
    go_wp2_with fail
    go_loop [1, 5] (fun l i => ∃ k r : Nat, i = .int .i64 (k : Int) ∧ l = .int .i64 (r : Int) ∧ k ≤ xs.length ∧ xs.length + r ≤ left ∧ Hid (∀ j, j < k → (xs.getD j ByteArray.empty).size ≤ 1048576)) (fun _ i => xs.length - (intOf i).toNat)
    case atStart => exact ⟨0, r0, rfl, by go_num, by omega, by omega, fun j hj => by omega⟩
    case round =>
      obtain ⟨k, r, rfl, rfl, hk, hr, hall⟩ := hrel
      by_cases hlt : k < xs.length
      · obtain ⟨b, off, rfl, hc⟩ := hx.out.resolve_left (fun e => by subst e; simp at hlt)
        have hck := hc k hlt
        have hs1 := hs.out k hlt
        unfold maxLen at hs1
        clear hc
        generalize hgx : xs.getD k ByteArray.empty = x at hck hs1
        have Hgx := Lib.hid hgx
        clear hgx
        by_cases h1 : r < x.size
        · have d1 : decide ((r : Int) - (x.size : Int) < 0) = true := by simp; omega
          go_wp2
          go_ret
          exact ⟨.inl rfl, Below.refl _ _⟩
        · have d1 : decide ((r : Int) - (x.size : Int) < 0) = false := by simp; omega
          have hnext : Hid (∀ j, j < k + 1 → (xs.getD j ByteArray.empty).size ≤ 1048576) := fun j hj => by
            by_cases e : j = k
            · subst e; rw [Hgx.out]; omega
            · exact hall.out j (by omega)
          go_wp2
          exact ⟨⟨k + 1, r - x.size, by go_num, by go_num, by omega, by omega, hnext⟩, by simp [intOf]; omega⟩
      · have HL : Hid (TxSmall xs) := ⟨by omega, fun j hj => hall.out j (by omega)⟩
        have hrl : r ≤ left := by omega
        go_wp2
        go_ret
        exact ⟨.inr ⟨r, rfl, hrl, HL.out⟩, Below.refl _ _⟩

set_option maxRecDepth 100000 in
set_option maxHeartbeats 1000000 in
theorem eqTx_same (a b : Option Addr) (ca cb : Nat) (xs : List ByteArray) (w : World) (hl : xs.length ≤ maxLen) (ha : Hid (TxAt w a xs)) (hb : Hid (TxAt w b xs)) :
    Calls Try.prog 84 #[.slice a xs.length ca, .slice b xs.length cb] w fun e w' => e = .returned (.bool true) ∧ Below w.heap.size w w' := by
  unfold maxLen at hl
  have d0 : ((xs.length : Int) != (xs.length : Int)) = false := by simp
  go_enter Try.func84, Try.ntmps84
  go_wp2_with fail
  go_loopw [5] (fun i wr => ∃ k : Nat, i = .int .i64 (k : Int) ∧ k ≤ xs.length ∧ Below w.heap.size w wr) (fun i _ => xs.length - (intOf i).toNat)
  case atStart => exact ⟨0, rfl, by omega, Below.refl _ _⟩
  case round =>
    obtain ⟨k, rfl, hk, hB⟩ := hrel
    by_cases hlt : k < xs.length
    · obtain ⟨b1, o1, rfl, hc1⟩ := (ha.out.below hB).resolve_left (fun e => by subst e; simp at hlt)
      obtain ⟨b2, o2, rfl, hc2⟩ := (hb.out.below hB).resolve_left (fun e => by subst e; simp at hlt)
      have k1 := hc1 k hlt
      have k2 := hc2 k hlt
      clear hc1 hc2
      generalize xs.getD k ByteArray.empty = x at k1 k2
      have i1 : (k : Int) < (xs.length : Int) := by omega
      have i0 : (0 : Int) ≤ (k : Int) := by omega
      go_wp2
      go_quiet (fail)
      go_wp2
      exact ⟨⟨k + 1, by go_num, by omega, belowN hB nq⟩, by simp [intOf]; omega⟩
    · go_wp2
      go_ret
      exact ⟨rfl, hB⟩

end Go.Proofs.Ytmmckpjapnkepaa

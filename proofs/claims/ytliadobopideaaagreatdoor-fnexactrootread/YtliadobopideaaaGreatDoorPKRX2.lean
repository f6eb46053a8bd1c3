/- The exact law's own marks on a root that was read: pointers that are held. Conditions: the root's own bound on sizes. -/
import Derived.Test.YtliadobopideaaaGreatDoorPKRX
namespace Go.Proofs.YtliadobopideaaaGreatDoor
open Go.RowKit Go.Sort

set_option linter.unusedSimpArgs false in
set_option maxRecDepth 100000 in
set_option maxHeartbeats 4000000 in
theorem heldPtR_any (k N : Nat) (a : Option Addr) (cap : Nat) (ps : List PtrD) (w : World) (hN : ∀ j, j < ps.length → (ps.getD j ptr0).places.length ≤ N) (hk : k + ps.length * (2 + N * 2) ≤ 100000000) (ha : Hid (PtrsAt w a (mkPt k ps))) :
    Calls Tryz.prog 81 #[.slice a ps.length cap, .int .i64 (k : Int)] w fun e w' => e = .returned (.int .i64 ((ptAt k ps ps.length : Nat) : Int)) ∧ Below w.heap.size w w' := by
  have hpl : ps.length ≤ 100000000 := by have := Nat.le_mul_of_pos_right ps.length (show 0 < 2 + N * 2 by omega); omega
  have HAT := Lib.hid (fun i hi => ptAt_le (k := k) hN i hi)
  go_enter Tryz.func81, Tryz.ntmps81
  go_wp2_with fail
  go_loopw [1, 5] (fun kv iv wr => ∃ i : Nat, iv = .int .i64 (i : Int) ∧ i ≤ ps.length ∧ kv = .int .i64 ((ptAt k ps i : Nat) : Int) ∧ Hid (Below w.heap.size w wr)) (fun _ iv _ => ps.length - (RowKit.intOf iv).toNat)
  case atStart => exact ⟨0, rfl, by omega, rfl, Below.refl _ _⟩
  case round =>
    obtain ⟨i, rfl, hi, rfl, hB⟩ := hrel
    by_cases hlt : i < ps.length
    · obtain ⟨b, off, rfl, hc⟩ := (ha.out.below hB.out).resolve_left (fun e => by have := mkPt_length k ps; rw [e] at this; simp at this; omega)
      obtain ⟨c0, c1, pv, c2, c3⟩ := hc i (by rw [mkPt_length]; exact hlt)
      rw [mkPt_get k ps i hlt] at c0 c1 c3
      simp only at c0 c1 c3
      obtain ⟨pa, pc, rfl, _, _, hpl⟩ := c3
      rw [mkPl_length] at c2
      clear hc
      have hkb := HAT.out i hi
      have hbd : ptAt k ps i ≤ 100000000 := by
        have : i * (2 + N * 2) ≤ ps.length * (2 + N * 2) := Nat.mul_le_mul_right _ hi
        omega
      have hbd2 : ptAt k ps i + 2 + (ps.getD i ptr0).places.length * 2 ≤ 100000000 := by
        have h4 := HAT.out (i + 1) hlt
        have : (i + 1) * (2 + N * 2) ≤ ps.length * (2 + N * 2) := Nat.mul_le_mul_right _ hlt
        have e : ptAt k ps (i + 1) = ptAt k ps i + 2 + (ps.getD i ptr0).places.length * 2 := rfl
        omega
      have hnext : Hid (ptAt k ps (i + 1) = ptAt k ps i + 2 + (ps.getD i ptr0).places.length * 2) := rfl
      have HPL := Lib.hid hpl
      have HP := Lib.hid (fun W h => heldPlR pa (ps.getD i ptr0).places.length pc (ptAt k ps i + 2) W (by omega) h)
      clear hpl hkb
      generalize (ps.getD i ptr0).places.length = len at hnext HP HPL hbd2 c2
      generalize ptAt k ps i = K at hnext HP HPL hbd hbd2 c0 c1 ⊢
      have i1 : (i : Int) < (ps.length : Int) := by omega
      have i0 : (0 : Int) ≤ (i : Int) := by omega
      have e0 : ((K : Int) != (K : Int)) = false := by simp
      have e1 : ((K : Int) + 1 != (K : Int) + 1) = false := by simp
      go_wp2_with fail
      rw [show (K : Int) + 1 + 1 = ((K + 2 : Nat) : Int) by omega]
      refine (HP.out _ HPL).mono ?_
      rintro e w9 ⟨rfl, hB9⟩
      have HB9 := Lib.hid (hB.out.trans (hB9.mono hB.out.size))
      have d9 : decide (((K + 2 + len * 2 : Nat) : Int) < 0) = false := decide_eq_false (by omega)
      clear hB9 c0 c1 c2 HP HPL
      generalize hZZ : K + 2 + len * 2 = ZZ at d9 hnext ⊢
      clear hZZ
      go_wp2
      exact ⟨⟨i + 1, by go_num, by omega, by rw [hnext.out], HB9⟩, by simp [RowKit.intOf]; omega⟩
    · obtain rfl : i = ps.length := by omega
      go_wp2
      go_ret
      exact ⟨rfl, hB.out⟩

end Go.Proofs.YtliadobopideaaaGreatDoor

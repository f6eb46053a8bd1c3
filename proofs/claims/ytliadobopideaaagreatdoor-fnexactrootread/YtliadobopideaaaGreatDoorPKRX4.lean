/- The exact law's own marks on a root that was read: what is held, and marks on a whole root. Conditions: the root's own bound on sizes. -/
import Derived.Test.YtliadobopideaaaGreatDoorPKRX3
namespace Go.Proofs.YtliadobopideaaaGreatDoor
open Go.RowKit Go.Sort

set_option linter.unusedSimpArgs false in
set_option maxRecDepth 100000 in
set_option maxHeartbeats 4000000 in
theorem heldVoR_any (k N : Nat) (a : Option Addr) (cap : Nat) (vs : List VolD) (w : World) (hk0 : 0 < k) (hN : VoN N vs) (hk : k + vs.length * (7 + N * 6) ≤ 10000000) (ha : Hid (VolsAt w a (mkVo k vs))) :
    Calls Tryz.prog 48 #[.slice a vs.length cap, .int .i64 (k : Int)] w fun e w' => e = .returned (.int .i64 ((voAt k vs vs.length : Nat) : Int)) ∧ Below w.heap.size w w' := by
  have HAT := Lib.hid (fun i hi => voAt_le (k := k) hN i hi)
  have hpl : vs.length ≤ 100000000 := by have := Nat.le_mul_of_pos_right vs.length (show 0 < 7 + N * 6 by omega); omega
  have HNN := Lib.hid hN
  clear hN
  go_enter Tryz.func48, Tryz.ntmps48
  go_wp2_with fail
  go_loopw [1, 5] (fun kv iv wr => ∃ i : Nat, iv = .int .i64 (i : Int) ∧ i ≤ vs.length ∧ kv = .int .i64 ((voAt k vs i : Nat) : Int) ∧ Hid (Below w.heap.size w wr)) (fun _ iv _ => vs.length - (RowKit.intOf iv).toNat)
  case atStart => exact ⟨0, rfl, by omega, rfl, Below.refl _ _⟩
  case round =>
    obtain ⟨i, rfl, hi, rfl, hB⟩ := hrel
    by_cases hlt : i < vs.length
    · obtain ⟨b, off, rfl, hc⟩ := (ha.out.below hB.out).resolve_left (fun e => by have := mkVo_length k vs; rw [e] at this; simp at this; omega)
      obtain ⟨c0, pv, c1, c2⟩ := hc i (by rw [mkVo_length]; exact hlt)
      rw [mkVo_get k vs i hlt] at c0 c2
      simp only at c0 c2
      obtain ⟨pa, pc, rfl, _, _, hplR⟩ := c2
      rw [mkPt_length] at c1
      clear hc
      have hkb := HAT.out i hi
      have hbd : voAt k vs i ≤ 10000000 := by
        have : i * (7 + N * 6) ≤ vs.length * (7 + N * 6) := Nat.mul_le_mul_right _ hi
        omega
      have hpos : 0 < voAt k vs i := by omega
      obtain ⟨hb3, hbN⟩ := HNN.out i hlt
      have hkp : voAt k vs i + 1 + (vs.getD i vol0).blocks.length * (2 + N * 2) ≤ 100000000 := by
        have : 1 * (7 + N * 6) ≤ vs.length * (7 + N * 6) := Nat.mul_le_mul_right _ (by omega)
        rw [hb3]
        omega
      have HM := Lib.hid (fun W => mkText_pos (voAt k vs i) W hpos (by omega))
      have HP := Lib.hid (fun W h => heldPtR_any (voAt k vs i + 1) N pa pc (vs.getD i vol0).blocks W hbN hkp h)
      have hnext : Hid (voAt k vs (i + 1) = ptAt (voAt k vs i + 1) (vs.getD i vol0).blocks (vs.getD i vol0).blocks.length) := rfl
      have HPL := Lib.hid hplR
      clear hplR hkb hbN hkp hb3
      generalize ptAt (voAt k vs i + 1) (vs.getD i vol0).blocks (vs.getD i vol0).blocks.length = PE at hnext HP
      generalize mkPt (voAt k vs i + 1) (vs.getD i vol0).blocks = MP at HP HPL
      generalize voAt k vs i = K at HM HP hnext hbd hpos c0 ⊢
      generalize mkT K = x at c0 HM
      generalize (vs.getD i vol0).blocks.length = nb at c1 HP
      have g0 := cell_regrown c0
      have C1 := Lib.hid c1
      clear c0 c1
      have i1 : (i : Int) < (vs.length : Int) := by omega
      have i0 : (0 : Int) ≤ (i : Int) := by omega
      go_wp2_with fail
      refine wp_region_quiet_below (by kernel_rfl) (by kernel_rfl) ?_
      repeat (go_big_quiet_step ((go_at_call 79; with_reducible exact Calls.regrown_of (HM.out _))))
      refine wpQuiet_nil ?_
      intro w9 hw9
      have HB9 : Hid (Below w.heap.size w w9 ∧ Below wr.heap.size wr w9) := by obtain ⟨p, rfl⟩ := hw9; exact ⟨rg_below hB.out _ _, below_regrown _ _ _⟩
      clear hw9 g0
      have c1 := cell_below HB9.out.2 C1.out
      have HPL9 := Lib.hid (HPL.out.below HB9.out.2)
      clear HPL C1
      go_wp2_with fail
      rw [show (K : Int) + 1 = ((K + 1 : Nat) : Int) by omega]
      refine (HP.out _ HPL9).mono ?_
      rintro e w10 ⟨rfl, hB10⟩
      have HB10 := Lib.hid (HB9.out.1.trans (hB10.mono HB9.out.1.size))
      have d9 : decide ((PE : Int) < 0) = false := decide_eq_false (by omega)
      clear hB10 HPL9 HP HM HB9 c1
      go_wp2
      exact ⟨⟨i + 1, by go_num, by omega, by rw [hnext.out], HB10⟩, by simp [RowKit.intOf]; omega⟩
    · obtain rfl : i = vs.length := by omega
      go_wp2
      go_ret
      exact ⟨rfl, hB.out⟩

end Go.Proofs.YtliadobopideaaaGreatDoor

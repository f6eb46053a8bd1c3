/- The exact laws' own marks on lists of disks that are answers: whether they are still there. Conditions: at most a hundred million marks. -/
import Derived.Test.YtceielkcplcccaaGreatDoorPKMX3
namespace Go.Proofs.YtceielkcplcccaaGreatDoor
open Go.RowKit Go.Sort

set_option maxRecDepth 100000 in
set_option maxHeartbeats 4000000 in
theorem heldDkS_any (a : Option Addr) (cap k : Nat) (ds : List DiskD) (w : World) (hk0 : 0 < k) (hN : Hid (∀ j, j < ds.length → mkN (ds.getD j disk0) ≤ 1000)) (hk : k + ds.length * 1001 ≤ 100000000) (hx : Hid (DksAt w a (mkDkTo k ds ds.length))) :
    Calls Tryz.prog 20 #[.slice a ds.length cap, .int .i64 (k : Int)] w fun e w' => e = .returned (.int .i64 ((dkAt k ds ds.length : Nat) : Int)) ∧ Below w.heap.size w w' := by
  go_enter Tryz.func20, Tryz.ntmps20
  go_wp2_with fail
  go_loopw [1, 5] (fun kv iv wr => ∃ i : Nat, iv = .int .i64 (i : Int) ∧ i ≤ ds.length ∧ kv = .int .i64 ((dkAt k ds i : Nat) : Int) ∧ Hid (Below w.heap.size w wr)) (fun _ iv _ => ds.length - (intOf iv).toNat)
  case atStart => exact ⟨0, rfl, by omega, rfl, Below.refl _ _⟩
  case round =>
    obtain ⟨i, rfl, hi', rfl, hB⟩ := hrel
    by_cases hlt : i < ds.length
    · have hNi := hN.out i hlt
      have hat := dkAt_le (k := k) hN.out i (by omega)
      have hnx : dkAt k ds (i + 1) = dkAt k ds i + 1 + mkN (ds.getD i disk0) := rfl
      have hkb : dkAt k ds i + 1 + mkN (ds.getD i disk0) ≤ 100000000 := by
        have : (i + 1) * 1001 ≤ ds.length * 1001 := Nat.mul_le_mul_right _ hlt
        omega
      have hks : 0 < dkAt k ds i := by omega
      obtain ⟨b, off, a1, n1, c1, a2, n2, c2, a3, n3, c3, a4, n4, c4, rfl, e0, e1, e2, e3, e4, hv⟩ := (hx.out.below hB.out).at i (by rw [mkDkTo_length]; exact hlt)
      rw [mkDkTo_get k ds ds.length i hlt, if_pos hlt] at e0 hv
      generalize ds.getD i disk0 = d at hNi hnx hkb e0 hv
      generalize dkAt k ds i = ki at hnx hkb hks e0 hv
      obtain ⟨st, xs, yys, bs, ps⟩ := d
      unfold mkN at hkb hnx
      simp only at hkb hnx
      obtain ⟨u1, u2, u3, u4, e, ⟨b1, l1, r1, _, _, t1⟩, ⟨b2, l2, r2, _, _, t2⟩, ⟨b3, l3, r3, _, _, t3⟩, ⟨b4, l4, r4, _, _, t4⟩⟩ := hv
      subst r1 r2 r3 r4
      injection e with e
      injection e with e
      injection e with _ e
      injection e with e1' e
      injection e with e2' e
      injection e with e3' e
      injection e with e4' _
      injection e1' with p1 q1 s1
      injection e2' with p2 q2 s2
      injection e3' with p3 q3 s3
      injection e4' with p4 q4 s4
      subst p1 q1 s1 p2 q2 s2 p3 q3 s3 p4 q4 s4
      unfold mkDk mkD at e0 e1 e2 e3 e4 t1 t2 t3 t4
      simp only [mkS_length, mkB_length, mkP_length] at e0 e1 e2 e3 e4 t1 t2 t3 t4
      have HC1 := Lib.hid (heldTx_any a1 xs.length c1 (ki + 1) _ (by omega) (by omega) t1)
      rw [show ((ki + 1 : Nat) : Int) = (ki : Int) + 1 by omega] at HC1
      have T2 := Lib.hid t2
      have T3 := Lib.hid t3
      have T4 := Lib.hid t4
      clear t1 t2 t3 t4
      have HNX := Lib.hid hnx
      clear hnx
      go_wp2_with fail
      refine HC1.out.mono ?_
      rintro e w2 ⟨rfl, hB2⟩
      have T2 := Lib.hid (T2.out.below hB2)
      have T3 := Lib.hid (T3.out.below hB2)
      have T4 := Lib.hid (T4.out.below hB2)
      have e2 := cell_below hB2 e2
      have e3 := cell_below hB2 e3
      have e4 := cell_below hB2 e4
      have HB2 := Lib.hid (hB.out.trans (hB2.mono hB.out.size))
      clear hB2 HC1 e0 e1
      obtain ⟨k2, hk2e⟩ : ∃ k2, ki + 1 + xs.length = k2 := ⟨_, rfl⟩
      rw [hk2e]
      have HC2 := Lib.hid (heldTx_any a2 yys.length c2 k2 _ (by omega) (by omega) (by have := T2.out; rw [hk2e] at this; exact this))
      have K2 := Lib.hid hk2e
      have d1 : decide (((k2 : Nat) : Int) < 0) = false := decide_eq_false (by omega)
      clear hk2e
      go_wp2_with fail
      refine HC2.out.mono ?_
      rintro e w3 ⟨rfl, hB3⟩
      have T3 := Lib.hid (T3.out.below hB3)
      have T4 := Lib.hid (T4.out.below hB3)
      have e3 := cell_below hB3 e3
      have e4 := cell_below hB3 e4
      have HB3 := Lib.hid (HB2.out.trans (hB3.mono HB2.out.size))
      clear hB3 HC2 e2 T2 HB2
      obtain ⟨k3, hk3e⟩ : ∃ k3, k2 + yys.length = k3 := ⟨_, rfl⟩
      rw [hk3e]
      have HC3 := Lib.hid (heldBo_any a3 bs.length c3 k3 _ (by have := K2.out; omega) (by have := T3.out; rw [K2.out, hk3e] at this; exact this))
      have K3 := Lib.hid hk3e
      have d2 : decide (((k3 : Nat) : Int) < 0) = false := decide_eq_false (by omega)
      clear hk3e
      go_wp2_with fail
      refine HC3.out.mono ?_
      rintro e w4 ⟨rfl, rfl⟩
      obtain ⟨k4, hk4e⟩ : ∃ k4, k3 + bs.length = k4 := ⟨_, rfl⟩
      rw [hk4e]
      have HC4 := Lib.hid (heldPu_any a4 ps.length c4 k4 _ (by have := K2.out; have := K3.out; omega) (by have := K2.out; have := K3.out; omega) (by have := T4.out; rw [K2.out, K3.out, hk4e] at this; exact this))
      have K4 := Lib.hid hk4e
      have d3 : decide (((k4 : Nat) : Int) < 0) = false := decide_eq_false (by omega)
      clear hk4e HC3 e3 T3
      go_wp2_with fail
      refine HC4.out.mono ?_
      rintro e w5 ⟨rfl, hB5⟩
      have HB5 := Lib.hid (HB3.out.trans (hB5.mono HB3.out.size))
      have HE : Hid (dkAt k ds (i + 1) = k4 + ps.length * 3) := by have := K2.out; have := K3.out; have := K4.out; have := HNX.out; show dkAt k ds (i + 1) = _; omega
      clear hB5 HC4 e4 T4 HB3
      generalize k4 + ps.length * 3 = kj at HE
      have d4 : decide (((kj : Nat) : Int) < 0) = false := decide_eq_false (by omega)
      go_wp2
      exact ⟨⟨i + 1, by go_num, by omega, by rw [HE.out], HB5⟩, by simp [intOf]; omega⟩
    · obtain rfl : i = ds.length := by omega
      go_wp2
      go_ret
      exact ⟨rfl, hB.out⟩

end Go.Proofs.YtceielkcplcccaaGreatDoor

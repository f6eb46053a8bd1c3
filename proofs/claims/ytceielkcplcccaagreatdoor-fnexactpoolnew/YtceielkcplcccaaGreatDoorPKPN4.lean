/- PoolNew of the specification, the loop. Conditions: none. -/
import Derived.Test.YtceielkcplcccaaGreatDoorPKPN3
namespace Go.Proofs.YtceielkcplcccaaGreatDoor
open Go.RowKit Go.Sort

set_option linter.unusedSimpArgs false in
set_option maxRecDepth 100000 in
set_option maxHeartbeats 8000000 in
theorem specPoolNew_yes (m : Nat) (hm : 3 ≤ m ∧ m ≤ 4) (w : World) :
    Calls Tryz.prog 4 #[.int .i64 (m : Int)] w fun e w' => ∃ a c r1 r2, e = .returned (.tuple #[.agg #[.slice a m c, .bool true, .int .i64 0, .slice r1 0 0, .int .i64 0, .slice r2 0 0], .bool true]) ∧ OwnDks w' w.heap.size (.slice a m c) (List.replicate m (ringD (rootT (m : Int) ⟨0, []⟩))) ∧ Below w.heap.size w w' := by
  obtain ⟨i0, hi0, hz0, hz1, hz2⟩ := info_parts infoDk
  have HP := Lib.hid (fun W => l2Disks_any (m : Int) W)
  rw [tt_true (show Pool (m : Int) by unfold Pool; omega)] at HP
  have KR : Hid (∃ W0, ((((w.alloc (.cells #[.slice none 0 0, .bool false, .int .i64 0, .slice none 0 0, .int .i64 0, .slice none 0 0] 27)).alloc (.cells #[] 62)).alloc (.cells #[] 62)).alloc (.cells #[.slice none 0 0, .bool true, .int .i64 0, .slice (some ⟨w.heap.size + 1, 0, none⟩) 0 0, .int .i64 0, .slice (some ⟨w.heap.size + 2, 0, none⟩) 0 0] 27)) = W0 ∧ Below w.heap.size w W0 ∧ Blk W0 w.heap.size #[.slice none 0 0, .bool false, .int .i64 0, .slice none 0 0, .int .i64 0, .slice none 0 0] 27 ∧ Blk W0 (w.heap.size + 3) #[.slice none 0 0, .bool true, .int .i64 0, .slice (some ⟨w.heap.size + 1, 0, none⟩) 0 0, .int .i64 0, .slice (some ⟨w.heap.size + 2, 0, none⟩) 0 0] 27 ∧ w.heap.size + 4 = W0.heap.size) := by
    refine ⟨_, rfl, (((((Below.refl _ _).alloc (Nat.le_refl _) _).alloc (by simp) _).alloc (by simp [World.size_alloc]; try omega) _).alloc (by simp [World.size_alloc]; try omega) _), ?_, ?_, by simp [World.size_alloc]⟩
    · exact (((Blk.new w _ _).below ((Below.refl _ _).alloc (Nat.le_refl _) _) (by simp)).below ((Below.refl _ _).alloc (Nat.le_refl _) _) (by simp [World.size_alloc]; try omega)).below ((Below.refl _ _).alloc (Nat.le_refl _) _) (by simp [World.size_alloc]; try omega)
    · have := Blk.new (((w.alloc (.cells #[.slice none 0 0, .bool false, .int .i64 0, .slice none 0 0, .int .i64 0, .slice none 0 0] 27)).alloc (.cells #[] 62)).alloc (.cells #[] 62)) #[.slice none 0 0, .bool true, .int .i64 0, .slice (some ⟨w.heap.size + 1, 0, none⟩) 0 0, .int .i64 0, .slice (some ⟨w.heap.size + 2, 0, none⟩) 0 0] 27
      simp only [World.size_alloc] at this
      exact this
  obtain ⟨W0, HW, HB, KZ, KO, hsz⟩ := KR.out
  have HD := Lib.hid (fun W => l13Ring_zero (m : Int) (some ⟨w.heap.size + 1, 0, none⟩) W)
  generalize rootT (m : Int) ⟨0, []⟩ = T at HD ⊢
  have HN := Lib.hid (fun W => specNew_any 0 W)
  rw [diskNew_0] at HN
  have HC := Lib.hid (fun base v1 v2 v3 v4 W hb ho => (show Calls Tryz.prog 11 #[.agg #[.int .i64 0, v1, v2, v3, v4], .agg #[.bool true, .int .i64 0, .string T]] W fun e w' => e = .returned (.agg #[.int .i64 0, v1, v2, v3, v4]) ∧ Own4 w' base v1 v2 v3 v4 (ringD T) ∧ Below base W w' ∧ OthersS W w' from l3ComeRing base v1 v2 v3 v4 ⟨0, twelve, two2, twelveB, []⟩ 0 T W hb ⟨rfl, rfl, rfl⟩ (by omega) ho))
  clear KR
  go_enter Tryz.func4, Tryz.ntmps4
  go_wp2_with fail
  refine (HP.out _).mono ?_
  rintro e w1 ⟨rfl, rfl⟩
  go_wp2_with fail
  try rw [HW]
  clear HW
  have HBh := Lib.hid HB
  have KZh := Lib.hid KZ
  have KOh := Lib.hid KO
  have Hsz := Lib.hid hsz
  clear HB KZ KO hsz
  go_loopw [5] (fun i wr => ∃ k : Nat, i = .int .i64 (k : Int) ∧ k ≤ m ∧ Hid (∃ a c, Blk wr (w.heap.size + 3) #[.slice a k c, .bool true, .int .i64 0, .slice (some ⟨w.heap.size + 1, 0, none⟩) 0 0, .int .i64 0, .slice (some ⟨w.heap.size + 2, 0, none⟩) 0 0] 27 ∧ OwnDks wr (w.heap.size + 4) (.slice a k c) (List.replicate k (ringD T))) ∧ Hid (Blk wr w.heap.size #[.slice none 0 0, .bool false, .int .i64 0, .slice none 0 0, .int .i64 0, .slice none 0 0] 27) ∧ Hid (Below w.heap.size w wr) ∧ w.heap.size + 4 ≤ wr.heap.size) (fun i _ => m - (intOf i).toNat)
  case atStart => exact ⟨0, rfl, by omega, ⟨none, 0, KOh.out, OwnDks.nil _ _⟩, KZh, HBh, by have := Hsz.out; omega⟩
  case round =>
    obtain ⟨k, rfl, hk, hI, hZ, hB, hS⟩ := hrel
    by_cases hlt : k < m
    · have i1' : (k : Int) < (m : Int) := by omega
      obtain ⟨a, c, KX, hO⟩ := hI.out
      have KX := Lib.hid KX
      obtain ⟨ys, k1, k2, k3, k4⟩ := OwnDks.rows hO
      have K1 := Lib.hid k1
      have K2 := Lib.hid k2
      have K3 := Lib.hid k3
      have HLT := Lib.hid k4
      clear hO hI k1 k2 k3 k4
      go_wp2_with fail
      refine (HN.out _).mono ?_
      rintro e w2 ⟨v, rfl, ⟨v1, v2, v3, v4, rfl, o1, o2, o3, o4, o5⟩, hB2⟩
      obtain ⟨a1, c1, rfl, _⟩ := OwnTx.reads o1
      obtain ⟨a2, c2, rfl, _⟩ := OwnTx.reads o2
      obtain ⟨a3, c3, rfl, _⟩ := OwnBo.reads o3
      obtain ⟨a4, c4, rfl, _⟩ := OwnPu.reads o4
      have o1 : OwnTx w2 wr.heap.size (.slice a1 12 c1) twelve := o1
      have o2 : OwnTx w2 wr.heap.size (.slice a2 2 c2) two2 := o2
      have o3 : OwnBo w2 wr.heap.size (.slice a3 12 c3) twelveB := o3
      have o4 : OwnPu w2 wr.heap.size (.slice a4 0 c4) [] := o4
      have hBa : Below w2.heap.size w2 (w2.alloc (.cells #[.int .i64 0, .slice a1 12 c1, .slice a2 2 c2, .slice a3 12 c3, .slice a4 0 c4] 37)).drew := ((Below.refl _ _).alloc (Nat.le_refl _) _).drew
      have hBw : Below wr.heap.size wr (w2.alloc (.cells #[.int .i64 0, .slice a1 12 c1, .slice a2 2 c2, .slice a3 12 c3, .slice a4 0 c4] 37)).drew := hB2.trans (hBa.mono hB2.size)
      have DX : Hid (Blk (w2.alloc (.cells #[.int .i64 0, .slice a1 12 c1, .slice a2 2 c2, .slice a3 12 c3, .slice a4 0 c4] 37)).drew w2.heap.size #[.int .i64 0, .slice a1 12 c1, .slice a2 2 c2, .slice a3 12 c3, .slice a4 0 c4] 37) := Lib.hid (Blk.new w2 _ _)
      have HBa := Lib.hid hBw
      have HO4 := Lib.hid (show Own4 (w2.alloc (.cells #[.int .i64 0, .slice a1 12 c1, .slice a2 2 c2, .slice a3 12 c3, .slice a4 0 c4] 37)).drew wr.heap.size (.slice a1 12 c1) (.slice a2 2 c2) (.slice a3 12 c3) (.slice a4 0 c4) ⟨0, twelve, two2, twelveB, []⟩ from Own4.below ⟨o1, o2, o3, o4, o5⟩ hBa)
      have PX := Lib.hid (KX.out.below hBw KX.out.lt)
      have h2 : wr.heap.size ≤ w2.heap.size := hB2.size
      clear o1 o2 o3 o4 o5 hB2 hBa hBw
      go_wp2_with fail
      refine AnyS.start (S := (fun w' : World => w'.cell? ⟨w.heap.size + 3, 0, none⟩ = some (.slice a k c) ∧ w'.cell? ⟨w.heap.size + 3, 2, none⟩ = some (.int .i64 0) ∧ w'.cell? ⟨w.heap.size + 3, 3, none⟩ = some (.slice (some ⟨w.heap.size + 1, 0, none⟩) 0 0) ∧ w'.cell? ⟨w2.heap.size, 0, none⟩ = some (.int .i64 0) ∧ w'.cell? ⟨w2.heap.size, 1, none⟩ = some (.slice a1 12 c1) ∧ w'.cell? ⟨w2.heap.size, 2, none⟩ = some (.slice a2 2 c2) ∧ w'.cell? ⟨w2.heap.size, 3, none⟩ = some (.slice a3 12 c3) ∧ w'.cell? ⟨w2.heap.size, 4, none⟩ = some (.slice a4 0 c4))) (L := 11) (by kernel_rfl) ?_
      change AnyS _ _ _ _ _ _ _ _ _ (w2.alloc (.cells #[.int .i64 0, .slice a1 12 c1, .slice a2 2 c2, .slice a3 12 c3, .slice a4 0 c4] 37)).drew
      generalize (w2.alloc (.cells #[.int .i64 0, .slice a1 12 c1, .slice a2 2 c2, .slice a3 12 c3, .slice a4 0 c4] 37)).drew = w3 at DX HBa HO4 PX ⊢
      refine AnyS.take 0 (show _ = some _ from rfl) rfl (by kernel_rfl) (by kernel_rfl) (by kernel_rfl) (by kernel_rfl) (fun _ _ _ h => h) ⟨PX.out.cell 0, PX.out.cell 2, PX.out.cell 3, DX.out.cell 0, DX.out.cell 1, DX.out.cell 2, DX.out.cell 3, DX.out.cell 4⟩ (by rfl) (fun w' hSw => by obtain ⟨s1, s2, s3, s4, s5, s6, s7, s8⟩ := hSw; go_simp; try with_reducible rfl) ?_
      try simp only [Act.put, List.setIfInBounds_toArray, List.set_cons_zero, List.set_cons_succ]
      refine AnyS.take 1 (show _ = some _ from rfl) rfl (by kernel_rfl) (by kernel_rfl) (by kernel_rfl) (by kernel_rfl) (fun _ _ _ h => h) ⟨PX.out.cell 0, PX.out.cell 2, PX.out.cell 3, DX.out.cell 0, DX.out.cell 1, DX.out.cell 2, DX.out.cell 3, DX.out.cell 4⟩ (by rfl) (fun w' hSw => by obtain ⟨s1, s2, s3, s4, s5, s6, s7, s8⟩ := hSw; go_simp; try with_reducible rfl) ?_
      try simp only [Act.put, List.setIfInBounds_toArray, List.set_cons_zero, List.set_cons_succ]
      refine AnyS.take 2 (show _ = some _ from rfl) rfl (by kernel_rfl) (by kernel_rfl) (by kernel_rfl) (by kernel_rfl) (fun _ _ _ h => h) ⟨PX.out.cell 0, PX.out.cell 2, PX.out.cell 3, DX.out.cell 0, DX.out.cell 1, DX.out.cell 2, DX.out.cell 3, DX.out.cell 4⟩ (by rfl) (fun w' hSw => by obtain ⟨s1, s2, s3, s4, s5, s6, s7, s8⟩ := hSw; go_simp; try with_reducible rfl) ?_
      try simp only [Act.put, List.setIfInBounds_toArray, List.set_cons_zero, List.set_cons_succ]
      refine AnyS.take 3 (show _ = some _ from rfl) rfl (by kernel_rfl) (by kernel_rfl) (by kernel_rfl) (by kernel_rfl) (fun _ _ _ h => h) ⟨PX.out.cell 0, PX.out.cell 2, PX.out.cell 3, DX.out.cell 0, DX.out.cell 1, DX.out.cell 2, DX.out.cell 3, DX.out.cell 4⟩ (by rfl) (fun w' hSw => by obtain ⟨s1, s2, s3, s4, s5, s6, s7, s8⟩ := hSw; go_simp; try with_reducible rfl) ?_
      try simp only [Act.put, List.setIfInBounds_toArray, List.set_cons_zero, List.set_cons_succ]
      refine AnyS.take 4 (show _ = some _ from rfl) rfl (by kernel_rfl) (by kernel_rfl) (by kernel_rfl) (by kernel_rfl) (fun _ _ _ h => h) ⟨PX.out.cell 0, PX.out.cell 2, PX.out.cell 3, DX.out.cell 0, DX.out.cell 1, DX.out.cell 2, DX.out.cell 3, DX.out.cell 4⟩ (by rfl) (fun w' hSw => by obtain ⟨s1, s2, s3, s4, s5, s6, s7, s8⟩ := hSw; go_simp; try with_reducible rfl) ?_
      try simp only [Act.put, List.setIfInBounds_toArray, List.set_cons_zero, List.set_cons_succ]
      refine AnyS.take 5 (show _ = some _ from rfl) rfl (by kernel_rfl) (by kernel_rfl) (by kernel_rfl) (by kernel_rfl) (fun _ _ _ h => h) ⟨PX.out.cell 0, PX.out.cell 2, PX.out.cell 3, DX.out.cell 0, DX.out.cell 1, DX.out.cell 2, DX.out.cell 3, DX.out.cell 4⟩ (by rfl) (fun w' hSw => by obtain ⟨s1, s2, s3, s4, s5, s6, s7, s8⟩ := hSw; go_simp; try with_reducible rfl) ?_
      try simp only [Act.put, List.setIfInBounds_toArray, List.set_cons_zero, List.set_cons_succ]
      refine AnyS.one 6 (by kernel_rfl) (show _ = some _ from rfl) (fun K' hK' => ?_)
      go_simp
      go_at_call 12
      refine (HD.out _).mono ?_
      rintro e w4 ⟨rfl, hB4⟩
      have DX := Lib.hid (DX.out.below hB4 DX.out.lt)
      have PX := Lib.hid (PX.out.below hB4 PX.out.lt)
      have HO4 := Lib.hid (HO4.out.below hB4)
      have HBa := Lib.hid (HBa.out.trans (hB4.mono HBa.out.size))
      refine hK' _ _ ⟨?_, fun _ => ⟨PX.out.cell 0, PX.out.cell 2, PX.out.cell 3, DX.out.cell 0, DX.out.cell 1, DX.out.cell 2, DX.out.cell 3, DX.out.cell 4⟩⟩
      clear hB4
      clear hK' K'
      try simp only [Act.put, List.setIfInBounds_toArray, List.set_cons_zero, List.set_cons_succ]
      refine AnyS.one 7 (by kernel_rfl) (show _ = some _ from rfl) (fun K' hK' => ?_)
      go_simp
      go_at_call 11
      refine (HC.out wr.heap.size _ _ _ _ _ HBa.out.size HO4.out).mono ?_
      rintro e w5 ⟨rfl, ho5, hB5, hs5⟩
      have DX := Lib.hid (hs5 _ _ _ (by decide) (by decide) DX.out)
      have PX := Lib.hid (hs5 _ _ _ (by decide) (by decide) PX.out)
      have HO4 := Lib.hid ho5
      have HBa := Lib.hid (HBa.out.trans hB5)
      refine hK' _ _ ⟨?_, fun _ => ⟨PX.out.cell 0, PX.out.cell 2, PX.out.cell 3, DX.out.cell 0, DX.out.cell 1, DX.out.cell 2, DX.out.cell 3, DX.out.cell 4⟩⟩
      clear hB5 ho5 hs5
      clear hK' K'
      try simp only [Act.put, List.setIfInBounds_toArray, List.set_cons_zero, List.set_cons_succ]
      have hB6 : Below w5.heap.size w5 (w5.alloc (.cells #[.int .i64 0, .slice a1 12 c1, .slice a2 2 c2, .slice a3 12 c3, .slice a4 0 c4] 37)) := (Below.refl _ _).alloc (Nat.le_refl _) _
      have HB6 := Lib.hid (HBa.out.trans (hB6.mono HBa.out.size))
      have k1 := own_below K1.out HB6.out
      have k2 := K2.out.below HB6.out
      have k3 := K3.out
      have hkl : (List.replicate k (ringD T)).length = k := List.length_replicate
      rw [hkl] at k1
      have hyl : ys.length = k * 5 := k1.1
      have hbt := own_block_dk k1
      have hnews := news_five w5 (.int .i64 0) (.slice a1 12 c1) (.slice a2 2 c2) (.slice a3 12 c3) (.slice a4 0 c4) 37 w5.heap.size rfl
      have hbase : w.heap.size + 4 ≤ (w5.alloc (.cells #[.int .i64 0, .slice a1 12 c1, .slice a2 2 c2, .slice a3 12 c3, .slice a4 0 c4] 37)).heap.size := Nat.le_trans hS HB6.out.size
      obtain ⟨g4, cap4, w6, hr4, ho4, hg4, hat4, hl4⟩ := run_append_lies (P := Tryz.prog) (w5.alloc (.cells #[.int .i64 0, .slice a1 12 c1, .slice a2 2 c2, .slice a3 12 c3, .slice a4 0 c4] 37)) 22 22 (w.heap.size + 4) 37 i0 _ 5 104 Tryz.underlying22 hi0 hz0 hz1 hz2 rfl (by omega) (.slice a k c) k ys k1 ⟨w5.heap.size, 0, none⟩ 1 1 [.int .i64 0, .slice a1 12 c1, .slice a2 2 c2, .slice a3 12 c3, .slice a4 0 c4] rfl hnews (by simp [Value.oneCell']) (by omega) (by simp [maxLen]; omega) (by omega) hbase _ rfl
      have DX6 := Lib.hid (DX.out.below hB6 DX.out.lt)
      have PX6 := Lib.hid (PX.out.below hB6 PX.out.lt)
      have hneP := own_blk_ne k1 PX6.out (by decide)
      have HZ6 := Lib.hid (hZ.out.below HB6.out hZ.out.lt)
      have hneZ := own_blk_ne k1 HZ6.out (by decide)
      have DX7 := Lib.hid (DX6.out.gb hg4 (fun e => by have := (K1.out.lt w2.heap.size (by first | exact e | exact e.symm)).2; omega))
      have PX7 := Lib.hid (PX6.out.gb hg4 hneP)
      have HZ7 := Lib.hid (HZ6.out.gb hg4 hneZ)
      have hlt0 : ∀ i, (Value.slice a k c).ownBlock = some i → w.heap.size + 4 ≤ i := fun i e => (k1.lt i e).1
      have HO7 : Hid (OwnDks w6 (w.heap.size + 4) (.slice (some ⟨g4, 0, none⟩) (k + 1) cap4) (List.replicate (k + 1) (ringD T))) := by
        rw [List.replicate_succ']
        exact OwnDks.more (w0 := wr) (base' := wr.heap.size) k2 k3 (fun j E hj hE => HLT.out j E hj hE) ⟨_, _, _, _, rfl, HO4.out.below hB6⟩ (Nat.le_refl _) hS rfl (by rw [hkl]; exact ho4) hg4 hbt
      have HB7 := Lib.hid ((hB.out.trans (HB6.out.mono hB.out.size)).grown hg4 (by omega) (fun i e => by have := hlt0 i e; omega))
      have hS7 : w.heap.size + 4 ≤ w6.heap.size := Nat.le_trans hbase hg4.size
      have z0 : w6.cell? ⟨w.heap.size + 3, 0, none⟩ = some (.slice a k c) := PX7.out.cell 0
      have zf := PX7.out.frozen 0
      clear hB6 k1 k2 k3 hkl hbt HO4 K1 K2 K3 HLT hneP hneZ HZ6 hlt0 hbase hnews hyl ho4 hg4 hat4
      refine AnyS.one 8 (by kernel_rfl) (show _ = some _ from rfl) (fun K' hK' => ?_)
      go_simp
      refine hK' _ _ ⟨?_, fun _ => ⟨PX6.out.cell 0, PX6.out.cell 2, PX6.out.cell 3, DX6.out.cell 0, DX6.out.cell 1, DX6.out.cell 2, DX6.out.cell 3, DX6.out.cell 4⟩⟩
      clear hK' K'
      try simp only [Act.put, List.setIfInBounds_toArray, List.set_cons_zero, List.set_cons_succ]
      refine AnyS.one 9 (by kernel_rfl) (show _ = some _ from rfl) (fun K' hK' => step_append_run (by rfl) _ _ _ _ (by rfl) (by rfl) _ _ _ (by rfl) (by rfl) hr4 (hK' _ _ ⟨?_, fun _ => ⟨PX7.out.cell 0, PX7.out.cell 2, PX7.out.cell 3, DX7.out.cell 0, DX7.out.cell 1, DX7.out.cell 2, DX7.out.cell 3, DX7.out.cell 4⟩⟩))
      try simp only [Act.put, List.setIfInBounds_toArray, List.set_cons_zero, List.set_cons_succ]
      refine AnyS.take 10 (show _ = some _ from rfl) rfl (by kernel_rfl) (by kernel_rfl) (by kernel_rfl) (by kernel_rfl) (fun _ _ _ h => h) ⟨PX7.out.cell 0, PX7.out.cell 2, PX7.out.cell 3, DX7.out.cell 0, DX7.out.cell 1, DX7.out.cell 2, DX7.out.cell 3, DX7.out.cell 4⟩ (by rfl) (fun w' hSw => by obtain ⟨s1, s2, s3, s4, s5, s6, s7, s8⟩ := hSw; go_simp; try with_reducible rfl) ?_
      try simp only [Act.put, List.setIfInBounds_toArray, List.set_cons_zero, List.set_cons_succ]
      refine AnyS.one 11 (by kernel_rfl) (show _ = some _ from rfl) (fun K' hK' => ?_)
      go_simp
      refine hK' _ _ ⟨AnyS.done (by kernel_rfl) ?_, fun h => absurd rfl h⟩
      clear hK' K'
      try simp only [Act.put, List.setIfInBounds_toArray, List.set_cons_zero, List.set_cons_succ]
      have H1 := Lib.hid (PX7.out.set 0 (.slice (some ⟨g4, 0, none⟩) (k + 1) cap4))
      have H2 := Lib.hid (HZ7.out.other (w.heap.size + 3) 0 (.slice (some ⟨g4, 0, none⟩) (k + 1) cap4) (by omega))
      have H3 := Lib.hid (OwnDk.other HO7.out PX7.out (by decide) (by decide) (by decide) (by decide) 0 (.slice (some ⟨g4, 0, none⟩) (k + 1) cap4))
      have H4 := Lib.hid (HB7.out.setCell (p := ⟨w.heap.size + 3, 0, none⟩) (by simp) (.slice (some ⟨g4, 0, none⟩) (k + 1) cap4))
      clear PX7 DX7 PX6 DX6 PX DX HZ7 HO7 HB7 z0 zf
      go_wp2
      exact ⟨⟨k + 1, by go_num, by omega, ⟨_, _, H1.out, H3.out⟩, H2, H4, by rw [World.size_setCell]; exact hS7⟩, by simp [intOf]; omega⟩
    · obtain rfl : k = m := by omega
      obtain ⟨a, c, KX, hO⟩ := hI.out
      have HO := Lib.hid hO
      have p0 : wr.cell? ⟨w.heap.size + 3, 0, none⟩ = some (.slice a k c) := KX.cell 0
      have p1 : wr.cell? ⟨w.heap.size + 3, 1, none⟩ = some (.bool true) := KX.cell 1
      have p2 : wr.cell? ⟨w.heap.size + 3, 2, none⟩ = some (.int .i64 0) := KX.cell 2
      have p3 : wr.cell? ⟨w.heap.size + 3, 3, none⟩ = some (.slice (some ⟨w.heap.size + 1, 0, none⟩) 0 0) := KX.cell 3
      have p4 : wr.cell? ⟨w.heap.size + 3, 4, none⟩ = some (.int .i64 0) := KX.cell 4
      have p5 : wr.cell? ⟨w.heap.size + 3, 5, none⟩ = some (.slice (some ⟨w.heap.size + 2, 0, none⟩) 0 0) := KX.cell 5
      have q0 : wr.cell? ⟨w.heap.size, 0, none⟩ = some (.slice none 0 0) := hZ.out.cell 0
      have q1 : wr.cell? ⟨w.heap.size, 1, none⟩ = some (.bool false) := hZ.out.cell 1
      have q2 : wr.cell? ⟨w.heap.size, 2, none⟩ = some (.int .i64 0) := hZ.out.cell 2
      have q3 : wr.cell? ⟨w.heap.size, 3, none⟩ = some (.slice none 0 0) := hZ.out.cell 3
      have q4 : wr.cell? ⟨w.heap.size, 4, none⟩ = some (.int .i64 0) := hZ.out.cell 4
      have q5 : wr.cell? ⟨w.heap.size, 5, none⟩ = some (.slice none 0 0) := hZ.out.cell 5
      have t0 := hZ.out.frozen 0
      have t1 := hZ.out.frozen 1
      have t2 := hZ.out.frozen 2
      have t3 := hZ.out.frozen 3
      have t4 := hZ.out.frozen 4
      have t5 := hZ.out.frozen 5
      clear hO KX hI
      go_wp2
      refine bodyPost_ret (v := .tuple #[.agg #[.slice a k c, .bool true, .int .i64 0, .slice (some ⟨w.heap.size + 1, 0, none⟩) 0 0, .int .i64 0, .slice (some ⟨w.heap.size + 2, 0, none⟩) 0 0], .bool true]) (by simp [results, Tryz.results4, go_sem, q0, q1, q2, q3, q4, q5]) rfl ⟨_, _, _, _, rfl, ?_, ?_⟩
      · exact OwnDk.mono (((((OwnDk.far HO.out _ _ _ (by omega)).far _ _ _ (by omega)).far _ _ _ (by omega)).far _ _ _ (by omega)).far _ _ _ (by omega) |>.far _ _ _ (by omega)) (by omega)
      · exact (((((hB.out.setCell (p := ⟨w.heap.size, 0, none⟩) (by simp) _).setCell (p := ⟨w.heap.size, 1, none⟩) (by simp) _).setCell (p := ⟨w.heap.size, 2, none⟩) (by simp) _).setCell (p := ⟨w.heap.size, 3, none⟩) (by simp) _).setCell (p := ⟨w.heap.size, 4, none⟩) (by simp) _).setCell (p := ⟨w.heap.size, 5, none⟩) (by simp) _

set_option maxRecDepth 100000 in
set_option maxHeartbeats 2000000 in
theorem specPoolNew_no (n : Int) (hn : ¬Pool n) (w : World) :
    Calls Tryz.prog 4 #[.int .i64 n] w fun e w' => e = .returned (.tuple #[.agg #[.slice none 0 0, .bool false, .int .i64 0, .slice none 0 0, .int .i64 0, .slice none 0 0], .bool false]) ∧ Below w.heap.size w w' := by
  have HP := Lib.hid (fun W => l2Disks_any n W)
  rw [tt_false hn] at HP
  have HB := Lib.hid (show Below w.heap.size w (w.alloc (.cells #[.slice none 0 0, .bool false, .int .i64 0, .slice none 0 0, .int .i64 0, .slice none 0 0] 27)) from (Below.refl _ _).alloc (Nat.le_refl _) _)
  have hZ := Lib.hid (Blk.new w #[.slice none 0 0, .bool false, .int .i64 0, .slice none 0 0, .int .i64 0, .slice none 0 0] 27)
  go_enter Tryz.func4, Tryz.ntmps4
  go_wp2_with fail
  refine (HP.out _).mono ?_
  rintro e w1 ⟨rfl, rfl⟩
  generalize w.alloc (.cells #[.slice none 0 0, .bool false, .int .i64 0, .slice none 0 0, .int .i64 0, .slice none 0 0] 27) = wr at HB hZ ⊢
  have q0 : wr.cell? ⟨w.heap.size, 0, none⟩ = some (.slice none 0 0) := hZ.out.cell 0
  have q1 : wr.cell? ⟨w.heap.size, 1, none⟩ = some (.bool false) := hZ.out.cell 1
  have q2 : wr.cell? ⟨w.heap.size, 2, none⟩ = some (.int .i64 0) := hZ.out.cell 2
  have q3 : wr.cell? ⟨w.heap.size, 3, none⟩ = some (.slice none 0 0) := hZ.out.cell 3
  have q4 : wr.cell? ⟨w.heap.size, 4, none⟩ = some (.int .i64 0) := hZ.out.cell 4
  have q5 : wr.cell? ⟨w.heap.size, 5, none⟩ = some (.slice none 0 0) := hZ.out.cell 5
  have t0 := hZ.out.frozen 0
  have t1 := hZ.out.frozen 1
  have t2 := hZ.out.frozen 2
  have t3 := hZ.out.frozen 3
  have t4 := hZ.out.frozen 4
  have t5 := hZ.out.frozen 5
  go_wp2
  refine bodyPost_ret (v := .tuple #[.agg #[.slice none 0 0, .bool false, .int .i64 0, .slice none 0 0, .int .i64 0, .slice none 0 0], .bool false]) (by simp [results, Tryz.results4, go_sem, q0, q1, q2, q3, q4, q5]) rfl ⟨rfl, ?_⟩
  exact (((((HB.out.setCell (p := ⟨w.heap.size, 0, none⟩) (by simp) _).setCell (p := ⟨w.heap.size, 1, none⟩) (by simp) _).setCell (p := ⟨w.heap.size, 2, none⟩) (by simp) _).setCell (p := ⟨w.heap.size, 3, none⟩) (by simp) _).setCell (p := ⟨w.heap.size, 4, none⟩) (by simp) _).setCell (p := ⟨w.heap.size, 5, none⟩) (by simp) _

end Go.Proofs.YtceielkcplcccaaGreatDoor

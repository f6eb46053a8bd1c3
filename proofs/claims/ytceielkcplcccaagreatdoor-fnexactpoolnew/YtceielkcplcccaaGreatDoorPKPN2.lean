/- PoolNew of the program. Conditions: the tables of the standard library are as they are laid. -/
import Derived.Test.YtceielkcplcccaaGreatDoorPKH0
import Derived.Test.YtceielkcplcccaaGreatDoorPKQB
import Derived.Test.YtceielkcplcccaaGreatDoorPKVS
import Derived.Test.YtceielkcplcccaaGreatDoorPKV1
namespace Go.Proofs.YtceielkcplcccaaGreatDoor
open Go.RowKit Go.Sort

set_option linter.unusedSimpArgs false in
set_option maxRecDepth 100000 in
set_option maxHeartbeats 8000000 in
theorem implPoolNew_yes (m : Nat) (hm : 3 ≤ m ∧ m ≤ 4) (w : World) (hT : Hid (Tab w)) :
    Calls Tryz.prog 5 #[.int .i64 (m : Int)] w fun e w' => ∃ a c, e = .returned (.tuple #[.agg #[.slice a m c, .bool true, .int .i64 0, .slice none 0 0, .int .i64 0, .slice none 0 0], .bool true]) ∧ OwnDks w' w.heap.size (.slice a m c) (List.replicate m (ringD (rootT (m : Int) ⟨0, []⟩))) ∧ Below w.heap.size w w' := by
  obtain ⟨i0, hi0, hz0, hz1, hz2⟩ := info_parts infoDk
  have HP := Lib.hid (fun W => isPool_any (m : Int) W)
  rw [tt_true (show Pool (m : Int) by unfold Pool; omega)] at HP
  have KR : Hid (∃ W0, ((w.alloc (.cells #[.slice none 0 0, .bool false, .int .i64 0, .slice none 0 0, .int .i64 0, .slice none 0 0] 27)).alloc (.cells #[.slice none 0 0, .bool true, .int .i64 0, .slice none 0 0, .int .i64 0, .slice none 0 0] 27)) = W0 ∧ Below w.heap.size w W0 ∧ Blk W0 w.heap.size #[.slice none 0 0, .bool false, .int .i64 0, .slice none 0 0, .int .i64 0, .slice none 0 0] 27 ∧ Blk W0 (w.heap.size + 1) #[.slice none 0 0, .bool true, .int .i64 0, .slice none 0 0, .int .i64 0, .slice none 0 0] 27 ∧ w.heap.size + 2 = W0.heap.size) := by
    refine ⟨_, rfl, ((Below.refl _ _).alloc (Nat.le_refl _) _).alloc (by simp) _, (Blk.new w _ _).below ((Below.refl _ _).alloc (Nat.le_refl _) _) (by simp), ?_, by simp⟩
    have := Blk.new (w.alloc (.cells #[.slice none 0 0, .bool false, .int .i64 0, .slice none 0 0, .int .i64 0, .slice none 0 0] 27)) #[.slice none 0 0, .bool true, .int .i64 0, .slice none 0 0, .int .i64 0, .slice none 0 0] 27
    simp only [World.size_alloc] at this
    exact this
  obtain ⟨W0, HW, HB, KZ, KO, hsz⟩ := KR.out
  have HWh := Lib.hid HW
  clear HW
  have HD := Lib.hid (fun W (hW : Below w.heap.size w W) => implText_any (m : Int) ⟨0, []⟩ none 0 W (Nat.le_refl _) (fun j hj => by simp at hj) (.inl rfl) (hT.out.below hW))
  generalize rootT (m : Int) ⟨0, []⟩ = T at HD ⊢
  simp only [List.length_nil] at HD
  clear KR
  go_enter Tryz.func5, Tryz.ntmps5
  go_wp2_with fail
  refine (HP.out _).mono ?_
  rintro e w1 ⟨rfl, rfl⟩
  go_wp2_with fail
  rw [HWh.out]
  clear HWh
  have HBh := Lib.hid HB
  have KZh := Lib.hid KZ
  have KOh := Lib.hid KO
  have Hsz := Lib.hid hsz
  clear HB KZ KO hsz
  go_loopw [12] (fun i wr => ∃ k : Nat, i = .int .i64 (k : Int) ∧ k ≤ m ∧ Hid (∃ a c, Blk wr (w.heap.size + 1) #[.slice a k c, .bool true, .int .i64 0, .slice none 0 0, .int .i64 0, .slice none 0 0] 27 ∧ OwnDks wr (w.heap.size + 2) (.slice a k c) (List.replicate k (ringD T))) ∧ Hid (Blk wr w.heap.size #[.slice none 0 0, .bool false, .int .i64 0, .slice none 0 0, .int .i64 0, .slice none 0 0] 27) ∧ Hid (Below w.heap.size w wr) ∧ w.heap.size + 2 ≤ wr.heap.size) (fun i _ => m - (intOf i).toNat)
  case atStart => exact ⟨0, rfl, by omega, ⟨none, 0, KOh.out, OwnDks.nil _ _⟩, KZh, HBh, by have := Hsz.out; omega⟩
  case round =>
    obtain ⟨k, rfl, hk, hI, hZ, hB, hS⟩ := hrel
    by_cases hlt : k < m
    · have i1' : (k : Int) < (m : Int) := by omega
      obtain ⟨a, c, KX, hO⟩ := hI.out
      have HN := implNew_any 0 wr
      rw [diskNew_0] at HN
      have HN := Lib.hid HN
      have KX := Lib.hid KX
      obtain ⟨ys, k1, k2, k3, k4⟩ := OwnDks.rows hO
      have K1 := Lib.hid k1
      have K2 := Lib.hid k2
      have K3 := Lib.hid k3
      have HLT := Lib.hid k4
      clear hO hI k1 k2 k3 k4
      go_wp2_with fail
      refine HN.out.mono ?_
      rintro e w2 ⟨v, rfl, ⟨v1, v2, v3, v4, rfl, o1, o2, o3, o4, o5⟩, hB2⟩
      obtain ⟨a1, c1, rfl, _⟩ := OwnTx.reads o1
      obtain ⟨g2, c2, cur2, rfl, hg2, _⟩ := own_form o2 (show (two2).length ≠ 0 by decide)
      obtain ⟨a3, c3, rfl, _⟩ := OwnBo.reads o3
      obtain ⟨a4, c4, rfl, _⟩ := OwnPu.reads o4
      have o1 : OwnTx w2 wr.heap.size (.slice a1 12 c1) twelve := o1
      have o2 : OwnTx w2 wr.heap.size (.slice (some ⟨g2, 0, none⟩) 2 c2) two2 := o2
      have o3 : OwnBo w2 wr.heap.size (.slice a3 12 c3) twelveB := o3
      have o4 : OwnPu w2 wr.heap.size (.slice a4 0 c4) [] := o4
      have hBa : Below w2.heap.size w2 (w2.alloc (.cells #[.int .i64 0, .slice a1 12 c1, .slice (some ⟨g2, 0, none⟩) 2 c2, .slice a3 12 c3, .slice a4 0 c4] 37)).drew := ((Below.refl _ _).alloc (Nat.le_refl _) _).drew
      have KD : Blk (w2.alloc (.cells #[.int .i64 0, .slice a1 12 c1, .slice (some ⟨g2, 0, none⟩) 2 c2, .slice a3 12 c3, .slice a4 0 c4] 37)).drew w2.heap.size #[.int .i64 0, .slice a1 12 c1, .slice (some ⟨g2, 0, none⟩) 2 c2, .slice a3 12 c3, .slice a4 0 c4] 37 := Blk.new w2 _ _
      have d2 : (w2.alloc (.cells #[.int .i64 0, .slice a1 12 c1, .slice (some ⟨g2, 0, none⟩) 2 c2, .slice a3 12 c3, .slice a4 0 c4] 37)).drew.cell? ⟨w2.heap.size, 2, none⟩ = some (.slice (some ⟨g2, 0, none⟩) 2 c2) := KD.cell 2
      have HBa := Lib.hid (hB2.trans (hBa.mono hB2.size))
      have HO4 := Lib.hid (show Own4 (w2.alloc (.cells #[.int .i64 0, .slice a1 12 c1, .slice (some ⟨g2, 0, none⟩) 2 c2, .slice a3 12 c3, .slice a4 0 c4] 37)).drew wr.heap.size (.slice a1 12 c1) (.slice (some ⟨g2, 0, none⟩) 2 c2) (.slice a3 12 c3) (.slice a4 0 c4) ⟨0, twelve, two2, twelveB, []⟩ from Own4.below ⟨o1, o2, o3, o4, o5⟩ hBa)
      have HKD := Lib.hid KD
      have HTx := HD.out _ (hB.out.trans (HBa.out.mono hB.out.size))
      have HTx := Lib.hid HTx
      clear o1 o2 o3 o4 o5 hB2 hBa KD HN
      go_wp2_with fail
      refine AnyS.start (S := (fun w' : World => w'.cell? ⟨w2.heap.size, 2, none⟩ = some (.slice (some ⟨g2, 0, none⟩) 2 c2))) (L := 6) (by kernel_rfl) ?_
      refine AnyS.take 0 (show _ = some _ from rfl) rfl (by kernel_rfl) (by kernel_rfl) (by kernel_rfl) (by kernel_rfl) (fun _ _ _ h => h) d2 (by rfl) (fun w' hSw => by obtain s1 := hSw; go_simp; try with_reducible rfl) ?_
      try simp only [Act.put, List.setIfInBounds_toArray, List.set_cons_zero, List.set_cons_succ]
      refine AnyS.take 1 (show _ = some _ from rfl) rfl (by kernel_rfl) (by kernel_rfl) (by kernel_rfl) (by kernel_rfl) (fun _ _ _ h => h) d2 (by rfl) (fun w' hSw => by obtain s1 := hSw; go_simp; try with_reducible rfl) ?_
      try simp only [Act.put, List.setIfInBounds_toArray, List.set_cons_zero, List.set_cons_succ]
      refine AnyS.take 2 (show _ = some _ from rfl) rfl (by kernel_rfl) (by kernel_rfl) (by kernel_rfl) (by kernel_rfl) (fun _ _ _ h => h) d2 (by rfl) (fun w' hSw => by obtain s1 := hSw; go_simp; try with_reducible rfl) ?_
      try simp only [Act.put, List.setIfInBounds_toArray, List.set_cons_zero, List.set_cons_succ]
      refine AnyS.take 3 (show _ = some _ from rfl) rfl (by kernel_rfl) (by kernel_rfl) (by kernel_rfl) (by kernel_rfl) (fun _ _ _ h => h) d2 (by rfl) (fun w' hSw => by obtain s1 := hSw; go_simp; try with_reducible rfl) ?_
      try simp only [Act.put, List.setIfInBounds_toArray, List.set_cons_zero, List.set_cons_succ]
      refine AnyS.one 4 (by kernel_rfl) (show _ = some _ from rfl) (fun K' hK' => ?_)
      go_simp
      go_at_call 15
      refine HTx.out.mono ?_
      rintro e w3 ⟨rfl, hB3⟩
      have d23 := cell_below hB3 d2
      have HO4 := Lib.hid (HO4.out.below hB3)
      have HKD := Lib.hid (HKD.out.below hB3 HKD.out.lt)
      have HB3 := Lib.hid (HBa.out.trans (hB3.mono HBa.out.size))
      refine hK' _ _ ⟨?_, fun _ => d23⟩
      clear hK' K' hB3 HTx d2
      try simp only [Act.put, List.setIfInBounds_toArray, List.set_cons_zero, List.set_cons_succ]
      refine AnyS.take 5 (show _ = some _ from rfl) rfl (by kernel_rfl) (by kernel_rfl) (by kernel_rfl) (by kernel_rfl) (fun _ _ _ h => h) d23 (by rfl) (fun w' hSw => by obtain s1 := hSw; go_simp; try with_reducible rfl) ?_
      try simp only [Act.put, List.setIfInBounds_toArray, List.set_cons_zero, List.set_cons_succ]
      obtain ⟨x0, f0, _, _⟩ := own_cell (show w3.ownsRow wr.heap.size 9 1 (.slice (some ⟨g2, 0, none⟩) 2 c2) 2 (txC two2) from HO4.out.2.1) 0 (by omega)
      rw [txC_get two2 0 (by decide)] at x0
      generalize two2.getD 0 ByteArray.empty = y0 at x0
      refine AnyS.one 6 (by kernel_rfl) (show _ = some _ from rfl) (fun K' hK' => ?_)
      go_simp
      refine hK' _ _ ⟨AnyS.done (by kernel_rfl) ?_, fun h => absurd rfl h⟩
      clear hK' K'
      try simp only [Act.put, List.setIfInBounds_toArray, List.set_cons_zero, List.set_cons_succ]
      have hg2' : wr.heap.size ≤ g2 := hg2
      have hne2 : w2.heap.size ≠ g2 := fun e => own_blk_ne HO4.out.2.1 HKD.out (by decide) (by rw [e]; rfl)
      have HB4 := Lib.hid (HB3.out.setCell (p := ⟨g2, 0, none⟩) hg2' (.string T))
      have HKD := Lib.hid (HKD.out.other g2 0 (.string T) (fun e => hne2 e.symm))
      have HO4 : Hid (Own4 (w3.setCell ⟨g2, 0, none⟩ (.string T)) wr.heap.size (.slice a1 12 c1) (.slice (some ⟨g2, 0, none⟩) 2 c2) (.slice a3 12 c3) (.slice a4 0 c4) (ringD T)) :=
        ⟨own_other HO4.out.1 _ _ _ (fun e => HO4.out.2.2.2.2 g2 e rfl), OwnTx.set HO4.out.2.1 rfl 0 T, own_other HO4.out.2.2.1 _ _ _ (own_apart HO4.out.2.1 HO4.out.2.2.1 (by decide) g2 rfl), own_other HO4.out.2.2.2.1 _ _ _ (own_apart HO4.out.2.1 HO4.out.2.2.2.1 (by decide) g2 rfl), HO4.out.2.2.2.2⟩
      generalize w3.setCell ⟨g2, 0, none⟩ (.string T) = w4 at HB4 HKD HO4 ⊢
      clear x0 f0 d23 HB3 HBa
      have KX4 := Lib.hid (KX.out.below HB4.out KX.out.lt)
      have e0 : w4.cell? ⟨w.heap.size + 1, 0, none⟩ = some (.slice a k c) := KX4.out.cell 0
      have b0 : w4.cell? ⟨w2.heap.size, 0, none⟩ = some (.int .i64 0) := HKD.out.cell 0
      have b1 : w4.cell? ⟨w2.heap.size, 1, none⟩ = some (.slice a1 12 c1) := HKD.out.cell 1
      have b2 : w4.cell? ⟨w2.heap.size, 2, none⟩ = some (.slice (some ⟨g2, 0, none⟩) 2 c2) := HKD.out.cell 2
      have b3 : w4.cell? ⟨w2.heap.size, 3, none⟩ = some (.slice a3 12 c3) := HKD.out.cell 3
      have b4 : w4.cell? ⟨w2.heap.size, 4, none⟩ = some (.slice a4 0 c4) := HKD.out.cell 4
      have k1 := own_below K1.out HB4.out
      have k2 := K2.out.below HB4.out
      have k3 := K3.out
      have hkl : (List.replicate k (ringD T)).length = k := List.length_replicate
      have hB5 : Below w4.heap.size w4 (w4.alloc (.cells #[.int .i64 0, .slice a1 12 c1, .slice (some ⟨g2, 0, none⟩) 2 c2, .slice a3 12 c3, .slice a4 0 c4] 37)) := (Below.refl _ _).alloc (Nat.le_refl _) _
      have HB5 := Lib.hid (HB4.out.trans (hB5.mono HB4.out.size))
      have hown := own_below k1 hB5
      rw [hkl] at hown
      have hyl : ys.length = k * 5 := hown.1
      have hbt := own_block_dk hown
      have hnews := news_five w4 (.int .i64 0) (.slice a1 12 c1) (.slice (some ⟨g2, 0, none⟩) 2 c2) (.slice a3 12 c3) (.slice a4 0 c4) 37 w4.heap.size rfl
      have hbase : w.heap.size + 2 ≤ (w4.alloc (.cells #[.int .i64 0, .slice a1 12 c1, .slice (some ⟨g2, 0, none⟩) 2 c2, .slice a3 12 c3, .slice a4 0 c4] 37)).heap.size := Nat.le_trans hS HB5.out.size
      have KX5 := Lib.hid (KX4.out.below hB5 KX4.out.lt)
      have hneX := Lib.hid (own_blk_ne hown KX5.out (by decide))
      have hlt0 := Lib.hid (fun i e => (hown.lt i e).1)
      have hwr4 : wr.heap.size ≤ w4.heap.size := HB4.out.size
      have HZ5 := Lib.hid (hZ.out.below HB5.out hZ.out.lt)
      have hneZ := Lib.hid (own_blk_ne hown HZ5.out (by decide))
      have HX : Hid (∀ g4 cap4 w6, w6.ownsRow (w.heap.size + 2) 37 5 (.slice (some ⟨g4, 0, none⟩) (k + 1) cap4) (k + 1) (ys ++ [.int .i64 0, .slice a1 12 c1, .slice (some ⟨g2, 0, none⟩) 2 c2, .slice a3 12 c3, .slice a4 0 c4]) → (w4.alloc (.cells #[.int .i64 0, .slice a1 12 c1, .slice (some ⟨g2, 0, none⟩) 2 c2, .slice a3 12 c3, .slice a4 0 c4] 37)).grownBy w6 (Value.slice a k c).ownBlock →
          Blk w6 (w.heap.size + 1) #[.slice a k c, .bool true, .int .i64 0, .slice none 0 0, .int .i64 0, .slice none 0 0] 27 ∧ Blk w6 w.heap.size #[.slice none 0 0, .bool false, .int .i64 0, .slice none 0 0, .int .i64 0, .slice none 0 0] 27 ∧ OwnDks w6 (w.heap.size + 2) (.slice (some ⟨g4, 0, none⟩) (k + 1) cap4) (List.replicate (k + 1) (ringD T)) ∧ Below w.heap.size w w6 ∧ w.heap.size + 2 ≤ w6.heap.size) := fun g4 cap4 w6 h4 hg4 => by
        refine ⟨KX5.out.gb hg4 hneX.out, HZ5.out.gb hg4 hneZ.out, ?_, (hB.out.trans (HB5.out.mono hB.out.size)).grown hg4 (by omega) (fun i e => by have := hlt0.out i e; omega), Nat.le_trans hbase hg4.size⟩
        rw [List.replicate_succ']
        exact OwnDks.more (w0 := wr) (base' := wr.heap.size) (k2.below hB5) k3 (fun j E hj hE => HLT.out j E hj hE) ⟨_, _, _, _, rfl, HO4.out.below hB5⟩ (Nat.le_refl _) hS rfl (by rw [hkl]; exact h4) hg4 hbt
      clear hB5 k1 k2 k3 hkl hbt HO4 HKD KX4 K1 K2 K3 HLT
      go_wp2_with (at_builtin; refine wpList_append_lies _ rfl _ _ 22 rfl (w.heap.size + 2) 37 i0 _ 5 104 Tryz.underlying22 hi0 hz0 hz1 hz2 rfl (by omega) _ k ys rfl hown ⟨_, 0, none⟩ 1 1 [.int .i64 0, .slice a1 12 c1, .slice (some ⟨g2, 0, none⟩) 2 c2, .slice a3 12 c3, .slice a4 0 c4] rfl rfl hnews (by simp [Value.oneCell']) (by omega) (by simp [maxLen]; omega) (by omega) hbase _ rfl ?_; intro g4 cap4 w6 hown4 hgrow4 hat4 hlt4; obtain ⟨hx1, hx2, hx3, hx4, hx5⟩ := HX.out g4 cap4 w6 hown4 hgrow4; have z0 : w6.cell? ⟨w.heap.size + 1, 0, none⟩ = some (.slice a k c) := hx1.cell 0; have zf := hx1.frozen 0)
      have H1 := Lib.hid (hx1.set 0 (.slice (some ⟨g4, 0, none⟩) (k + 1) cap4))
      have H2 := Lib.hid (hx2.other (w.heap.size + 1) 0 (.slice (some ⟨g4, 0, none⟩) (k + 1) cap4) (by omega))
      have H3 := Lib.hid (OwnDk.other hx3 hx1 (by decide) (by decide) (by decide) (by decide) 0 (.slice (some ⟨g4, 0, none⟩) (k + 1) cap4))
      have H4 := Lib.hid (hx4.setCell (p := ⟨w.heap.size + 1, 0, none⟩) (by simp) (.slice (some ⟨g4, 0, none⟩) (k + 1) cap4))
      exact ⟨⟨k + 1, by go_num, by omega, ⟨_, _, H1.out, H3.out⟩, H2, H4, by rw [World.size_setCell]; exact hx5⟩, by simp [intOf]; omega⟩
    · obtain rfl : k = m := by omega
      obtain ⟨a, c, KX, hO⟩ := hI.out
      have HO := Lib.hid hO
      have p0 : wr.cell? ⟨w.heap.size + 1, 0, none⟩ = some (.slice a k c) := KX.cell 0
      have p1 : wr.cell? ⟨w.heap.size + 1, 1, none⟩ = some (.bool true) := KX.cell 1
      have p2 : wr.cell? ⟨w.heap.size + 1, 2, none⟩ = some (.int .i64 0) := KX.cell 2
      have p3 : wr.cell? ⟨w.heap.size + 1, 3, none⟩ = some (.slice none 0 0) := KX.cell 3
      have p4 : wr.cell? ⟨w.heap.size + 1, 4, none⟩ = some (.int .i64 0) := KX.cell 4
      have p5 : wr.cell? ⟨w.heap.size + 1, 5, none⟩ = some (.slice none 0 0) := KX.cell 5
      have q0 : wr.cell? ⟨w.heap.size, 0, none⟩ = some (.slice none 0 0) := hZ.out.cell 0
      have q1 : wr.cell? ⟨w.heap.size, 1, none⟩ = some (.bool false) := hZ.out.cell 1
      have q2 : wr.cell? ⟨w.heap.size, 2, none⟩ = some (.int .i64 0) := hZ.out.cell 2
      have q3 : wr.cell? ⟨w.heap.size, 3, none⟩ = some (.slice none 0 0) := hZ.out.cell 3
      have q4 : wr.cell? ⟨w.heap.size, 4, none⟩ = some (.int .i64 0) := hZ.out.cell 4
      have q5 : wr.cell? ⟨w.heap.size, 5, none⟩ = some (.slice none 0 0) := hZ.out.cell 5
      have t0 := hZ.out.frozen 0
      have t1 := hZ.out.frozen 1
      have t2 := hZ.out.frozen 2
      have t3 := hZ.out.frozen 3
      have t4 := hZ.out.frozen 4
      have t5 := hZ.out.frozen 5
      clear hO KX hI
      go_wp2
      refine bodyPost_ret (v := .tuple #[.agg #[.slice a k c, .bool true, .int .i64 0, .slice none 0 0, .int .i64 0, .slice none 0 0], .bool true]) (by simp [results, Tryz.results5, go_sem, q0, q1, q2, q3, q4, q5]) rfl ⟨_, _, rfl, ?_, ?_⟩
      · exact OwnDk.mono (((((OwnDk.far HO.out _ _ _ (by omega)).far _ _ _ (by omega)).far _ _ _ (by omega)).far _ _ _ (by omega)).far _ _ _ (by omega) |>.far _ _ _ (by omega)) (by omega)
      · exact (((((hB.out.setCell (p := ⟨w.heap.size, 0, none⟩) (by simp) _).setCell (p := ⟨w.heap.size, 1, none⟩) (by simp) _).setCell (p := ⟨w.heap.size, 2, none⟩) (by simp) _).setCell (p := ⟨w.heap.size, 3, none⟩) (by simp) _).setCell (p := ⟨w.heap.size, 4, none⟩) (by simp) _).setCell (p := ⟨w.heap.size, 5, none⟩) (by simp) _

set_option maxRecDepth 100000 in
set_option maxHeartbeats 2000000 in
theorem implPoolNew_no (n : Int) (hn : ¬Pool n) (w : World) :
    Calls Tryz.prog 5 #[.int .i64 n] w fun e w' => e = .returned (.tuple #[.agg #[.slice none 0 0, .bool false, .int .i64 0, .slice none 0 0, .int .i64 0, .slice none 0 0], .bool false]) ∧ Below w.heap.size w w' := by
  have HP := Lib.hid (fun W => isPool_any n W)
  rw [tt_false hn] at HP
  have HB := Lib.hid (show Below w.heap.size w (w.alloc (.cells #[.slice none 0 0, .bool false, .int .i64 0, .slice none 0 0, .int .i64 0, .slice none 0 0] 27)) from (Below.refl _ _).alloc (Nat.le_refl _) _)
  have hZ := Lib.hid (Blk.new w #[.slice none 0 0, .bool false, .int .i64 0, .slice none 0 0, .int .i64 0, .slice none 0 0] 27)
  go_enter Tryz.func5, Tryz.ntmps5
  go_wp2_with fail
  refine (HP.out _).mono ?_
  rintro e w1 ⟨rfl, rfl⟩
  generalize w.alloc (.cells #[.slice none 0 0, .bool false, .int .i64 0, .slice none 0 0, .int .i64 0, .slice none 0 0] 27) = wr at HB hZ ⊢
  have q0 : wr.cell? ⟨w.heap.size, 0, none⟩ = some (.slice none 0 0) := hZ.out.cell 0
  have q1 : wr.cell? ⟨w.heap.size, 1, none⟩ = some (.bool false) := hZ.out.cell 1
  have q2 : wr.cell? ⟨w.heap.size, 2, none⟩ = some (.int .i64 0) := hZ.out.cell 2
  have q3 : wr.cell? ⟨w.heap.size, 3, none⟩ = some (.slice none 0 0) := hZ.out.cell 3
  have q4 : wr.cell? ⟨w.heap.size, 4, none⟩ = some (.int .i64 0) := hZ.out.cell 4
  have q5 : wr.cell? ⟨w.heap.size, 5, none⟩ = some (.slice none 0 0) := hZ.out.cell 5
  have t0 := hZ.out.frozen 0
  have t1 := hZ.out.frozen 1
  have t2 := hZ.out.frozen 2
  have t3 := hZ.out.frozen 3
  have t4 := hZ.out.frozen 4
  have t5 := hZ.out.frozen 5
  go_wp2
  refine bodyPost_ret (v := .tuple #[.agg #[.slice none 0 0, .bool false, .int .i64 0, .slice none 0 0, .int .i64 0, .slice none 0 0], .bool false]) (by simp [results, Tryz.results5, go_sem, q0, q1, q2, q3, q4, q5]) rfl ⟨rfl, ?_⟩
  exact (((((HB.out.setCell (p := ⟨w.heap.size, 0, none⟩) (by simp) _).setCell (p := ⟨w.heap.size, 1, none⟩) (by simp) _).setCell (p := ⟨w.heap.size, 2, none⟩) (by simp) _).setCell (p := ⟨w.heap.size, 3, none⟩) (by simp) _).setCell (p := ⟨w.heap.size, 4, none⟩) (by simp) _).setCell (p := ⟨w.heap.size, 5, none⟩) (by simp) _

end Go.Proofs.YtceielkcplcccaaGreatDoor

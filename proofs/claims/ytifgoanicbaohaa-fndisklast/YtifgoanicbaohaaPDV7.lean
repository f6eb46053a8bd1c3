/- A byte of a slot is spoilt, in the specification. Conditions: the disk has all that it must, and the byte is one of the slot's. -/
import Derived.Test.YtifgoanicbaohaaPDV5
import Derived.Test.YtifgoanicbaohaaPDN0
import Derived.Test.YtifgoanicbaohaaPDHS
namespace Go.Proofs.Ytifgoanicbaohaa
open Go.RowKit Go.Sort Go.Shelf

theorem setsS {w w' : World} {n : Nat} {u0 u1 u2 u3 u4 : Value} (h : OthersS w w') (hn : w.heap.size ≤ n) : OthersS w (((((w'.setCell ⟨n, 0, none⟩ u0).setCell ⟨n, 1, none⟩ u1).setCell ⟨n, 2, none⟩ u2).setCell ⟨n, 3, none⟩ u3).setCell ⟨n, 4, none⟩ u4) :=
  ((((h.set_new hn 0 u0).set_new hn 1 u1).set_new hn 2 u2).set_new hn 3 u3).set_new hn 4 u4

set_option maxRecDepth 100000 in
set_option maxHeartbeats 2000000 in
theorem l3Spoil_empty (base : Nat) (v1 v2 v3 v4 : Value) (d : DiskD) (k b : Nat) (c : Int) (w : World) (hb : base ≤ w.heap.size) (hr : HasRows d) (hk : k < 12) (hz : (d.slots.getD k ByteArray.empty).size = 0) (ho : Own4 w base v1 v2 v3 v4 d) :
    Calls Try.prog 41 #[.agg #[.int .i64 d.state, v1, v2, v3, v4], .int .i64 (k : Int), .int .i64 (b : Int), .int .i64 c] w fun e w' => ∃ v, e = .returned v ∧ OwnDisk w' base v (d) ∧ Below base w w' ∧ OthersS w w' := by
  obtain ⟨st, xs, ys, bs, ps⟩ := d
  have hl1 : xs.length = 12 := hr.1
  have hl2 : ys.length = 2 := hr.2.1
  have hl3 : bs.length = 12 := hr.2.2
  obtain ⟨g1, c1, cur1, rfl, hbg1, hG1⟩ := own_form ho.1 (show xs.length ≠ 0 by omega)
  obtain ⟨g2, c2, cur2, rfl, hbg2, hG2⟩ := own_form ho.2.1 (show ys.length ≠ 0 by omega)
  obtain ⟨g3, c3, cur3, rfl, hbg3, hG3⟩ := own_form ho.2.2.1 (show bs.length ≠ 0 by omega)
  obtain ⟨a4, c4, rfl, _⟩ := OwnPu.reads ho.2.2.2.1
  simp only at ho ⊢
  have hB0 : Below w.heap.size w ((w.alloc (.cells #[.int .i64 st, .slice (some ⟨g1, 0, none⟩) xs.length c1, .slice (some ⟨g2, 0, none⟩) ys.length c2, .slice (some ⟨g3, 0, none⟩) bs.length c3, .slice a4 ps.length c4] 27)).alloc (.cells #[.int .i64 0, .slice none 0 0, .slice none 0 0, .slice none 0 0, .slice none 0 0] 27)) := ((Below.refl _ _).alloc (Nat.le_refl _) _).alloc (by simp) _
  have hs : ((w.alloc (.cells #[.int .i64 st, .slice (some ⟨g1, 0, none⟩) xs.length c1, .slice (some ⟨g2, 0, none⟩) ys.length c2, .slice (some ⟨g3, 0, none⟩) bs.length c3, .slice a4 ps.length c4] 27)).alloc (.cells #[.int .i64 0, .slice none 0 0, .slice none 0 0, .slice none 0 0, .slice none 0 0] 27)).heap.size = w.heap.size + 2 := by simp
  have hKd : Blk ((w.alloc (.cells #[.int .i64 st, .slice (some ⟨g1, 0, none⟩) xs.length c1, .slice (some ⟨g2, 0, none⟩) ys.length c2, .slice (some ⟨g3, 0, none⟩) bs.length c3, .slice a4 ps.length c4] 27)).alloc (.cells #[.int .i64 0, .slice none 0 0, .slice none 0 0, .slice none 0 0, .slice none 0 0] 27)) w.heap.size #[.int .i64 st, .slice (some ⟨g1, 0, none⟩) xs.length c1, .slice (some ⟨g2, 0, none⟩) ys.length c2, .slice (some ⟨g3, 0, none⟩) bs.length c3, .slice a4 ps.length c4] 27 := (Blk.new w _ _).below (n := w.heap.size + 1) ((Below.refl _ _).alloc (by simp) _) (by omega)
  have hKz : Blk ((w.alloc (.cells #[.int .i64 st, .slice (some ⟨g1, 0, none⟩) xs.length c1, .slice (some ⟨g2, 0, none⟩) ys.length c2, .slice (some ⟨g3, 0, none⟩) bs.length c3, .slice a4 ps.length c4] 27)).alloc (.cells #[.int .i64 0, .slice none 0 0, .slice none 0 0, .slice none 0 0, .slice none 0 0] 27)) (w.heap.size + 1) #[.int .i64 0, .slice none 0 0, .slice none 0 0, .slice none 0 0, .slice none 0 0] 27 := by
    have := Blk.new (w.alloc (.cells #[.int .i64 st, .slice (some ⟨g1, 0, none⟩) xs.length c1, .slice (some ⟨g2, 0, none⟩) ys.length c2, .slice (some ⟨g3, 0, none⟩) bs.length c3, .slice a4 ps.length c4] 27)) #[.int .i64 0, .slice none 0 0, .slice none 0 0, .slice none 0 0, .slice none 0 0] 27
    rw [World.size_alloc] at this
    exact this
  have HO := Lib.hid (ho.below hB0)
  have HG1 := Lib.hid (hG1.below hB0 hG1.lt)
  have HG2 := Lib.hid (hG2.below hB0 hG2.lt)
  have HG3 := Lib.hid (hG3.below hB0 hG3.lt)
  have hlt1 := hG1.lt
  have hlt2 := hG2.lt
  have hlt3 := hG3.lt
  have Hl1 := Lib.hid hl1
  have Hl2 := Lib.hid hl2
  have Hl3 := Lib.hid hl3
  have HB0 := Lib.hid hB0
  have Hs := Lib.hid hs
  have HKd := Lib.hid hKd
  have HKz := Lib.hid hKz
  clear ho hG1 hG2 hG3 hB0 hs hKd hKz hl1 hl2 hl3 hr
  go_enter Try.func41, Try.ntmps41
  go_upto_region 1 with (fail)
  generalize ((w.alloc (.cells #[.int .i64 st, .slice (some ⟨g1, 0, none⟩) xs.length c1, .slice (some ⟨g2, 0, none⟩) ys.length c2, .slice (some ⟨g3, 0, none⟩) bs.length c3, .slice a4 ps.length c4] 27)).alloc (.cells #[.int .i64 0, .slice none 0 0, .slice none 0 0, .slice none 0 0, .slice none 0 0] 27)) = W at HO HG1 HG2 HG3 HB0 Hs HKd HKz ⊢
  obtain ⟨p0, p1, p2, p3, p4⟩ : W.cell? ⟨w.heap.size, 0, none⟩ = some (.int .i64 st) ∧ W.cell? ⟨w.heap.size, 1, none⟩ = some (.slice (some ⟨g1, 0, none⟩) xs.length c1) ∧ W.cell? ⟨w.heap.size, 2, none⟩ = some (.slice (some ⟨g2, 0, none⟩) ys.length c2) ∧ W.cell? ⟨w.heap.size, 3, none⟩ = some (.slice (some ⟨g3, 0, none⟩) bs.length c3) ∧ W.cell? ⟨w.heap.size, 4, none⟩ = some (.slice a4 ps.length c4) := ⟨(HKd.out.cell 0), (HKd.out.cell 1), (HKd.out.cell 2), (HKd.out.cell 3), (HKd.out.cell 4)⟩
  have i1 : (k : Int) < (xs.length : Int) := by have := Hl1.out; omega
  have i3 : (k : Int) < (bs.length : Int) := by have := Hl3.out; omega
  have i0 : (0 : Int) ≤ (k : Int) := by omega
  obtain ⟨x0, f0, _, _⟩ := own_cell HO.out.1 k (show k < xs.length * 1 by omega)
  rw [txC_get xs k (by omega)] at x0
  obtain ⟨x3, f3, _, _⟩ := own_cell HO.out.2.2.1 k (show k < bs.length * 1 by omega)
  rw [boC_get bs k (by omega)] at x3
  obtain ⟨z0, z1, z2, z3, z4⟩ : W.cell? ⟨w.heap.size + 1, 0, none⟩ = some (.int .i64 0) ∧ W.cell? ⟨w.heap.size + 1, 1, none⟩ = some (.slice none 0 0) ∧ W.cell? ⟨w.heap.size + 1, 2, none⟩ = some (.slice none 0 0) ∧ W.cell? ⟨w.heap.size + 1, 3, none⟩ = some (.slice none 0 0) ∧ W.cell? ⟨w.heap.size + 1, 4, none⟩ = some (.slice none 0 0) := ⟨(HKz.out.cell 0), (HKz.out.cell 1), (HKz.out.cell 2), (HKz.out.cell 3), (HKz.out.cell 4)⟩
  have t0 := HKz.out.frozen 0
  have t1 := HKz.out.frozen 1
  have t2 := HKz.out.frozen 2
  have t3 := HKz.out.frozen 3
  have t4 := HKz.out.frozen 4
  have hz' : (xs.getD k ByteArray.empty) = ByteArray.empty := tx_none hz
  rw [hz'] at x0
  clear hz hz'
  go_wp2
  refine bodyPost_ret (v := .agg #[.int .i64 st, .slice (some ⟨g1, 0, none⟩) xs.length c1, .slice (some ⟨g2, 0, none⟩) ys.length c2, .slice (some ⟨g3, 0, none⟩) bs.length c3, .slice a4 ps.length c4]) (by simp [results, Try.results41, go_sem, z0, z1, z2, z3, z4]) rfl ⟨_, rfl, ⟨_, _, _, _, rfl, ?_⟩, ?_, ?_⟩
  · exact own4_sets HO.out HKz.out
  · exact sets_below (HB0.out.mono hb) (by omega)
  · exact setsS (othersS_below HB0.out) (by omega)

set_option maxRecDepth 100000 in
set_option maxHeartbeats 2000000 in
theorem l3Spoil_spoilt (base : Nat) (v1 v2 v3 v4 : Value) (d : DiskD) (k b : Nat) (c : Int) (w : World) (hb : base ≤ w.heap.size) (hr : HasRows d) (hk : k < 12) (hz : (d.slots.getD k ByteArray.empty).size ≠ 0) (hs3 : d.spoilt.getD k false = true) (ho : Own4 w base v1 v2 v3 v4 d) :
    Calls Try.prog 41 #[.agg #[.int .i64 d.state, v1, v2, v3, v4], .int .i64 (k : Int), .int .i64 (b : Int), .int .i64 c] w fun e w' => ∃ v, e = .returned v ∧ OwnDisk w' base v (d) ∧ Below base w w' ∧ OthersS w w' := by
  obtain ⟨st, xs, ys, bs, ps⟩ := d
  have hl1 : xs.length = 12 := hr.1
  have hl2 : ys.length = 2 := hr.2.1
  have hl3 : bs.length = 12 := hr.2.2
  obtain ⟨g1, c1, cur1, rfl, hbg1, hG1⟩ := own_form ho.1 (show xs.length ≠ 0 by omega)
  obtain ⟨g2, c2, cur2, rfl, hbg2, hG2⟩ := own_form ho.2.1 (show ys.length ≠ 0 by omega)
  obtain ⟨g3, c3, cur3, rfl, hbg3, hG3⟩ := own_form ho.2.2.1 (show bs.length ≠ 0 by omega)
  obtain ⟨a4, c4, rfl, _⟩ := OwnPu.reads ho.2.2.2.1
  simp only at ho ⊢
  have hB0 : Below w.heap.size w ((w.alloc (.cells #[.int .i64 st, .slice (some ⟨g1, 0, none⟩) xs.length c1, .slice (some ⟨g2, 0, none⟩) ys.length c2, .slice (some ⟨g3, 0, none⟩) bs.length c3, .slice a4 ps.length c4] 27)).alloc (.cells #[.int .i64 0, .slice none 0 0, .slice none 0 0, .slice none 0 0, .slice none 0 0] 27)) := ((Below.refl _ _).alloc (Nat.le_refl _) _).alloc (by simp) _
  have hs : ((w.alloc (.cells #[.int .i64 st, .slice (some ⟨g1, 0, none⟩) xs.length c1, .slice (some ⟨g2, 0, none⟩) ys.length c2, .slice (some ⟨g3, 0, none⟩) bs.length c3, .slice a4 ps.length c4] 27)).alloc (.cells #[.int .i64 0, .slice none 0 0, .slice none 0 0, .slice none 0 0, .slice none 0 0] 27)).heap.size = w.heap.size + 2 := by simp
  have hKd : Blk ((w.alloc (.cells #[.int .i64 st, .slice (some ⟨g1, 0, none⟩) xs.length c1, .slice (some ⟨g2, 0, none⟩) ys.length c2, .slice (some ⟨g3, 0, none⟩) bs.length c3, .slice a4 ps.length c4] 27)).alloc (.cells #[.int .i64 0, .slice none 0 0, .slice none 0 0, .slice none 0 0, .slice none 0 0] 27)) w.heap.size #[.int .i64 st, .slice (some ⟨g1, 0, none⟩) xs.length c1, .slice (some ⟨g2, 0, none⟩) ys.length c2, .slice (some ⟨g3, 0, none⟩) bs.length c3, .slice a4 ps.length c4] 27 := (Blk.new w _ _).below (n := w.heap.size + 1) ((Below.refl _ _).alloc (by simp) _) (by omega)
  have hKz : Blk ((w.alloc (.cells #[.int .i64 st, .slice (some ⟨g1, 0, none⟩) xs.length c1, .slice (some ⟨g2, 0, none⟩) ys.length c2, .slice (some ⟨g3, 0, none⟩) bs.length c3, .slice a4 ps.length c4] 27)).alloc (.cells #[.int .i64 0, .slice none 0 0, .slice none 0 0, .slice none 0 0, .slice none 0 0] 27)) (w.heap.size + 1) #[.int .i64 0, .slice none 0 0, .slice none 0 0, .slice none 0 0, .slice none 0 0] 27 := by
    have := Blk.new (w.alloc (.cells #[.int .i64 st, .slice (some ⟨g1, 0, none⟩) xs.length c1, .slice (some ⟨g2, 0, none⟩) ys.length c2, .slice (some ⟨g3, 0, none⟩) bs.length c3, .slice a4 ps.length c4] 27)) #[.int .i64 0, .slice none 0 0, .slice none 0 0, .slice none 0 0, .slice none 0 0] 27
    rw [World.size_alloc] at this
    exact this
  have HO := Lib.hid (ho.below hB0)
  have HG1 := Lib.hid (hG1.below hB0 hG1.lt)
  have HG2 := Lib.hid (hG2.below hB0 hG2.lt)
  have HG3 := Lib.hid (hG3.below hB0 hG3.lt)
  have hlt1 := hG1.lt
  have hlt2 := hG2.lt
  have hlt3 := hG3.lt
  have Hl1 := Lib.hid hl1
  have Hl2 := Lib.hid hl2
  have Hl3 := Lib.hid hl3
  have HB0 := Lib.hid hB0
  have Hs := Lib.hid hs
  have HKd := Lib.hid hKd
  have HKz := Lib.hid hKz
  clear ho hG1 hG2 hG3 hB0 hs hKd hKz hl1 hl2 hl3 hr
  go_enter Try.func41, Try.ntmps41
  go_upto_region 1 with (fail)
  generalize ((w.alloc (.cells #[.int .i64 st, .slice (some ⟨g1, 0, none⟩) xs.length c1, .slice (some ⟨g2, 0, none⟩) ys.length c2, .slice (some ⟨g3, 0, none⟩) bs.length c3, .slice a4 ps.length c4] 27)).alloc (.cells #[.int .i64 0, .slice none 0 0, .slice none 0 0, .slice none 0 0, .slice none 0 0] 27)) = W at HO HG1 HG2 HG3 HB0 Hs HKd HKz ⊢
  obtain ⟨p0, p1, p2, p3, p4⟩ : W.cell? ⟨w.heap.size, 0, none⟩ = some (.int .i64 st) ∧ W.cell? ⟨w.heap.size, 1, none⟩ = some (.slice (some ⟨g1, 0, none⟩) xs.length c1) ∧ W.cell? ⟨w.heap.size, 2, none⟩ = some (.slice (some ⟨g2, 0, none⟩) ys.length c2) ∧ W.cell? ⟨w.heap.size, 3, none⟩ = some (.slice (some ⟨g3, 0, none⟩) bs.length c3) ∧ W.cell? ⟨w.heap.size, 4, none⟩ = some (.slice a4 ps.length c4) := ⟨(HKd.out.cell 0), (HKd.out.cell 1), (HKd.out.cell 2), (HKd.out.cell 3), (HKd.out.cell 4)⟩
  have i1 : (k : Int) < (xs.length : Int) := by have := Hl1.out; omega
  have i3 : (k : Int) < (bs.length : Int) := by have := Hl3.out; omega
  have i0 : (0 : Int) ≤ (k : Int) := by omega
  obtain ⟨x0, f0, _, _⟩ := own_cell HO.out.1 k (show k < xs.length * 1 by omega)
  rw [txC_get xs k (by omega)] at x0
  obtain ⟨x3, f3, _, _⟩ := own_cell HO.out.2.2.1 k (show k < bs.length * 1 by omega)
  rw [boC_get bs k (by omega)] at x3
  obtain ⟨z0, z1, z2, z3, z4⟩ : W.cell? ⟨w.heap.size + 1, 0, none⟩ = some (.int .i64 0) ∧ W.cell? ⟨w.heap.size + 1, 1, none⟩ = some (.slice none 0 0) ∧ W.cell? ⟨w.heap.size + 1, 2, none⟩ = some (.slice none 0 0) ∧ W.cell? ⟨w.heap.size + 1, 3, none⟩ = some (.slice none 0 0) ∧ W.cell? ⟨w.heap.size + 1, 4, none⟩ = some (.slice none 0 0) := ⟨(HKz.out.cell 0), (HKz.out.cell 1), (HKz.out.cell 2), (HKz.out.cell 3), (HKz.out.cell 4)⟩
  have t0 := HKz.out.frozen 0
  have t1 := HKz.out.frozen 1
  have t2 := HKz.out.frozen 2
  have t3 := HKz.out.frozen 3
  have t4 := HKz.out.frozen 4
  have hz' := tx_some hz
  have hs3' : bs.getD k false = true := hs3
  rw [hs3'] at x3
  simp only at hz'
  generalize xs.getD k ByteArray.empty = s at x0 hz'
  clear hz hs3 hs3'
  go_wp2
  refine bodyPost_ret (v := .agg #[.int .i64 st, .slice (some ⟨g1, 0, none⟩) xs.length c1, .slice (some ⟨g2, 0, none⟩) ys.length c2, .slice (some ⟨g3, 0, none⟩) bs.length c3, .slice a4 ps.length c4]) (by simp [results, Try.results41, go_sem, z0, z1, z2, z3, z4]) rfl ⟨_, rfl, ⟨_, _, _, _, rfl, ?_⟩, ?_, ?_⟩
  · exact own4_sets HO.out HKz.out
  · exact sets_below (HB0.out.mono hb) (by omega)
  · exact setsS (othersS_below HB0.out) (by omega)

set_option maxRecDepth 100000 in
set_option maxHeartbeats 2000000 in
theorem l3Spoil_on (base : Nat) (v1 v2 v3 v4 : Value) (d : DiskD) (k b : Nat) (c : Int) (w : World) (hb : base ≤ w.heap.size) (hr : HasRows d) (hk : k < 12) (hcs : CanSpoil d k) (hbs : b < (d.slots.getD k ByteArray.empty).size) (ho : Own4 w base v1 v2 v3 v4 d) :
    Calls Try.prog 41 #[.agg #[.int .i64 d.state, v1, v2, v3, v4], .int .i64 (k : Int), .int .i64 (b : Int), .int .i64 c] w fun e w' => ∃ v, e = .returned v ∧ OwnDisk w' base v (spoilOn d k b (c % 256)) ∧ Below base w w' ∧ OthersS w w' := by
  unfold spoilOn
  obtain ⟨s2, hs2⟩ : ∃ s2, Hid (s2 = turnS (d.slots.getD k ByteArray.empty) b (c % 256)) := ⟨_, rfl⟩
  rw [← hs2.out]
  obtain ⟨st, xs, ys, bs, ps⟩ := d
  have hl1 : xs.length = 12 := hr.1
  have hl2 : ys.length = 2 := hr.2.1
  have hl3 : bs.length = 12 := hr.2.2
  obtain ⟨g1, c1, cur1, rfl, hbg1, hG1⟩ := own_form ho.1 (show xs.length ≠ 0 by omega)
  obtain ⟨g2, c2, cur2, rfl, hbg2, hG2⟩ := own_form ho.2.1 (show ys.length ≠ 0 by omega)
  obtain ⟨g3, c3, cur3, rfl, hbg3, hG3⟩ := own_form ho.2.2.1 (show bs.length ≠ 0 by omega)
  obtain ⟨a4, c4, rfl, _⟩ := OwnPu.reads ho.2.2.2.1
  simp only at ho ⊢
  have hB0 : Below w.heap.size w ((w.alloc (.cells #[.int .i64 st, .slice (some ⟨g1, 0, none⟩) xs.length c1, .slice (some ⟨g2, 0, none⟩) ys.length c2, .slice (some ⟨g3, 0, none⟩) bs.length c3, .slice a4 ps.length c4] 27)).alloc (.cells #[.int .i64 0, .slice none 0 0, .slice none 0 0, .slice none 0 0, .slice none 0 0] 27)) := ((Below.refl _ _).alloc (Nat.le_refl _) _).alloc (by simp) _
  have hs : ((w.alloc (.cells #[.int .i64 st, .slice (some ⟨g1, 0, none⟩) xs.length c1, .slice (some ⟨g2, 0, none⟩) ys.length c2, .slice (some ⟨g3, 0, none⟩) bs.length c3, .slice a4 ps.length c4] 27)).alloc (.cells #[.int .i64 0, .slice none 0 0, .slice none 0 0, .slice none 0 0, .slice none 0 0] 27)).heap.size = w.heap.size + 2 := by simp
  have hKd : Blk ((w.alloc (.cells #[.int .i64 st, .slice (some ⟨g1, 0, none⟩) xs.length c1, .slice (some ⟨g2, 0, none⟩) ys.length c2, .slice (some ⟨g3, 0, none⟩) bs.length c3, .slice a4 ps.length c4] 27)).alloc (.cells #[.int .i64 0, .slice none 0 0, .slice none 0 0, .slice none 0 0, .slice none 0 0] 27)) w.heap.size #[.int .i64 st, .slice (some ⟨g1, 0, none⟩) xs.length c1, .slice (some ⟨g2, 0, none⟩) ys.length c2, .slice (some ⟨g3, 0, none⟩) bs.length c3, .slice a4 ps.length c4] 27 := (Blk.new w _ _).below (n := w.heap.size + 1) ((Below.refl _ _).alloc (by simp) _) (by omega)
  have hKz : Blk ((w.alloc (.cells #[.int .i64 st, .slice (some ⟨g1, 0, none⟩) xs.length c1, .slice (some ⟨g2, 0, none⟩) ys.length c2, .slice (some ⟨g3, 0, none⟩) bs.length c3, .slice a4 ps.length c4] 27)).alloc (.cells #[.int .i64 0, .slice none 0 0, .slice none 0 0, .slice none 0 0, .slice none 0 0] 27)) (w.heap.size + 1) #[.int .i64 0, .slice none 0 0, .slice none 0 0, .slice none 0 0, .slice none 0 0] 27 := by
    have := Blk.new (w.alloc (.cells #[.int .i64 st, .slice (some ⟨g1, 0, none⟩) xs.length c1, .slice (some ⟨g2, 0, none⟩) ys.length c2, .slice (some ⟨g3, 0, none⟩) bs.length c3, .slice a4 ps.length c4] 27)) #[.int .i64 0, .slice none 0 0, .slice none 0 0, .slice none 0 0, .slice none 0 0] 27
    rw [World.size_alloc] at this
    exact this
  have HO := Lib.hid (ho.below hB0)
  have HG1 := Lib.hid (hG1.below hB0 hG1.lt)
  have HG2 := Lib.hid (hG2.below hB0 hG2.lt)
  have HG3 := Lib.hid (hG3.below hB0 hG3.lt)
  have hlt1 := hG1.lt
  have hlt2 := hG2.lt
  have hlt3 := hG3.lt
  have Hl1 := Lib.hid hl1
  have Hl2 := Lib.hid hl2
  have Hl3 := Lib.hid hl3
  have HB0 := Lib.hid hB0
  have Hs := Lib.hid hs
  have HKd := Lib.hid hKd
  have HKz := Lib.hid hKz
  clear ho hG1 hG2 hG3 hB0 hs hKd hKz hl1 hl2 hl3 hr
  go_enter Try.func41, Try.ntmps41
  go_upto_region 1 with (fail)
  generalize ((w.alloc (.cells #[.int .i64 st, .slice (some ⟨g1, 0, none⟩) xs.length c1, .slice (some ⟨g2, 0, none⟩) ys.length c2, .slice (some ⟨g3, 0, none⟩) bs.length c3, .slice a4 ps.length c4] 27)).alloc (.cells #[.int .i64 0, .slice none 0 0, .slice none 0 0, .slice none 0 0, .slice none 0 0] 27)) = W at HO HG1 HG2 HG3 HB0 Hs HKd HKz ⊢
  obtain ⟨p0, p1, p2, p3, p4⟩ : W.cell? ⟨w.heap.size, 0, none⟩ = some (.int .i64 st) ∧ W.cell? ⟨w.heap.size, 1, none⟩ = some (.slice (some ⟨g1, 0, none⟩) xs.length c1) ∧ W.cell? ⟨w.heap.size, 2, none⟩ = some (.slice (some ⟨g2, 0, none⟩) ys.length c2) ∧ W.cell? ⟨w.heap.size, 3, none⟩ = some (.slice (some ⟨g3, 0, none⟩) bs.length c3) ∧ W.cell? ⟨w.heap.size, 4, none⟩ = some (.slice a4 ps.length c4) := ⟨(HKd.out.cell 0), (HKd.out.cell 1), (HKd.out.cell 2), (HKd.out.cell 3), (HKd.out.cell 4)⟩
  have i1 : (k : Int) < (xs.length : Int) := by have := Hl1.out; omega
  have i3 : (k : Int) < (bs.length : Int) := by have := Hl3.out; omega
  have i0 : (0 : Int) ≤ (k : Int) := by omega
  obtain ⟨x0, f0, _, _⟩ := own_cell HO.out.1 k (show k < xs.length * 1 by omega)
  rw [txC_get xs k (by omega)] at x0
  obtain ⟨x3, f3, _, _⟩ := own_cell HO.out.2.2.1 k (show k < bs.length * 1 by omega)
  rw [boC_get bs k (by omega)] at x3
  obtain ⟨z0, z1, z2, z3, z4⟩ : W.cell? ⟨w.heap.size + 1, 0, none⟩ = some (.int .i64 0) ∧ W.cell? ⟨w.heap.size + 1, 1, none⟩ = some (.slice none 0 0) ∧ W.cell? ⟨w.heap.size + 1, 2, none⟩ = some (.slice none 0 0) ∧ W.cell? ⟨w.heap.size + 1, 3, none⟩ = some (.slice none 0 0) ∧ W.cell? ⟨w.heap.size + 1, 4, none⟩ = some (.slice none 0 0) := ⟨(HKz.out.cell 0), (HKz.out.cell 1), (HKz.out.cell 2), (HKz.out.cell 3), (HKz.out.cell 4)⟩
  have t0 := HKz.out.frozen 0
  have t1 := HKz.out.frozen 1
  have t2 := HKz.out.frozen 2
  have t3 := HKz.out.frozen 3
  have t4 := HKz.out.frozen 4
  have hs2 : Hid (s2 = turnS (xs.getD k ByteArray.empty) b (c % 256)) := hs2.out
  have hz' := tx_some hcs.1
  have hs3' : bs.getD k false = false := hcs.2
  rw [hs3'] at x3
  simp only at hz' hbs
  generalize xs.getD k ByteArray.empty = s at x0 hz' hbs hs2
  clear hcs hs3'
  obtain ⟨W1, cp, hcv, hce, hfr, HW⟩ := turned_world W s b (bits .xor .u8 (byteAt s b) (c % 256)) hbs
  have ib : (b : Int) < (s.size : Int) := by omega
  have ib0 : (0 : Int) ≤ (b : Int) := by omega
  go_upto_region 5 with (fail)
  generalize W1.setCell ⟨W.heap.size, b, none⟩ (.int .u8 (bits .xor .u8 (byteAt s b) (c % 256))) = V at HW ⊢
  have hBW := HW.out.1
  have hWs := HW.out.2.1
  have cv := conv_at V W.heap.size s b (bits .xor .u8 (byteAt s b) (c % 256)) cp HW.out.2.2
  rw [show withAt s b (bits .xor .u8 (byteAt s b) (c % 256)) = s2 from hs2.out.symm] at cv
  have HO := Lib.hid (HO.out.below hBW)
  have HG1 := Lib.hid (HG1.out.below hBW HG1.out.lt)
  have HG2 := Lib.hid (HG2.out.below hBW HG2.out.lt)
  have HG3 := Lib.hid (HG3.out.below hBW HG3.out.lt)
  have HKd := Lib.hid (HKd.out.below hBW HKd.out.lt)
  have HKz := Lib.hid (HKz.out.below hBW HKz.out.lt)
  have HB1 := Lib.hid (below_trans HB0.out hBW HB0.out.size)

  clear hBW HW hs2 hcv hce hfr p0 p1 p2 p3 p4 x0 x3 f0 f3 z0 z1 z2 z3 z4 t0 t1 t2 t3 t4 HB0
  obtain ⟨p0, p1, p2, p3, p4⟩ : V.cell? ⟨w.heap.size, 0, none⟩ = some (.int .i64 st) ∧ V.cell? ⟨w.heap.size, 1, none⟩ = some (.slice (some ⟨g1, 0, none⟩) xs.length c1) ∧ V.cell? ⟨w.heap.size, 2, none⟩ = some (.slice (some ⟨g2, 0, none⟩) ys.length c2) ∧ V.cell? ⟨w.heap.size, 3, none⟩ = some (.slice (some ⟨g3, 0, none⟩) bs.length c3) ∧ V.cell? ⟨w.heap.size, 4, none⟩ = some (.slice a4 ps.length c4) := ⟨HKd.out.cell 0, HKd.out.cell 1, HKd.out.cell 2, HKd.out.cell 3, HKd.out.cell 4⟩
  obtain ⟨z0, z1, z2, z3, z4⟩ : V.cell? ⟨w.heap.size + 1, 0, none⟩ = some (.int .i64 0) ∧ V.cell? ⟨w.heap.size + 1, 1, none⟩ = some (.slice none 0 0) ∧ V.cell? ⟨w.heap.size + 1, 2, none⟩ = some (.slice none 0 0) ∧ V.cell? ⟨w.heap.size + 1, 3, none⟩ = some (.slice none 0 0) ∧ V.cell? ⟨w.heap.size + 1, 4, none⟩ = some (.slice none 0 0) := ⟨HKz.out.cell 0, HKz.out.cell 1, HKz.out.cell 2, HKz.out.cell 3, HKz.out.cell 4⟩
  have t0 := HKz.out.frozen 0
  have t1 := HKz.out.frozen 1
  have t2 := HKz.out.frozen 2
  have t3 := HKz.out.frozen 3
  have t4 := HKz.out.frozen 4
  obtain ⟨x0, f0, _, _⟩ := own_cell HO.out.1 k (show k < xs.length * 1 by omega)
  rw [txC_get xs k (by omega)] at x0
  obtain ⟨x3, f3, _, _⟩ := own_cell HO.out.2.2.1 k (show k < bs.length * 1 by omega)
  rw [boC_get bs k (by omega)] at x3
  generalize xs.getD k ByteArray.empty = y0 at x0
  generalize bs.getD k false = y3 at x3
  have hg31 : g3 ≠ g1 := fun e => by rw [e] at HG3; exact absurd (HG3.out.type HG1.out) (by decide)
  have hg13 : g1 ≠ g3 := fun e => hg31 e.symm
  go_wp2
  have hHs := Hs.out
  refine bodyPost_ret (v := .agg #[.int .i64 st, .slice (some ⟨g1, 0, none⟩) xs.length c1, .slice (some ⟨g2, 0, none⟩) ys.length c2, .slice (some ⟨g3, 0, none⟩) bs.length c3, .slice a4 ps.length c4]) (by simp [results, Try.results41, go_sem, z0, z1, z2, z3, z4]) rfl ⟨_, rfl, ⟨_, _, _, _, rfl, ?_⟩, ?_, ?_⟩
  · have n2 : (Value.slice (some ⟨g2, 0, none⟩) ys.length c2).ownBlock ≠ some g1 := HO.out.2.2.2.2 g1 rfl
    have h1 : Own4 (V.setCell ⟨g1, k, none⟩ (.string s2)) base _ _ _ _ ⟨st, xs.set k s2, ys, bs, ps⟩ := ⟨OwnTx.set HO.out.1 rfl k s2, own_other HO.out.2.1 _ _ _ n2, own_other HO.out.2.2.1 _ _ _ (own_blk_ne HO.out.2.2.1 HG1.out (by decide)), own_other HO.out.2.2.2.1 _ _ _ (own_blk_ne HO.out.2.2.2.1 HG1.out (by decide)), HO.out.2.2.2.2⟩
    have hg3' := HG3.out.other g1 k (.string s2) hg13
    have h : Own4 ((V.setCell ⟨g1, k, none⟩ (.string s2)).setCell ⟨g3, k, none⟩ (.bool true)) base _ _ _ _ ⟨st, xs.set k s2, ys, bs.set k true, ps⟩ := ⟨own_other h1.1 _ _ _ (own_blk_ne h1.1 hg3' (by decide)), own_other h1.2.1 _ _ _ (own_blk_ne h1.2.1 hg3' (by decide)), OwnBo.set h1.2.2.1 rfl k true, own_other h1.2.2.2.1 _ _ _ (own_blk_ne h1.2.2.2.1 hg3' (by decide)), h1.2.2.2.2⟩
    have hz := (HKz.out.other g1 k (.string s2) (by omega)).other g3 k (.bool true) (by omega)
    exact own4_sets h hz
  · exact sets_below (((HB1.out.mono hb).setCell (p := ⟨g1, k, none⟩) hbg1 _).setCell (p := ⟨g3, k, none⟩) hbg3 _) (by omega)
  · intro E cs t n1 n2 hE
    have hEl := hE.lt
    have hE0 := hE.below HB1.out hEl
    have hne : g1 ≠ E := fun e => by rw [e] at HG1; exact n1 (HG1.out.type hE0)
    have hne3 : g3 ≠ E := fun e => by rw [e] at HG3; exact n2 (HG3.out.type hE0)
    exact ((((((hE0.other g1 _ _ hne).other g3 _ _ hne3).other _ _ _ (by omega)).other _ _ _ (by omega)).other _ _ _ (by omega)).other _ _ _ (by omega)).other _ _ _ (by omega)

theorem l3Spoil_any (base : Nat) (v1 v2 v3 v4 : Value) (d : DiskD) (k b : Nat) (c : Int) (w : World) (hb : base ≤ w.heap.size) (hr : HasRows d) (hk : k < 12) (hbs : CanSpoil d k → b < (d.slots.getD k ByteArray.empty).size) (ho : Own4 w base v1 v2 v3 v4 d) :
    Calls Try.prog 41 #[.agg #[.int .i64 d.state, v1, v2, v3, v4], .int .i64 (k : Int), .int .i64 (b : Int), .int .i64 c] w fun e w' => ∃ v, e = .returned v ∧ OwnDisk w' base v (spoilD d k b (c % 256)) ∧ Below base w w' ∧ OthersS w w' := by
  by_cases h : CanSpoil d k
  · rw [spoil_yes h]
    exact l3Spoil_on base v1 v2 v3 v4 d k b c w hb hr hk h (hbs h) ho
  · rw [spoil_no h]
    by_cases hz : (d.slots.getD k ByteArray.empty).size = 0
    · exact l3Spoil_empty base v1 v2 v3 v4 d k b c w hb hr hk hz ho
    · refine l3Spoil_spoilt base v1 v2 v3 v4 d k b c w hb hr hk hz ?_ ho
      cases hs : d.spoilt.getD k false
      · exact absurd ⟨hz, hs⟩ h
      · rfl

end Go.Proofs.Ytifgoanicbaohaa

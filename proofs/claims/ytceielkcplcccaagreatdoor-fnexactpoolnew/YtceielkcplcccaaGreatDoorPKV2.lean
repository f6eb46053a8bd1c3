/- A write that comes, of the specification. Conditions: the write is one, and the disk has all that it must. -/
import Derived.Test.YtceielkcplcccaaGreatDoorPKV1
import Derived.Deep.DeepCutAuto
namespace Go.Proofs.YtceielkcplcccaaGreatDoor
open Go.RowKit Go.Sort Go.Shelf

/-- BLOCKS that are no rows of texts or of truth values stay. -/
def OthersS (w w' : World) : Prop := ∀ (D : Nat) (cs : Array Value) (t : TypeId), 9 ≠ t → 4 ≠ t → Blk w D cs t → Blk w' D cs t

set_option maxRecDepth 100000 in
set_option maxHeartbeats 2000000 in
theorem l3ComeRing (base : Nat) (v1 v2 v3 v4 : Value) (d : DiskD) (k : Nat) (s : ByteArray) (w : World) (hb : base ≤ w.heap.size) (hr : HasRows d) (hk : k < 2) (ho : Own4 w base v1 v2 v3 v4 d) :
    Calls Tryz.prog 11 #[.agg #[.int .i64 d.state, v1, v2, v3, v4], .agg #[.bool true, .int .i64 (k : Int), .string s]] w fun e w' => e = .returned (.agg #[.int .i64 d.state, v1, v2, v3, v4]) ∧ Own4 w' base v1 v2 v3 v4 ⟨d.state, d.slots, d.rings.set k s, d.spoilt, d.wait⟩ ∧ Below base w w' ∧ OthersS w w' := by
  obtain ⟨st, xs, ys, bs, ps⟩ := d
  have hl1 : xs.length = 12 := hr.1
  have hl2 : ys.length = 2 := hr.2.1
  have hl3 : bs.length = 12 := hr.2.2
  obtain ⟨g1, c1, cur1, rfl, hbg1, hG1⟩ := own_form ho.1 (show xs.length ≠ 0 by omega)
  obtain ⟨g2, c2, cur2, rfl, hbg2, hG2⟩ := own_form ho.2.1 (show ys.length ≠ 0 by omega)
  obtain ⟨g3, c3, cur3, rfl, hbg3, hG3⟩ := own_form ho.2.2.1 (show bs.length ≠ 0 by omega)
  obtain ⟨a4, c4, rfl, _⟩ := OwnPu.reads ho.2.2.2.1
  simp only at ho ⊢
  have hB0 : Below w.heap.size w (((w.alloc (.cells #[.int .i64 st, .slice (some ⟨g1, 0, none⟩) xs.length c1, .slice (some ⟨g2, 0, none⟩) ys.length c2, .slice (some ⟨g3, 0, none⟩) bs.length c3, .slice a4 ps.length c4] 37)).alloc (.cells #[.bool true, .int .i64 (k : Int), .string s] 41)).alloc (.cells #[.int .i64 0, .slice none 0 0, .slice none 0 0, .slice none 0 0, .slice none 0 0] 37)) := (((Below.refl _ _).alloc (Nat.le_refl _) _).alloc (by simp) _).alloc (by simp; omega) _
  have hs : (((w.alloc (.cells #[.int .i64 st, .slice (some ⟨g1, 0, none⟩) xs.length c1, .slice (some ⟨g2, 0, none⟩) ys.length c2, .slice (some ⟨g3, 0, none⟩) bs.length c3, .slice a4 ps.length c4] 37)).alloc (.cells #[.bool true, .int .i64 (k : Int), .string s] 41)).alloc (.cells #[.int .i64 0, .slice none 0 0, .slice none 0 0, .slice none 0 0, .slice none 0 0] 37)).heap.size = w.heap.size + 3 := by simp
  have hKd : Blk (((w.alloc (.cells #[.int .i64 st, .slice (some ⟨g1, 0, none⟩) xs.length c1, .slice (some ⟨g2, 0, none⟩) ys.length c2, .slice (some ⟨g3, 0, none⟩) bs.length c3, .slice a4 ps.length c4] 37)).alloc (.cells #[.bool true, .int .i64 (k : Int), .string s] 41)).alloc (.cells #[.int .i64 0, .slice none 0 0, .slice none 0 0, .slice none 0 0, .slice none 0 0] 37)) w.heap.size #[.int .i64 st, .slice (some ⟨g1, 0, none⟩) xs.length c1, .slice (some ⟨g2, 0, none⟩) ys.length c2, .slice (some ⟨g3, 0, none⟩) bs.length c3, .slice a4 ps.length c4] 37 := ((Blk.new w _ _).below (n := w.heap.size + 1) ((Below.refl _ _).alloc (by simp) _) (by omega)).below (n := w.heap.size + 1) ((Below.refl _ _).alloc (by simp) _) (by omega)
  have hKp : Blk (((w.alloc (.cells #[.int .i64 st, .slice (some ⟨g1, 0, none⟩) xs.length c1, .slice (some ⟨g2, 0, none⟩) ys.length c2, .slice (some ⟨g3, 0, none⟩) bs.length c3, .slice a4 ps.length c4] 37)).alloc (.cells #[.bool true, .int .i64 (k : Int), .string s] 41)).alloc (.cells #[.int .i64 0, .slice none 0 0, .slice none 0 0, .slice none 0 0, .slice none 0 0] 37)) (w.heap.size + 1) #[.bool true, .int .i64 (k : Int), .string s] 41 := by
    have := Blk.new (w.alloc (.cells #[.int .i64 st, .slice (some ⟨g1, 0, none⟩) xs.length c1, .slice (some ⟨g2, 0, none⟩) ys.length c2, .slice (some ⟨g3, 0, none⟩) bs.length c3, .slice a4 ps.length c4] 37)) #[.bool true, .int .i64 (k : Int), .string s] 41
    rw [World.size_alloc] at this
    exact this.below (n := w.heap.size + 2) ((Below.refl _ _).alloc (by simp) _) (by omega)
  have hKz : Blk (((w.alloc (.cells #[.int .i64 st, .slice (some ⟨g1, 0, none⟩) xs.length c1, .slice (some ⟨g2, 0, none⟩) ys.length c2, .slice (some ⟨g3, 0, none⟩) bs.length c3, .slice a4 ps.length c4] 37)).alloc (.cells #[.bool true, .int .i64 (k : Int), .string s] 41)).alloc (.cells #[.int .i64 0, .slice none 0 0, .slice none 0 0, .slice none 0 0, .slice none 0 0] 37)) (w.heap.size + 2) #[.int .i64 0, .slice none 0 0, .slice none 0 0, .slice none 0 0, .slice none 0 0] 37 := by
    have := Blk.new ((w.alloc (.cells #[.int .i64 st, .slice (some ⟨g1, 0, none⟩) xs.length c1, .slice (some ⟨g2, 0, none⟩) ys.length c2, .slice (some ⟨g3, 0, none⟩) bs.length c3, .slice a4 ps.length c4] 37)).alloc (.cells #[.bool true, .int .i64 (k : Int), .string s] 41)) #[.int .i64 0, .slice none 0 0, .slice none 0 0, .slice none 0 0, .slice none 0 0] 37
    rw [World.size_alloc, World.size_alloc] at this
    exact this
  have HO := Lib.hid (ho.below hB0)
  have HG1 := Lib.hid (hG1.below hB0 hG1.lt)
  have HG2 := Lib.hid (hG2.below hB0 hG2.lt)
  have HG3 := Lib.hid (hG3.below hB0 hG3.lt)
  have hlt1 := hG1.lt
  have hlt2 := hG2.lt
  have hlt3 := hG3.lt
  have hi1 : (k : Int) < (xs.length : Int) ∨ True := .inr trivial
  have Hl1 := Lib.hid hl1
  have Hl2 := Lib.hid hl2
  have Hl3 := Lib.hid hl3
  have HB0 := Lib.hid hB0
  have Hs := Lib.hid hs
  have HKd := Lib.hid hKd
  have HKz := Lib.hid hKz
  have HKp := Lib.hid hKp
  clear ho hG1 hG2 hG3 hB0 hs hKd hKp hKz hl1 hl2 hl3 hr hi1
  go_enter Tryz.func11, Tryz.ntmps11
  go_upto_region 1 with (fail)
  generalize (((w.alloc (.cells #[.int .i64 st, .slice (some ⟨g1, 0, none⟩) xs.length c1, .slice (some ⟨g2, 0, none⟩) ys.length c2, .slice (some ⟨g3, 0, none⟩) bs.length c3, .slice a4 ps.length c4] 37)).alloc (.cells #[.bool true, .int .i64 (k : Int), .string s] 41)).alloc (.cells #[.int .i64 0, .slice none 0 0, .slice none 0 0, .slice none 0 0, .slice none 0 0] 37)) = W at HO HG1 HG2 HG3 HB0 Hs HKd HKz HKp ⊢
  obtain ⟨p0, p1, p2, p3, p4⟩ : W.cell? ⟨w.heap.size, 0, none⟩ = some (.int .i64 st) ∧ W.cell? ⟨w.heap.size, 1, none⟩ = some (.slice (some ⟨g1, 0, none⟩) xs.length c1) ∧ W.cell? ⟨w.heap.size, 2, none⟩ = some (.slice (some ⟨g2, 0, none⟩) ys.length c2) ∧ W.cell? ⟨w.heap.size, 3, none⟩ = some (.slice (some ⟨g3, 0, none⟩) bs.length c3) ∧ W.cell? ⟨w.heap.size, 4, none⟩ = some (.slice a4 ps.length c4) := ⟨(HKd.out.cell 0), (HKd.out.cell 1), (HKd.out.cell 2), (HKd.out.cell 3), (HKd.out.cell 4)⟩
  obtain ⟨q0, q1, q2⟩ : W.cell? ⟨w.heap.size + 1, 0, none⟩ = some (.bool true) ∧ W.cell? ⟨w.heap.size + 1, 1, none⟩ = some (.int .i64 (k : Int)) ∧ W.cell? ⟨w.heap.size + 1, 2, none⟩ = some (.string s) := ⟨HKp.out.cell 0, HKp.out.cell 1, HKp.out.cell 2⟩
  obtain ⟨z0, z1, z2, z3, z4⟩ : W.cell? ⟨w.heap.size + 2, 0, none⟩ = some (.int .i64 0) ∧ W.cell? ⟨w.heap.size + 2, 1, none⟩ = some (.slice none 0 0) ∧ W.cell? ⟨w.heap.size + 2, 2, none⟩ = some (.slice none 0 0) ∧ W.cell? ⟨w.heap.size + 2, 3, none⟩ = some (.slice none 0 0) ∧ W.cell? ⟨w.heap.size + 2, 4, none⟩ = some (.slice none 0 0) := ⟨(HKz.out.cell 0), (HKz.out.cell 1), (HKz.out.cell 2), (HKz.out.cell 3), (HKz.out.cell 4)⟩
  have t0 := HKz.out.frozen 0
  have t1 := HKz.out.frozen 1
  have t2 := HKz.out.frozen 2
  have t3 := HKz.out.frozen 3
  have t4 := HKz.out.frozen 4
  have i1 : (k : Int) < (ys.length : Int) := by have := Hl2.out; omega
  have i0 : (0 : Int) ≤ (k : Int) := by omega
  obtain ⟨x0, f0, _, _⟩ := own_cell HO.out.2.1 k (show k < ys.length * 1 by omega)
  rw [txC_get ys k (by omega)] at x0
  generalize ys.getD k ByteArray.empty = y0 at x0
  go_wp2
  refine bodyPost_ret (v := .agg #[.int .i64 st, .slice (some ⟨g1, 0, none⟩) xs.length c1, .slice (some ⟨g2, 0, none⟩) ys.length c2, .slice (some ⟨g3, 0, none⟩) bs.length c3, .slice a4 ps.length c4]) (by simp [results, Tryz.results11, go_sem, z0, z1, z2, z3, z4]) rfl ⟨rfl, ?_, ?_, ?_⟩
  · have n1 : (Value.slice (some ⟨g1, 0, none⟩) xs.length c1).ownBlock ≠ some g2 := fun e => HO.out.2.2.2.2 g2 e rfl
    have h : Own4 (W.setCell ⟨g2, k, none⟩ (.string s)) base _ _ _ _ ⟨st, xs, ys.set k s, bs, ps⟩ := ⟨own_other HO.out.1 _ _ _ n1, OwnTx.set HO.out.2.1 rfl k s, own_other HO.out.2.2.1 _ _ _ (own_blk_ne HO.out.2.2.1 HG2.out (by decide)), own_other HO.out.2.2.2.1 _ _ _ (own_blk_ne HO.out.2.2.2.1 HG2.out (by decide)), HO.out.2.2.2.2⟩
    have hz := HKz.out.other g2 k (.string s) (by omega)
    have st5 : ∀ (W9 : World) cs o u, Blk W9 (w.heap.size + 2) cs 37 → Own4 W9 base (.slice (some ⟨g1, 0, none⟩) xs.length c1) (.slice (some ⟨g2, 0, none⟩) ys.length c2) (.slice (some ⟨g3, 0, none⟩) bs.length c3) (.slice a4 ps.length c4) ⟨st, xs, ys.set k s, bs, ps⟩ → Own4 (W9.setCell ⟨w.heap.size + 2, o, none⟩ u) base (.slice (some ⟨g1, 0, none⟩) xs.length c1) (.slice (some ⟨g2, 0, none⟩) ys.length c2) (.slice (some ⟨g3, 0, none⟩) bs.length c3) (.slice a4 ps.length c4) ⟨st, xs, ys.set k s, bs, ps⟩ := fun W9 cs o u hk h => ⟨own_other h.1 _ _ _ (own_blk_ne h.1 hk (by decide)), own_other h.2.1 _ _ _ (own_blk_ne h.2.1 hk (by decide)), own_other h.2.2.1 _ _ _ (own_blk_ne h.2.2.1 hk (by decide)), own_other h.2.2.2.1 _ _ _ (own_blk_ne h.2.2.2.1 hk (by decide)), h.2.2.2.2⟩
    exact st5 _ _ _ _ ((((hz.set 0 _).set 1 _).set 2 _).set 3 _) (st5 _ _ _ _ (((hz.set 0 _).set 1 _).set 2 _) (st5 _ _ _ _ ((hz.set 0 _).set 1 _) (st5 _ _ _ _ (hz.set 0 _) (st5 _ _ _ _ hz h))))
  · exact ((((((HB0.out.mono hb).setCell (p := ⟨g2, k, none⟩) hbg2 _).setCell (p := ⟨w.heap.size + 2, 0, none⟩) (by simp; omega) _).setCell (p := ⟨w.heap.size + 2, 1, none⟩) (by simp; omega) _).setCell (p := ⟨w.heap.size + 2, 2, none⟩) (by simp; omega) _).setCell (p := ⟨w.heap.size + 2, 3, none⟩) (by simp; omega) _).setCell (p := ⟨w.heap.size + 2, 4, none⟩) (by simp; omega) _
  · intro E cs t n1 n2 hE
    have hEl := hE.lt
    have hE0 := hE.below HB0.out hEl
    have hne : g2 ≠ E := fun e => by rw [e] at HG2; exact n1 (HG2.out.type hE0)
    exact (((((hE0.other g2 _ _ hne).other _ _ _ (by omega)).other _ _ _ (by omega)).other _ _ _ (by omega)).other _ _ _ (by omega)).other _ _ _ (by omega)

set_option maxRecDepth 100000 in
set_option maxHeartbeats 2000000 in
theorem l3ComeSlot (base : Nat) (v1 v2 v3 v4 : Value) (d : DiskD) (k : Nat) (s : ByteArray) (w : World) (hb : base ≤ w.heap.size) (hr : HasRows d) (hk : k < 12) (ho : Own4 w base v1 v2 v3 v4 d) :
    Calls Tryz.prog 11 #[.agg #[.int .i64 d.state, v1, v2, v3, v4], .agg #[.bool false, .int .i64 (k : Int), .string s]] w fun e w' => e = .returned (.agg #[.int .i64 d.state, v1, v2, v3, v4]) ∧ Own4 w' base v1 v2 v3 v4 ⟨d.state, d.slots.set k s, d.rings, d.spoilt.set k false, d.wait⟩ ∧ Below base w w' ∧ OthersS w w' := by
  obtain ⟨st, xs, ys, bs, ps⟩ := d
  have hl1 : xs.length = 12 := hr.1
  have hl2 : ys.length = 2 := hr.2.1
  have hl3 : bs.length = 12 := hr.2.2
  obtain ⟨g1, c1, cur1, rfl, hbg1, hG1⟩ := own_form ho.1 (show xs.length ≠ 0 by omega)
  obtain ⟨g2, c2, cur2, rfl, hbg2, hG2⟩ := own_form ho.2.1 (show ys.length ≠ 0 by omega)
  obtain ⟨g3, c3, cur3, rfl, hbg3, hG3⟩ := own_form ho.2.2.1 (show bs.length ≠ 0 by omega)
  obtain ⟨a4, c4, rfl, _⟩ := OwnPu.reads ho.2.2.2.1
  simp only at ho ⊢
  have hB0 : Below w.heap.size w (((w.alloc (.cells #[.int .i64 st, .slice (some ⟨g1, 0, none⟩) xs.length c1, .slice (some ⟨g2, 0, none⟩) ys.length c2, .slice (some ⟨g3, 0, none⟩) bs.length c3, .slice a4 ps.length c4] 37)).alloc (.cells #[.bool false, .int .i64 (k : Int), .string s] 41)).alloc (.cells #[.int .i64 0, .slice none 0 0, .slice none 0 0, .slice none 0 0, .slice none 0 0] 37)) := (((Below.refl _ _).alloc (Nat.le_refl _) _).alloc (by simp) _).alloc (by simp; omega) _
  have hs : (((w.alloc (.cells #[.int .i64 st, .slice (some ⟨g1, 0, none⟩) xs.length c1, .slice (some ⟨g2, 0, none⟩) ys.length c2, .slice (some ⟨g3, 0, none⟩) bs.length c3, .slice a4 ps.length c4] 37)).alloc (.cells #[.bool false, .int .i64 (k : Int), .string s] 41)).alloc (.cells #[.int .i64 0, .slice none 0 0, .slice none 0 0, .slice none 0 0, .slice none 0 0] 37)).heap.size = w.heap.size + 3 := by simp
  have hKd : Blk (((w.alloc (.cells #[.int .i64 st, .slice (some ⟨g1, 0, none⟩) xs.length c1, .slice (some ⟨g2, 0, none⟩) ys.length c2, .slice (some ⟨g3, 0, none⟩) bs.length c3, .slice a4 ps.length c4] 37)).alloc (.cells #[.bool false, .int .i64 (k : Int), .string s] 41)).alloc (.cells #[.int .i64 0, .slice none 0 0, .slice none 0 0, .slice none 0 0, .slice none 0 0] 37)) w.heap.size #[.int .i64 st, .slice (some ⟨g1, 0, none⟩) xs.length c1, .slice (some ⟨g2, 0, none⟩) ys.length c2, .slice (some ⟨g3, 0, none⟩) bs.length c3, .slice a4 ps.length c4] 37 := ((Blk.new w _ _).below (n := w.heap.size + 1) ((Below.refl _ _).alloc (by simp) _) (by omega)).below (n := w.heap.size + 1) ((Below.refl _ _).alloc (by simp) _) (by omega)
  have hKp : Blk (((w.alloc (.cells #[.int .i64 st, .slice (some ⟨g1, 0, none⟩) xs.length c1, .slice (some ⟨g2, 0, none⟩) ys.length c2, .slice (some ⟨g3, 0, none⟩) bs.length c3, .slice a4 ps.length c4] 37)).alloc (.cells #[.bool false, .int .i64 (k : Int), .string s] 41)).alloc (.cells #[.int .i64 0, .slice none 0 0, .slice none 0 0, .slice none 0 0, .slice none 0 0] 37)) (w.heap.size + 1) #[.bool false, .int .i64 (k : Int), .string s] 41 := by
    have := Blk.new (w.alloc (.cells #[.int .i64 st, .slice (some ⟨g1, 0, none⟩) xs.length c1, .slice (some ⟨g2, 0, none⟩) ys.length c2, .slice (some ⟨g3, 0, none⟩) bs.length c3, .slice a4 ps.length c4] 37)) #[.bool false, .int .i64 (k : Int), .string s] 41
    rw [World.size_alloc] at this
    exact this.below (n := w.heap.size + 2) ((Below.refl _ _).alloc (by simp) _) (by omega)
  have hKz : Blk (((w.alloc (.cells #[.int .i64 st, .slice (some ⟨g1, 0, none⟩) xs.length c1, .slice (some ⟨g2, 0, none⟩) ys.length c2, .slice (some ⟨g3, 0, none⟩) bs.length c3, .slice a4 ps.length c4] 37)).alloc (.cells #[.bool false, .int .i64 (k : Int), .string s] 41)).alloc (.cells #[.int .i64 0, .slice none 0 0, .slice none 0 0, .slice none 0 0, .slice none 0 0] 37)) (w.heap.size + 2) #[.int .i64 0, .slice none 0 0, .slice none 0 0, .slice none 0 0, .slice none 0 0] 37 := by
    have := Blk.new ((w.alloc (.cells #[.int .i64 st, .slice (some ⟨g1, 0, none⟩) xs.length c1, .slice (some ⟨g2, 0, none⟩) ys.length c2, .slice (some ⟨g3, 0, none⟩) bs.length c3, .slice a4 ps.length c4] 37)).alloc (.cells #[.bool false, .int .i64 (k : Int), .string s] 41)) #[.int .i64 0, .slice none 0 0, .slice none 0 0, .slice none 0 0, .slice none 0 0] 37
    rw [World.size_alloc, World.size_alloc] at this
    exact this
  have HO := Lib.hid (ho.below hB0)
  have HG1 := Lib.hid (hG1.below hB0 hG1.lt)
  have HG2 := Lib.hid (hG2.below hB0 hG2.lt)
  have HG3 := Lib.hid (hG3.below hB0 hG3.lt)
  have hlt1 := hG1.lt
  have hlt2 := hG2.lt
  have hlt3 := hG3.lt
  have hi1 : (k : Int) < (xs.length : Int) ∨ True := .inr trivial
  have Hl1 := Lib.hid hl1
  have Hl2 := Lib.hid hl2
  have Hl3 := Lib.hid hl3
  have HB0 := Lib.hid hB0
  have Hs := Lib.hid hs
  have HKd := Lib.hid hKd
  have HKz := Lib.hid hKz
  have HKp := Lib.hid hKp
  clear ho hG1 hG2 hG3 hB0 hs hKd hKp hKz hl1 hl2 hl3 hr hi1
  go_enter Tryz.func11, Tryz.ntmps11
  go_upto_region 1 with (fail)
  generalize (((w.alloc (.cells #[.int .i64 st, .slice (some ⟨g1, 0, none⟩) xs.length c1, .slice (some ⟨g2, 0, none⟩) ys.length c2, .slice (some ⟨g3, 0, none⟩) bs.length c3, .slice a4 ps.length c4] 37)).alloc (.cells #[.bool false, .int .i64 (k : Int), .string s] 41)).alloc (.cells #[.int .i64 0, .slice none 0 0, .slice none 0 0, .slice none 0 0, .slice none 0 0] 37)) = W at HO HG1 HG2 HG3 HB0 Hs HKd HKz HKp ⊢
  obtain ⟨p0, p1, p2, p3, p4⟩ : W.cell? ⟨w.heap.size, 0, none⟩ = some (.int .i64 st) ∧ W.cell? ⟨w.heap.size, 1, none⟩ = some (.slice (some ⟨g1, 0, none⟩) xs.length c1) ∧ W.cell? ⟨w.heap.size, 2, none⟩ = some (.slice (some ⟨g2, 0, none⟩) ys.length c2) ∧ W.cell? ⟨w.heap.size, 3, none⟩ = some (.slice (some ⟨g3, 0, none⟩) bs.length c3) ∧ W.cell? ⟨w.heap.size, 4, none⟩ = some (.slice a4 ps.length c4) := ⟨(HKd.out.cell 0), (HKd.out.cell 1), (HKd.out.cell 2), (HKd.out.cell 3), (HKd.out.cell 4)⟩
  obtain ⟨q0, q1, q2⟩ : W.cell? ⟨w.heap.size + 1, 0, none⟩ = some (.bool false) ∧ W.cell? ⟨w.heap.size + 1, 1, none⟩ = some (.int .i64 (k : Int)) ∧ W.cell? ⟨w.heap.size + 1, 2, none⟩ = some (.string s) := ⟨HKp.out.cell 0, HKp.out.cell 1, HKp.out.cell 2⟩
  obtain ⟨z0, z1, z2, z3, z4⟩ : W.cell? ⟨w.heap.size + 2, 0, none⟩ = some (.int .i64 0) ∧ W.cell? ⟨w.heap.size + 2, 1, none⟩ = some (.slice none 0 0) ∧ W.cell? ⟨w.heap.size + 2, 2, none⟩ = some (.slice none 0 0) ∧ W.cell? ⟨w.heap.size + 2, 3, none⟩ = some (.slice none 0 0) ∧ W.cell? ⟨w.heap.size + 2, 4, none⟩ = some (.slice none 0 0) := ⟨(HKz.out.cell 0), (HKz.out.cell 1), (HKz.out.cell 2), (HKz.out.cell 3), (HKz.out.cell 4)⟩
  have t0 := HKz.out.frozen 0
  have t1 := HKz.out.frozen 1
  have t2 := HKz.out.frozen 2
  have t3 := HKz.out.frozen 3
  have t4 := HKz.out.frozen 4
  have i1 : (k : Int) < (xs.length : Int) := by have := Hl1.out; omega
  have i3 : (k : Int) < (bs.length : Int) := by have := Hl3.out; omega
  have i0 : (0 : Int) ≤ (k : Int) := by omega
  obtain ⟨x0, f0, _, _⟩ := own_cell HO.out.1 k (show k < xs.length * 1 by omega)
  rw [txC_get xs k (by omega)] at x0
  obtain ⟨x3, f3, _, _⟩ := own_cell HO.out.2.2.1 k (show k < bs.length * 1 by omega)
  rw [boC_get bs k (by omega)] at x3
  generalize xs.getD k ByteArray.empty = y0 at x0
  generalize bs.getD k false = y3 at x3
  have hg31 : g3 ≠ g1 := fun e => by rw [e] at HG3; exact absurd (HG3.out.type HG1.out) (by decide)
  have hg13 : g1 ≠ g3 := fun e => hg31 e.symm
  go_wp2
  refine bodyPost_ret (v := .agg #[.int .i64 st, .slice (some ⟨g1, 0, none⟩) xs.length c1, .slice (some ⟨g2, 0, none⟩) ys.length c2, .slice (some ⟨g3, 0, none⟩) bs.length c3, .slice a4 ps.length c4]) (by simp [results, Tryz.results11, go_sem, z0, z1, z2, z3, z4]) rfl ⟨rfl, ?_, ?_, ?_⟩
  · have n2 : (Value.slice (some ⟨g2, 0, none⟩) ys.length c2).ownBlock ≠ some g1 := HO.out.2.2.2.2 g1 rfl
    have h1 : Own4 (W.setCell ⟨g1, k, none⟩ (.string s)) base _ _ _ _ ⟨st, xs.set k s, ys, bs, ps⟩ := ⟨OwnTx.set HO.out.1 rfl k s, own_other HO.out.2.1 _ _ _ n2, own_other HO.out.2.2.1 _ _ _ (own_blk_ne HO.out.2.2.1 HG1.out (by decide)), own_other HO.out.2.2.2.1 _ _ _ (own_blk_ne HO.out.2.2.2.1 HG1.out (by decide)), HO.out.2.2.2.2⟩
    have hg3' := HG3.out.other g1 k (.string s) hg13
    have h : Own4 ((W.setCell ⟨g1, k, none⟩ (.string s)).setCell ⟨g3, k, none⟩ (.bool false)) base _ _ _ _ ⟨st, xs.set k s, ys, bs.set k false, ps⟩ := ⟨own_other h1.1 _ _ _ (own_blk_ne h1.1 hg3' (by decide)), own_other h1.2.1 _ _ _ (own_blk_ne h1.2.1 hg3' (by decide)), OwnBo.set h1.2.2.1 rfl k false, own_other h1.2.2.2.1 _ _ _ (own_blk_ne h1.2.2.2.1 hg3' (by decide)), h1.2.2.2.2⟩
    have hz := (HKz.out.other g1 k (.string s) (by omega)).other g3 k (.bool false) (by omega)
    have st5 : ∀ (W9 : World) cs o u, Blk W9 (w.heap.size + 2) cs 37 → Own4 W9 base (.slice (some ⟨g1, 0, none⟩) xs.length c1) (.slice (some ⟨g2, 0, none⟩) ys.length c2) (.slice (some ⟨g3, 0, none⟩) bs.length c3) (.slice a4 ps.length c4) ⟨st, xs.set k s, ys, bs.set k false, ps⟩ → Own4 (W9.setCell ⟨w.heap.size + 2, o, none⟩ u) base (.slice (some ⟨g1, 0, none⟩) xs.length c1) (.slice (some ⟨g2, 0, none⟩) ys.length c2) (.slice (some ⟨g3, 0, none⟩) bs.length c3) (.slice a4 ps.length c4) ⟨st, xs.set k s, ys, bs.set k false, ps⟩ := fun W9 cs o u hk h => ⟨own_other h.1 _ _ _ (own_blk_ne h.1 hk (by decide)), own_other h.2.1 _ _ _ (own_blk_ne h.2.1 hk (by decide)), own_other h.2.2.1 _ _ _ (own_blk_ne h.2.2.1 hk (by decide)), own_other h.2.2.2.1 _ _ _ (own_blk_ne h.2.2.2.1 hk (by decide)), h.2.2.2.2⟩
    exact st5 _ _ _ _ ((((hz.set 0 _).set 1 _).set 2 _).set 3 _) (st5 _ _ _ _ (((hz.set 0 _).set 1 _).set 2 _) (st5 _ _ _ _ ((hz.set 0 _).set 1 _) (st5 _ _ _ _ (hz.set 0 _) (st5 _ _ _ _ hz h))))
  · exact (((((((HB0.out.mono hb).setCell (p := ⟨g1, k, none⟩) hbg1 _).setCell (p := ⟨g3, k, none⟩) hbg3 _).setCell (p := ⟨w.heap.size + 2, 0, none⟩) (by simp; omega) _).setCell (p := ⟨w.heap.size + 2, 1, none⟩) (by simp; omega) _).setCell (p := ⟨w.heap.size + 2, 2, none⟩) (by simp; omega) _).setCell (p := ⟨w.heap.size + 2, 3, none⟩) (by simp; omega) _).setCell (p := ⟨w.heap.size + 2, 4, none⟩) (by simp; omega) _
  · intro E cs t n1 n2 hE
    have hEl := hE.lt
    have hE0 := hE.below HB0.out hEl
    have hne : g1 ≠ E := fun e => by rw [e] at HG1; exact n1 (HG1.out.type hE0)
    have hne3 : g3 ≠ E := fun e => by rw [e] at HG3; exact n2 (HG3.out.type hE0)
    exact ((((((hE0.other g1 _ _ hne).other g3 _ _ hne3).other _ _ _ (by omega)).other _ _ _ (by omega)).other _ _ _ (by omega)).other _ _ _ (by omega)).other _ _ _ (by omega)

theorem l3Come_any (base : Nat) (v1 v2 v3 v4 : Value) (d : DiskD) (p : PutD) (w : World) (hb : base ≤ w.heap.size) (hr : HasRows d) (hp : PutOk p) (ho : Own4 w base v1 v2 v3 v4 d) :
    Calls Tryz.prog 11 #[.agg #[.int .i64 d.state, v1, v2, v3, v4], .agg #[.bool p.ring, .int .i64 p.pos, .string p.text]] w fun e w' => e = .returned (.agg #[.int .i64 d.state, v1, v2, v3, v4]) ∧ Own4 w' base v1 v2 v3 v4 (comeD d p) ∧ Below base w w' ∧ OthersS w w' := by
  obtain ⟨r, z, s⟩ := p
  cases r
  · have hp' : SlotOk z ∧ s.size = 3 := by simpa [PutOk] using hp
    obtain ⟨k, rfl⟩ := Int.eq_ofNat_of_zero_le hp'.1.1
    have := hp'.1.2
    exact l3ComeSlot base v1 v2 v3 v4 d k s w hb hr (by omega) ho
  · have hp' : (0 ≤ z ∧ z ≤ 1) ∧ s.size ≤ 700 := by simpa [PutOk] using hp
    obtain ⟨k, rfl⟩ := Int.eq_ofNat_of_zero_le hp'.1.1
    have := hp'.1.2
    exact l3ComeRing base v1 v2 v3 v4 d k s w hb hr (by omega) ho

end Go.Proofs.YtceielkcplcccaaGreatDoor

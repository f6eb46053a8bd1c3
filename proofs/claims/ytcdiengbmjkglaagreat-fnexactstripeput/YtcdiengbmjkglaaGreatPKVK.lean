/- A write of the specification: nothing but the disk's own rows turns. Conditions: the disk is ok. -/
import Derived.Test.YtcdiengbmjkglaaGreatPKV5
namespace Go.Proofs.YtcdiengbmjkglaaGreat
open Go.RowKit Go.Sort Go.Shelf

/-- NOTHING BUT FOUR ROWS has turned. -/
def KeepR (v1 v2 v3 v4 : Value) (w w' : World) : Prop := ∀ E, E < w.heap.size → v1.ownBlock ≠ some E → v2.ownBlock ≠ some E → v3.ownBlock ≠ some E → v4.ownBlock ≠ some E → w'.heap[E]? = w.heap[E]?
theorem KeepR.of_below {v1 v2 v3 v4 : Value} {w w' : World} (h : Below w.heap.size w w') : KeepR v1 v2 v3 v4 w w' := fun E hE _ _ _ _ => h.block E hE
theorem KeepR.trans {v1 v2 v3 v4 : Value} {a b c : World} (h : KeepR v1 v2 v3 v4 a b) (hs : a.heap.size ≤ b.heap.size) (k : KeepR v1 v2 v3 v4 b c) : KeepR v1 v2 v3 v4 a c := fun E hE n1 n2 n3 n4 => (k E (by omega) n1 n2 n3 n4).trans (h E hE n1 n2 n3 n4)
theorem KeepR.set_new {v1 v2 v3 v4 : Value} {w w1 : World} (h : KeepR v1 v2 v3 v4 w w1) {p : Nat} (hp : w.heap.size ≤ p) (o : Nat) (u : Value) : KeepR v1 v2 v3 v4 w (w1.setCell ⟨p, o, none⟩ u) := fun E hE n1 n2 n3 n4 =>
  (Below.heap_setCell _ _ _ _ (show E ≠ p by omega)).trans (h E hE n1 n2 n3 n4)
theorem KeepR.sets {v1 v2 v3 v4 : Value} {w w1 : World} (h : KeepR v1 v2 v3 v4 w w1) {n : Nat} (hn : w.heap.size ≤ n) (u0 u1 u2 u3 u4 : Value) : KeepR v1 v2 v3 v4 w (((((w1.setCell ⟨n, 0, none⟩ u0).setCell ⟨n, 1, none⟩ u1).setCell ⟨n, 2, none⟩ u2).setCell ⟨n, 3, none⟩ u3).setCell ⟨n, 4, none⟩ u4) :=
  ((((h.set_new hn 0 u0).set_new hn 1 u1).set_new hn 2 u2).set_new hn 3 u3).set_new hn 4 u4
/-- A row has turned that is the fourth of them, or is new. -/
theorem KeepR.grown {v1 v2 v3 v4 : Value} {w w1 w2 : World} {r : Option Nat} (h : KeepR v1 v2 v3 v4 w w1) (hs : w.heap.size ≤ w1.heap.size) (hg : w1.grownBy w2 r) (hr : ∀ E, r = some E → v4.ownBlock = some E ∨ w.heap.size ≤ E) : KeepR v1 v2 v3 v4 w w2 := fun E hE n1 n2 n3 n4 =>
  (hg.block E (by omega) (fun e => by rcases hr E e.symm with q | q; exact n4 q; omega)).trans (h E hE n1 n2 n3 n4)
/-- THE ROWS of a disk are three rows as they were, and a fourth that is as it was, or new. -/
def FromR (v1 v2 v3 v4 : Value) (n : Nat) (v : Value) : Prop := ∃ st u4, v = .agg #[.int .i64 st, v1, v2, v3, u4] ∧ ∀ E, u4.ownBlock = some E → v4.ownBlock = some E ∨ n ≤ E
theorem FromR.mk {v1 v2 v3 v4 u4 : Value} {n : Nat} {st : Int} (h : ∀ E, u4.ownBlock = some E → v4.ownBlock = some E ∨ n ≤ E) : FromR v1 v2 v3 v4 n (.agg #[.int .i64 st, v1, v2, v3, u4]) := ⟨st, u4, rfl, h⟩
theorem FromR.inv {v1 v2 v3 v4 u1 u2 u3 u4 : Value} {n : Nat} {st : Int} (h : FromR v1 v2 v3 v4 n (.agg #[.int .i64 st, u1, u2, u3, u4])) : u1 = v1 ∧ u2 = v2 ∧ u3 = v3 ∧ ∀ E, u4.ownBlock = some E → v4.ownBlock = some E ∨ n ≤ E := by
  obtain ⟨st', w4, e, h⟩ := h
  injection e with e
  injection e with e
  injection e with _ e
  injection e with e1 e
  injection e with e2 e
  injection e with e3 e
  injection e with e4 _
  exact ⟨e1, e2, e3, fun E hE => h E (e4 ▸ hE)⟩

set_option maxRecDepth 100000 in
set_option maxHeartbeats 2000000 in
theorem l3ComeRingK (base : Nat) (v1 v2 v3 v4 : Value) (d : DiskD) (k : Nat) (s : ByteArray) (w : World) (hb : base ≤ w.heap.size) (hr : HasRows d) (hk : k < 2) (ho : Own4 w base v1 v2 v3 v4 d) :
    Calls Tryz.prog 114 #[.agg #[.int .i64 d.state, v1, v2, v3, v4], .agg #[.bool true, .int .i64 (k : Int), .string s]] w fun e w' => e = .returned (.agg #[.int .i64 d.state, v1, v2, v3, v4]) ∧ Own4 w' base v1 v2 v3 v4 ⟨d.state, d.slots, d.rings.set k s, d.spoilt, d.wait⟩ ∧ Below base w w' ∧ OthersS w w' ∧ KeepR v1 v2 v3 v4 w w' := by
  obtain ⟨st, xs, ys, bs, ps⟩ := d
  have hl1 : xs.length = 12 := hr.1
  have hl2 : ys.length = 2 := hr.2.1
  have hl3 : bs.length = 12 := hr.2.2
  obtain ⟨g1, c1, cur1, rfl, hbg1, hG1⟩ := own_form ho.1 (show xs.length ≠ 0 by omega)
  obtain ⟨g2, c2, cur2, rfl, hbg2, hG2⟩ := own_form ho.2.1 (show ys.length ≠ 0 by omega)
  obtain ⟨g3, c3, cur3, rfl, hbg3, hG3⟩ := own_form ho.2.2.1 (show bs.length ≠ 0 by omega)
  obtain ⟨a4, c4, rfl, _⟩ := OwnPu.reads ho.2.2.2.1
  simp only at ho ⊢
  have hB0 : Below w.heap.size w (((w.alloc (.cells #[.int .i64 st, .slice (some ⟨g1, 0, none⟩) xs.length c1, .slice (some ⟨g2, 0, none⟩) ys.length c2, .slice (some ⟨g3, 0, none⟩) bs.length c3, .slice a4 ps.length c4] 50)).alloc (.cells #[.bool true, .int .i64 (k : Int), .string s] 101)).alloc (.cells #[.int .i64 0, .slice none 0 0, .slice none 0 0, .slice none 0 0, .slice none 0 0] 50)) := (((Below.refl _ _).alloc (Nat.le_refl _) _).alloc (by simp) _).alloc (by simp; omega) _
  have hs : (((w.alloc (.cells #[.int .i64 st, .slice (some ⟨g1, 0, none⟩) xs.length c1, .slice (some ⟨g2, 0, none⟩) ys.length c2, .slice (some ⟨g3, 0, none⟩) bs.length c3, .slice a4 ps.length c4] 50)).alloc (.cells #[.bool true, .int .i64 (k : Int), .string s] 101)).alloc (.cells #[.int .i64 0, .slice none 0 0, .slice none 0 0, .slice none 0 0, .slice none 0 0] 50)).heap.size = w.heap.size + 3 := by simp
  have hKd : Blk (((w.alloc (.cells #[.int .i64 st, .slice (some ⟨g1, 0, none⟩) xs.length c1, .slice (some ⟨g2, 0, none⟩) ys.length c2, .slice (some ⟨g3, 0, none⟩) bs.length c3, .slice a4 ps.length c4] 50)).alloc (.cells #[.bool true, .int .i64 (k : Int), .string s] 101)).alloc (.cells #[.int .i64 0, .slice none 0 0, .slice none 0 0, .slice none 0 0, .slice none 0 0] 50)) w.heap.size #[.int .i64 st, .slice (some ⟨g1, 0, none⟩) xs.length c1, .slice (some ⟨g2, 0, none⟩) ys.length c2, .slice (some ⟨g3, 0, none⟩) bs.length c3, .slice a4 ps.length c4] 50 := ((Blk.new w _ _).below (n := w.heap.size + 1) ((Below.refl _ _).alloc (by simp) _) (by omega)).below (n := w.heap.size + 1) ((Below.refl _ _).alloc (by simp) _) (by omega)
  have hKp : Blk (((w.alloc (.cells #[.int .i64 st, .slice (some ⟨g1, 0, none⟩) xs.length c1, .slice (some ⟨g2, 0, none⟩) ys.length c2, .slice (some ⟨g3, 0, none⟩) bs.length c3, .slice a4 ps.length c4] 50)).alloc (.cells #[.bool true, .int .i64 (k : Int), .string s] 101)).alloc (.cells #[.int .i64 0, .slice none 0 0, .slice none 0 0, .slice none 0 0, .slice none 0 0] 50)) (w.heap.size + 1) #[.bool true, .int .i64 (k : Int), .string s] 101 := by
    have := Blk.new (w.alloc (.cells #[.int .i64 st, .slice (some ⟨g1, 0, none⟩) xs.length c1, .slice (some ⟨g2, 0, none⟩) ys.length c2, .slice (some ⟨g3, 0, none⟩) bs.length c3, .slice a4 ps.length c4] 50)) #[.bool true, .int .i64 (k : Int), .string s] 101
    rw [World.size_alloc] at this
    exact this.below (n := w.heap.size + 2) ((Below.refl _ _).alloc (by simp) _) (by omega)
  have hKz : Blk (((w.alloc (.cells #[.int .i64 st, .slice (some ⟨g1, 0, none⟩) xs.length c1, .slice (some ⟨g2, 0, none⟩) ys.length c2, .slice (some ⟨g3, 0, none⟩) bs.length c3, .slice a4 ps.length c4] 50)).alloc (.cells #[.bool true, .int .i64 (k : Int), .string s] 101)).alloc (.cells #[.int .i64 0, .slice none 0 0, .slice none 0 0, .slice none 0 0, .slice none 0 0] 50)) (w.heap.size + 2) #[.int .i64 0, .slice none 0 0, .slice none 0 0, .slice none 0 0, .slice none 0 0] 50 := by
    have := Blk.new ((w.alloc (.cells #[.int .i64 st, .slice (some ⟨g1, 0, none⟩) xs.length c1, .slice (some ⟨g2, 0, none⟩) ys.length c2, .slice (some ⟨g3, 0, none⟩) bs.length c3, .slice a4 ps.length c4] 50)).alloc (.cells #[.bool true, .int .i64 (k : Int), .string s] 101)) #[.int .i64 0, .slice none 0 0, .slice none 0 0, .slice none 0 0, .slice none 0 0] 50
    rw [World.size_alloc, World.size_alloc] at this
    exact this
  have HO := Lib.hid (ho.below hB0)
  have HG1 := Lib.hid (hG1.below hB0 hG1.lt)
  have HG2 := Lib.hid (hG2.below hB0 hG2.lt)
  have HG3 := Lib.hid (hG3.below hB0 hG3.lt)
  have hlt1 := hG1.lt
  have hlt2 := hG2.lt
  have hlt3 := hG3.lt
  have hi1 : (k : Int) < (xs.length : Int) ∨ True := .inr trivial
  have Hl1 := Lib.hid hl1
  have Hl2 := Lib.hid hl2
  have Hl3 := Lib.hid hl3
  have HB0 := Lib.hid hB0
  have Hs := Lib.hid hs
  have HKd := Lib.hid hKd
  have HKz := Lib.hid hKz
  have HKp := Lib.hid hKp
  clear ho hG1 hG2 hG3 hB0 hs hKd hKp hKz hl1 hl2 hl3 hr hi1
  go_enter Tryz.func114, Tryz.ntmps114
  go_upto_region 1 with (fail)
  generalize (((w.alloc (.cells #[.int .i64 st, .slice (some ⟨g1, 0, none⟩) xs.length c1, .slice (some ⟨g2, 0, none⟩) ys.length c2, .slice (some ⟨g3, 0, none⟩) bs.length c3, .slice a4 ps.length c4] 50)).alloc (.cells #[.bool true, .int .i64 (k : Int), .string s] 101)).alloc (.cells #[.int .i64 0, .slice none 0 0, .slice none 0 0, .slice none 0 0, .slice none 0 0] 50)) = W at HO HG1 HG2 HG3 HB0 Hs HKd HKz HKp ⊢
  obtain ⟨p0, p1, p2, p3, p4⟩ : W.cell? ⟨w.heap.size, 0, none⟩ = some (.int .i64 st) ∧ W.cell? ⟨w.heap.size, 1, none⟩ = some (.slice (some ⟨g1, 0, none⟩) xs.length c1) ∧ W.cell? ⟨w.heap.size, 2, none⟩ = some (.slice (some ⟨g2, 0, none⟩) ys.length c2) ∧ W.cell? ⟨w.heap.size, 3, none⟩ = some (.slice (some ⟨g3, 0, none⟩) bs.length c3) ∧ W.cell? ⟨w.heap.size, 4, none⟩ = some (.slice a4 ps.length c4) := ⟨(HKd.out.cell 0), (HKd.out.cell 1), (HKd.out.cell 2), (HKd.out.cell 3), (HKd.out.cell 4)⟩
  obtain ⟨q0, q1, q2⟩ : W.cell? ⟨w.heap.size + 1, 0, none⟩ = some (.bool true) ∧ W.cell? ⟨w.heap.size + 1, 1, none⟩ = some (.int .i64 (k : Int)) ∧ W.cell? ⟨w.heap.size + 1, 2, none⟩ = some (.string s) := ⟨HKp.out.cell 0, HKp.out.cell 1, HKp.out.cell 2⟩
  obtain ⟨z0, z1, z2, z3, z4⟩ : W.cell? ⟨w.heap.size + 2, 0, none⟩ = some (.int .i64 0) ∧ W.cell? ⟨w.heap.size + 2, 1, none⟩ = some (.slice none 0 0) ∧ W.cell? ⟨w.heap.size + 2, 2, none⟩ = some (.slice none 0 0) ∧ W.cell? ⟨w.heap.size + 2, 3, none⟩ = some (.slice none 0 0) ∧ W.cell? ⟨w.heap.size + 2, 4, none⟩ = some (.slice none 0 0) := ⟨(HKz.out.cell 0), (HKz.out.cell 1), (HKz.out.cell 2), (HKz.out.cell 3), (HKz.out.cell 4)⟩
  have t0 := HKz.out.frozen 0
  have t1 := HKz.out.frozen 1
  have t2 := HKz.out.frozen 2
  have t3 := HKz.out.frozen 3
  have t4 := HKz.out.frozen 4
  have i1 : (k : Int) < (ys.length : Int) := by have := Hl2.out; omega
  have i0 : (0 : Int) ≤ (k : Int) := by omega
  obtain ⟨x0, f0, _, _⟩ := own_cell HO.out.2.1 k (show k < ys.length * 1 by omega)
  rw [txC_get ys k (by omega)] at x0
  generalize ys.getD k ByteArray.empty = y0 at x0
  go_wp2
  refine bodyPost_ret (v := .agg #[.int .i64 st, .slice (some ⟨g1, 0, none⟩) xs.length c1, .slice (some ⟨g2, 0, none⟩) ys.length c2, .slice (some ⟨g3, 0, none⟩) bs.length c3, .slice a4 ps.length c4]) (by simp [results, Tryz.results114, go_sem, z0, z1, z2, z3, z4]) rfl ⟨rfl, ?_, ?_, ?_, ?_⟩
  · have n1 : (Value.slice (some ⟨g1, 0, none⟩) xs.length c1).ownBlock ≠ some g2 := fun e => HO.out.2.2.2.2 g2 e rfl
    have h : Own4 (W.setCell ⟨g2, k, none⟩ (.string s)) base _ _ _ _ ⟨st, xs, ys.set k s, bs, ps⟩ := ⟨own_other HO.out.1 _ _ _ n1, OwnTx.set HO.out.2.1 rfl k s, own_other HO.out.2.2.1 _ _ _ (own_blk_ne HO.out.2.2.1 HG2.out (by decide)), own_other HO.out.2.2.2.1 _ _ _ (own_blk_ne HO.out.2.2.2.1 HG2.out (by decide)), HO.out.2.2.2.2⟩
    have hz := HKz.out.other g2 k (.string s) (by omega)
    have st5 : ∀ (W9 : World) cs o u, Blk W9 (w.heap.size + 2) cs 50 → Own4 W9 base (.slice (some ⟨g1, 0, none⟩) xs.length c1) (.slice (some ⟨g2, 0, none⟩) ys.length c2) (.slice (some ⟨g3, 0, none⟩) bs.length c3) (.slice a4 ps.length c4) ⟨st, xs, ys.set k s, bs, ps⟩ → Own4 (W9.setCell ⟨w.heap.size + 2, o, none⟩ u) base (.slice (some ⟨g1, 0, none⟩) xs.length c1) (.slice (some ⟨g2, 0, none⟩) ys.length c2) (.slice (some ⟨g3, 0, none⟩) bs.length c3) (.slice a4 ps.length c4) ⟨st, xs, ys.set k s, bs, ps⟩ := fun W9 cs o u hk h => ⟨own_other h.1 _ _ _ (own_blk_ne h.1 hk (by decide)), own_other h.2.1 _ _ _ (own_blk_ne h.2.1 hk (by decide)), own_other h.2.2.1 _ _ _ (own_blk_ne h.2.2.1 hk (by decide)), own_other h.2.2.2.1 _ _ _ (own_blk_ne h.2.2.2.1 hk (by decide)), h.2.2.2.2⟩
    exact st5 _ _ _ _ ((((hz.set 0 _).set 1 _).set 2 _).set 3 _) (st5 _ _ _ _ (((hz.set 0 _).set 1 _).set 2 _) (st5 _ _ _ _ ((hz.set 0 _).set 1 _) (st5 _ _ _ _ (hz.set 0 _) (st5 _ _ _ _ hz h))))
  · exact ((((((HB0.out.mono hb).setCell (p := ⟨g2, k, none⟩) hbg2 _).setCell (p := ⟨w.heap.size + 2, 0, none⟩) (by simp; omega) _).setCell (p := ⟨w.heap.size + 2, 1, none⟩) (by simp; omega) _).setCell (p := ⟨w.heap.size + 2, 2, none⟩) (by simp; omega) _).setCell (p := ⟨w.heap.size + 2, 3, none⟩) (by simp; omega) _).setCell (p := ⟨w.heap.size + 2, 4, none⟩) (by simp; omega) _
  · intro E cs t n1 n2 hE
    have hEl := hE.lt
    have hE0 := hE.below HB0.out hEl
    have hne : g2 ≠ E := fun e => by rw [e] at HG2; exact n1 (HG2.out.type hE0)
    exact (((((hE0.other g2 _ _ hne).other _ _ _ (by omega)).other _ _ _ (by omega)).other _ _ _ (by omega)).other _ _ _ (by omega)).other _ _ _ (by omega)
  · intro E hE e1 e2 e3 e4
    have hneg2 : E ≠ g2 := fun q => e2 (by rw [q]; rfl)
    have b0 := HB0.out.block E hE
    have b1 := (Below.heap_setCell _ ⟨g2, k, none⟩ (.string s) _ (show E ≠ g2 from hneg2)).trans b0
    exact (Below.heap_setCell _ _ _ _ (show E ≠ w.heap.size + 2 by omega)).trans ((Below.heap_setCell _ _ _ _ (show E ≠ w.heap.size + 2 by omega)).trans ((Below.heap_setCell _ _ _ _ (show E ≠ w.heap.size + 2 by omega)).trans ((Below.heap_setCell _ _ _ _ (show E ≠ w.heap.size + 2 by omega)).trans ((Below.heap_setCell _ _ _ _ (show E ≠ w.heap.size + 2 by omega)).trans b1))))

set_option maxRecDepth 100000 in
set_option maxHeartbeats 2000000 in
theorem l3ComeSlotK (base : Nat) (v1 v2 v3 v4 : Value) (d : DiskD) (k : Nat) (s : ByteArray) (w : World) (hb : base ≤ w.heap.size) (hr : HasRows d) (hk : k < 12) (ho : Own4 w base v1 v2 v3 v4 d) :
    Calls Tryz.prog 114 #[.agg #[.int .i64 d.state, v1, v2, v3, v4], .agg #[.bool false, .int .i64 (k : Int), .string s]] w fun e w' => e = .returned (.agg #[.int .i64 d.state, v1, v2, v3, v4]) ∧ Own4 w' base v1 v2 v3 v4 ⟨d.state, d.slots.set k s, d.rings, d.spoilt.set k false, d.wait⟩ ∧ Below base w w' ∧ OthersS w w' ∧ KeepR v1 v2 v3 v4 w w' := by
  obtain ⟨st, xs, ys, bs, ps⟩ := d
  have hl1 : xs.length = 12 := hr.1
  have hl2 : ys.length = 2 := hr.2.1
  have hl3 : bs.length = 12 := hr.2.2
  obtain ⟨g1, c1, cur1, rfl, hbg1, hG1⟩ := own_form ho.1 (show xs.length ≠ 0 by omega)
  obtain ⟨g2, c2, cur2, rfl, hbg2, hG2⟩ := own_form ho.2.1 (show ys.length ≠ 0 by omega)
  obtain ⟨g3, c3, cur3, rfl, hbg3, hG3⟩ := own_form ho.2.2.1 (show bs.length ≠ 0 by omega)
  obtain ⟨a4, c4, rfl, _⟩ := OwnPu.reads ho.2.2.2.1
  simp only at ho ⊢
  have hB0 : Below w.heap.size w (((w.alloc (.cells #[.int .i64 st, .slice (some ⟨g1, 0, none⟩) xs.length c1, .slice (some ⟨g2, 0, none⟩) ys.length c2, .slice (some ⟨g3, 0, none⟩) bs.length c3, .slice a4 ps.length c4] 50)).alloc (.cells #[.bool false, .int .i64 (k : Int), .string s] 101)).alloc (.cells #[.int .i64 0, .slice none 0 0, .slice none 0 0, .slice none 0 0, .slice none 0 0] 50)) := (((Below.refl _ _).alloc (Nat.le_refl _) _).alloc (by simp) _).alloc (by simp; omega) _
  have hs : (((w.alloc (.cells #[.int .i64 st, .slice (some ⟨g1, 0, none⟩) xs.length c1, .slice (some ⟨g2, 0, none⟩) ys.length c2, .slice (some ⟨g3, 0, none⟩) bs.length c3, .slice a4 ps.length c4] 50)).alloc (.cells #[.bool false, .int .i64 (k : Int), .string s] 101)).alloc (.cells #[.int .i64 0, .slice none 0 0, .slice none 0 0, .slice none 0 0, .slice none 0 0] 50)).heap.size = w.heap.size + 3 := by simp
  have hKd : Blk (((w.alloc (.cells #[.int .i64 st, .slice (some ⟨g1, 0, none⟩) xs.length c1, .slice (some ⟨g2, 0, none⟩) ys.length c2, .slice (some ⟨g3, 0, none⟩) bs.length c3, .slice a4 ps.length c4] 50)).alloc (.cells #[.bool false, .int .i64 (k : Int), .string s] 101)).alloc (.cells #[.int .i64 0, .slice none 0 0, .slice none 0 0, .slice none 0 0, .slice none 0 0] 50)) w.heap.size #[.int .i64 st, .slice (some ⟨g1, 0, none⟩) xs.length c1, .slice (some ⟨g2, 0, none⟩) ys.length c2, .slice (some ⟨g3, 0, none⟩) bs.length c3, .slice a4 ps.length c4] 50 := ((Blk.new w _ _).below (n := w.heap.size + 1) ((Below.refl _ _).alloc (by simp) _) (by omega)).below (n := w.heap.size + 1) ((Below.refl _ _).alloc (by simp) _) (by omega)
  have hKp : Blk (((w.alloc (.cells #[.int .i64 st, .slice (some ⟨g1, 0, none⟩) xs.length c1, .slice (some ⟨g2, 0, none⟩) ys.length c2, .slice (some ⟨g3, 0, none⟩) bs.length c3, .slice a4 ps.length c4] 50)).alloc (.cells #[.bool false, .int .i64 (k : Int), .string s] 101)).alloc (.cells #[.int .i64 0, .slice none 0 0, .slice none 0 0, .slice none 0 0, .slice none 0 0] 50)) (w.heap.size + 1) #[.bool false, .int .i64 (k : Int), .string s] 101 := by
    have := Blk.new (w.alloc (.cells #[.int .i64 st, .slice (some ⟨g1, 0, none⟩) xs.length c1, .slice (some ⟨g2, 0, none⟩) ys.length c2, .slice (some ⟨g3, 0, none⟩) bs.length c3, .slice a4 ps.length c4] 50)) #[.bool false, .int .i64 (k : Int), .string s] 101
    rw [World.size_alloc] at this
    exact this.below (n := w.heap.size + 2) ((Below.refl _ _).alloc (by simp) _) (by omega)
  have hKz : Blk (((w.alloc (.cells #[.int .i64 st, .slice (some ⟨g1, 0, none⟩) xs.length c1, .slice (some ⟨g2, 0, none⟩) ys.length c2, .slice (some ⟨g3, 0, none⟩) bs.length c3, .slice a4 ps.length c4] 50)).alloc (.cells #[.bool false, .int .i64 (k : Int), .string s] 101)).alloc (.cells #[.int .i64 0, .slice none 0 0, .slice none 0 0, .slice none 0 0, .slice none 0 0] 50)) (w.heap.size + 2) #[.int .i64 0, .slice none 0 0, .slice none 0 0, .slice none 0 0, .slice none 0 0] 50 := by
    have := Blk.new ((w.alloc (.cells #[.int .i64 st, .slice (some ⟨g1, 0, none⟩) xs.length c1, .slice (some ⟨g2, 0, none⟩) ys.length c2, .slice (some ⟨g3, 0, none⟩) bs.length c3, .slice a4 ps.length c4] 50)).alloc (.cells #[.bool false, .int .i64 (k : Int), .string s] 101)) #[.int .i64 0, .slice none 0 0, .slice none 0 0, .slice none 0 0, .slice none 0 0] 50
    rw [World.size_alloc, World.size_alloc] at this
    exact this
  have HO := Lib.hid (ho.below hB0)
  have HG1 := Lib.hid (hG1.below hB0 hG1.lt)
  have HG2 := Lib.hid (hG2.below hB0 hG2.lt)
  have HG3 := Lib.hid (hG3.below hB0 hG3.lt)
  have hlt1 := hG1.lt
  have hlt2 := hG2.lt
  have hlt3 := hG3.lt
  have hi1 : (k : Int) < (xs.length : Int) ∨ True := .inr trivial
  have Hl1 := Lib.hid hl1
  have Hl2 := Lib.hid hl2
  have Hl3 := Lib.hid hl3
  have HB0 := Lib.hid hB0
  have Hs := Lib.hid hs
  have HKd := Lib.hid hKd
  have HKz := Lib.hid hKz
  have HKp := Lib.hid hKp
  clear ho hG1 hG2 hG3 hB0 hs hKd hKp hKz hl1 hl2 hl3 hr hi1
  go_enter Tryz.func114, Tryz.ntmps114
  go_upto_region 1 with (fail)
  generalize (((w.alloc (.cells #[.int .i64 st, .slice (some ⟨g1, 0, none⟩) xs.length c1, .slice (some ⟨g2, 0, none⟩) ys.length c2, .slice (some ⟨g3, 0, none⟩) bs.length c3, .slice a4 ps.length c4] 50)).alloc (.cells #[.bool false, .int .i64 (k : Int), .string s] 101)).alloc (.cells #[.int .i64 0, .slice none 0 0, .slice none 0 0, .slice none 0 0, .slice none 0 0] 50)) = W at HO HG1 HG2 HG3 HB0 Hs HKd HKz HKp ⊢
  obtain ⟨p0, p1, p2, p3, p4⟩ : W.cell? ⟨w.heap.size, 0, none⟩ = some (.int .i64 st) ∧ W.cell? ⟨w.heap.size, 1, none⟩ = some (.slice (some ⟨g1, 0, none⟩) xs.length c1) ∧ W.cell? ⟨w.heap.size, 2, none⟩ = some (.slice (some ⟨g2, 0, none⟩) ys.length c2) ∧ W.cell? ⟨w.heap.size, 3, none⟩ = some (.slice (some ⟨g3, 0, none⟩) bs.length c3) ∧ W.cell? ⟨w.heap.size, 4, none⟩ = some (.slice a4 ps.length c4) := ⟨(HKd.out.cell 0), (HKd.out.cell 1), (HKd.out.cell 2), (HKd.out.cell 3), (HKd.out.cell 4)⟩
  obtain ⟨q0, q1, q2⟩ : W.cell? ⟨w.heap.size + 1, 0, none⟩ = some (.bool false) ∧ W.cell? ⟨w.heap.size + 1, 1, none⟩ = some (.int .i64 (k : Int)) ∧ W.cell? ⟨w.heap.size + 1, 2, none⟩ = some (.string s) := ⟨HKp.out.cell 0, HKp.out.cell 1, HKp.out.cell 2⟩
  obtain ⟨z0, z1, z2, z3, z4⟩ : W.cell? ⟨w.heap.size + 2, 0, none⟩ = some (.int .i64 0) ∧ W.cell? ⟨w.heap.size + 2, 1, none⟩ = some (.slice none 0 0) ∧ W.cell? ⟨w.heap.size + 2, 2, none⟩ = some (.slice none 0 0) ∧ W.cell? ⟨w.heap.size + 2, 3, none⟩ = some (.slice none 0 0) ∧ W.cell? ⟨w.heap.size + 2, 4, none⟩ = some (.slice none 0 0) := ⟨(HKz.out.cell 0), (HKz.out.cell 1), (HKz.out.cell 2), (HKz.out.cell 3), (HKz.out.cell 4)⟩
  have t0 := HKz.out.frozen 0
  have t1 := HKz.out.frozen 1
  have t2 := HKz.out.frozen 2
  have t3 := HKz.out.frozen 3
  have t4 := HKz.out.frozen 4
  have i1 : (k : Int) < (xs.length : Int) := by have := Hl1.out; omega
  have i3 : (k : Int) < (bs.length : Int) := by have := Hl3.out; omega
  have i0 : (0 : Int) ≤ (k : Int) := by omega
  obtain ⟨x0, f0, _, _⟩ := own_cell HO.out.1 k (show k < xs.length * 1 by omega)
  rw [txC_get xs k (by omega)] at x0
  obtain ⟨x3, f3, _, _⟩ := own_cell HO.out.2.2.1 k (show k < bs.length * 1 by omega)
  rw [boC_get bs k (by omega)] at x3
  generalize xs.getD k ByteArray.empty = y0 at x0
  generalize bs.getD k false = y3 at x3
  have hg31 : g3 ≠ g1 := fun e => by rw [e] at HG3; exact absurd (HG3.out.type HG1.out) (by decide)
  have hg13 : g1 ≠ g3 := fun e => hg31 e.symm
  go_wp2
  refine bodyPost_ret (v := .agg #[.int .i64 st, .slice (some ⟨g1, 0, none⟩) xs.length c1, .slice (some ⟨g2, 0, none⟩) ys.length c2, .slice (some ⟨g3, 0, none⟩) bs.length c3, .slice a4 ps.length c4]) (by simp [results, Tryz.results114, go_sem, z0, z1, z2, z3, z4]) rfl ⟨rfl, ?_, ?_, ?_, ?_⟩
  · have n2 : (Value.slice (some ⟨g2, 0, none⟩) ys.length c2).ownBlock ≠ some g1 := HO.out.2.2.2.2 g1 rfl
    have h1 : Own4 (W.setCell ⟨g1, k, none⟩ (.string s)) base _ _ _ _ ⟨st, xs.set k s, ys, bs, ps⟩ := ⟨OwnTx.set HO.out.1 rfl k s, own_other HO.out.2.1 _ _ _ n2, own_other HO.out.2.2.1 _ _ _ (own_blk_ne HO.out.2.2.1 HG1.out (by decide)), own_other HO.out.2.2.2.1 _ _ _ (own_blk_ne HO.out.2.2.2.1 HG1.out (by decide)), HO.out.2.2.2.2⟩
    have hg3' := HG3.out.other g1 k (.string s) hg13
    have h : Own4 ((W.setCell ⟨g1, k, none⟩ (.string s)).setCell ⟨g3, k, none⟩ (.bool false)) base _ _ _ _ ⟨st, xs.set k s, ys, bs.set k false, ps⟩ := ⟨own_other h1.1 _ _ _ (own_blk_ne h1.1 hg3' (by decide)), own_other h1.2.1 _ _ _ (own_blk_ne h1.2.1 hg3' (by decide)), OwnBo.set h1.2.2.1 rfl k false, own_other h1.2.2.2.1 _ _ _ (own_blk_ne h1.2.2.2.1 hg3' (by decide)), h1.2.2.2.2⟩
    have hz := (HKz.out.other g1 k (.string s) (by omega)).other g3 k (.bool false) (by omega)
    have st5 : ∀ (W9 : World) cs o u, Blk W9 (w.heap.size + 2) cs 50 → Own4 W9 base (.slice (some ⟨g1, 0, none⟩) xs.length c1) (.slice (some ⟨g2, 0, none⟩) ys.length c2) (.slice (some ⟨g3, 0, none⟩) bs.length c3) (.slice a4 ps.length c4) ⟨st, xs.set k s, ys, bs.set k false, ps⟩ → Own4 (W9.setCell ⟨w.heap.size + 2, o, none⟩ u) base (.slice (some ⟨g1, 0, none⟩) xs.length c1) (.slice (some ⟨g2, 0, none⟩) ys.length c2) (.slice (some ⟨g3, 0, none⟩) bs.length c3) (.slice a4 ps.length c4) ⟨st, xs.set k s, ys, bs.set k false, ps⟩ := fun W9 cs o u hk h => ⟨own_other h.1 _ _ _ (own_blk_ne h.1 hk (by decide)), own_other h.2.1 _ _ _ (own_blk_ne h.2.1 hk (by decide)), own_other h.2.2.1 _ _ _ (own_blk_ne h.2.2.1 hk (by decide)), own_other h.2.2.2.1 _ _ _ (own_blk_ne h.2.2.2.1 hk (by decide)), h.2.2.2.2⟩
    exact st5 _ _ _ _ ((((hz.set 0 _).set 1 _).set 2 _).set 3 _) (st5 _ _ _ _ (((hz.set 0 _).set 1 _).set 2 _) (st5 _ _ _ _ ((hz.set 0 _).set 1 _) (st5 _ _ _ _ (hz.set 0 _) (st5 _ _ _ _ hz h))))
  · exact (((((((HB0.out.mono hb).setCell (p := ⟨g1, k, none⟩) hbg1 _).setCell (p := ⟨g3, k, none⟩) hbg3 _).setCell (p := ⟨w.heap.size + 2, 0, none⟩) (by simp; omega) _).setCell (p := ⟨w.heap.size + 2, 1, none⟩) (by simp; omega) _).setCell (p := ⟨w.heap.size + 2, 2, none⟩) (by simp; omega) _).setCell (p := ⟨w.heap.size + 2, 3, none⟩) (by simp; omega) _).setCell (p := ⟨w.heap.size + 2, 4, none⟩) (by simp; omega) _
  · intro E cs t n1 n2 hE
    have hEl := hE.lt
    have hE0 := hE.below HB0.out hEl
    have hne : g1 ≠ E := fun e => by rw [e] at HG1; exact n1 (HG1.out.type hE0)
    have hne3 : g3 ≠ E := fun e => by rw [e] at HG3; exact n2 (HG3.out.type hE0)
    exact ((((((hE0.other g1 _ _ hne).other g3 _ _ hne3).other _ _ _ (by omega)).other _ _ _ (by omega)).other _ _ _ (by omega)).other _ _ _ (by omega)).other _ _ _ (by omega)
  · intro E hE e1 e2 e3 e4
    have hneg1 : E ≠ g1 := fun q => e1 (by rw [q]; rfl)
    have hneg3 : E ≠ g3 := fun q => e3 (by rw [q]; rfl)
    have b0 := HB0.out.block E hE
    have b1 := (Below.heap_setCell _ ⟨g1, k, none⟩ (.string s) _ (show E ≠ g1 from hneg1)).trans b0
    have b2 := (Below.heap_setCell _ ⟨g3, k, none⟩ (.bool false) _ (show E ≠ g3 from hneg3)).trans b1
    exact (Below.heap_setCell _ _ _ _ (show E ≠ w.heap.size + 2 by omega)).trans ((Below.heap_setCell _ _ _ _ (show E ≠ w.heap.size + 2 by omega)).trans ((Below.heap_setCell _ _ _ _ (show E ≠ w.heap.size + 2 by omega)).trans ((Below.heap_setCell _ _ _ _ (show E ≠ w.heap.size + 2 by omega)).trans ((Below.heap_setCell _ _ _ _ (show E ≠ w.heap.size + 2 by omega)).trans b2))))

theorem l3Come_anyK (base : Nat) (v1 v2 v3 v4 : Value) (d : DiskD) (p : PutD) (w : World) (hb : base ≤ w.heap.size) (hr : HasRows d) (hp : PutOk p) (ho : Own4 w base v1 v2 v3 v4 d) :
    Calls Tryz.prog 114 #[.agg #[.int .i64 d.state, v1, v2, v3, v4], .agg #[.bool p.ring, .int .i64 p.pos, .string p.text]] w fun e w' => e = .returned (.agg #[.int .i64 d.state, v1, v2, v3, v4]) ∧ Own4 w' base v1 v2 v3 v4 (comeD d p) ∧ Below base w w' ∧ OthersS w w' ∧ KeepR v1 v2 v3 v4 w w' := by
  obtain ⟨r, z, s⟩ := p
  cases r
  · have hp' : SlotOk z ∧ s.size = 3 := by simpa [PutOk] using hp
    obtain ⟨k, rfl⟩ := Int.eq_ofNat_of_zero_le hp'.1.1
    have := hp'.1.2
    exact l3ComeSlotK base v1 v2 v3 v4 d k s w hb hr (by omega) ho
  · have hp' : (0 ≤ z ∧ z ≤ 1) ∧ s.size ≤ 700 := by simpa [PutOk] using hp
    obtain ⟨k, rfl⟩ := Int.eq_ofNat_of_zero_le hp'.1.1
    have := hp'.1.2
    exact l3ComeRingK base v1 v2 v3 v4 d k s w hb hr (by omega) ho

set_option maxRecDepth 100000 in
set_option maxHeartbeats 4000000 in
theorem l3Flush_anyK (base : Nat) (v1 v2 v3 v4 : Value) (d : DiskD) (w : World) (hb : base ≤ w.heap.size) (hr : HasRows d) (hp : AllPu PutOk d.wait) (hlen : d.wait.length ≤ 1000) (ho : Own4 w base v1 v2 v3 v4 d) :
    Calls Tryz.prog 84 #[.agg #[.int .i64 d.state, v1, v2, v3, v4]] w fun e w' => ∃ v, e = .returned v ∧ OwnDisk w' base v (crashD d (-1)) ∧ Below base w w' ∧ OthersS w w' ∧ KeepR v1 v2 v3 v4 w w' ∧ FromR v1 v2 v3 v4 w.heap.size v := by
  obtain ⟨st, xs, ys, bs, ps⟩ := d
  have HR := Lib.hid hr
  have HP := Lib.hid hp
  have hl1 : xs.length = 12 := hr.1
  have hl2 : ys.length = 2 := hr.2.1
  have hl3 : bs.length = 12 := hr.2.2
  obtain ⟨g1, c1, cur1, rfl, hbg1, hG1⟩ := own_form ho.1 (show xs.length ≠ 0 by omega)
  obtain ⟨g2, c2, cur2, rfl, hbg2, hG2⟩ := own_form ho.2.1 (show ys.length ≠ 0 by omega)
  obtain ⟨g3, c3, cur3, rfl, hbg3, hG3⟩ := own_form ho.2.2.1 (show bs.length ≠ 0 by omega)
  obtain ⟨a4, c4, rfl, _⟩ := OwnPu.reads ho.2.2.2.1
  simp only at ho hlen ⊢
  have HB0 := Lib.hid (show Below w.heap.size w ((w.alloc (.cells #[.int .i64 st, .slice (some ⟨g1, 0, none⟩) xs.length c1, .slice (some ⟨g2, 0, none⟩) ys.length c2, .slice (some ⟨g3, 0, none⟩) bs.length c3, .slice a4 ps.length c4] 50)).alloc (.cells #[.int .i64 0, .slice none 0 0, .slice none 0 0, .slice none 0 0, .slice none 0 0] 50)) from ((Below.refl _ _).alloc (Nat.le_refl _) _).alloc (by simp) _)
  have Hs := Lib.hid (show ((w.alloc (.cells #[.int .i64 st, .slice (some ⟨g1, 0, none⟩) xs.length c1, .slice (some ⟨g2, 0, none⟩) ys.length c2, .slice (some ⟨g3, 0, none⟩) bs.length c3, .slice a4 ps.length c4] 50)).alloc (.cells #[.int .i64 0, .slice none 0 0, .slice none 0 0, .slice none 0 0, .slice none 0 0] 50)).heap.size = w.heap.size + 2 by simp)
  have HKd := Lib.hid (show Blk ((w.alloc (.cells #[.int .i64 st, .slice (some ⟨g1, 0, none⟩) xs.length c1, .slice (some ⟨g2, 0, none⟩) ys.length c2, .slice (some ⟨g3, 0, none⟩) bs.length c3, .slice a4 ps.length c4] 50)).alloc (.cells #[.int .i64 0, .slice none 0 0, .slice none 0 0, .slice none 0 0, .slice none 0 0] 50)) w.heap.size #[.int .i64 st, .slice (some ⟨g1, 0, none⟩) xs.length c1, .slice (some ⟨g2, 0, none⟩) ys.length c2, .slice (some ⟨g3, 0, none⟩) bs.length c3, .slice a4 ps.length c4] 50 from ((Blk.new w _ _).below (n := w.heap.size + 1) ((Below.refl _ _).alloc (by simp) _) (by omega)))
  have HKz := Lib.hid (show Blk ((w.alloc (.cells #[.int .i64 st, .slice (some ⟨g1, 0, none⟩) xs.length c1, .slice (some ⟨g2, 0, none⟩) ys.length c2, .slice (some ⟨g3, 0, none⟩) bs.length c3, .slice a4 ps.length c4] 50)).alloc (.cells #[.int .i64 0, .slice none 0 0, .slice none 0 0, .slice none 0 0, .slice none 0 0] 50)) (w.heap.size + 1) #[.int .i64 0, .slice none 0 0, .slice none 0 0, .slice none 0 0, .slice none 0 0] 50 by
    have := Blk.new (w.alloc (.cells #[.int .i64 st, .slice (some ⟨g1, 0, none⟩) xs.length c1, .slice (some ⟨g2, 0, none⟩) ys.length c2, .slice (some ⟨g3, 0, none⟩) bs.length c3, .slice a4 ps.length c4] 50)) #[.int .i64 0, .slice none 0 0, .slice none 0 0, .slice none 0 0, .slice none 0 0] 50
    rw [World.size_alloc] at this
    exact this)
  have HO := Lib.hid (ho.below HB0.out)
  have HOt := Lib.hid (othersS_below HB0.out)
  have HKp := Lib.hid (KeepR.of_below (v1 := .slice (some ⟨g1, 0, none⟩) xs.length c1) (v2 := .slice (some ⟨g2, 0, none⟩) ys.length c2) (v3 := .slice (some ⟨g3, 0, none⟩) bs.length c3) (v4 := .slice a4 ps.length c4) HB0.out)
  clear ho hl1 hl2 hl3 hr hp hG1 hG2 hG3
  go_enter Tryz.func84, Tryz.ntmps84
  go_wp2_with fail
  generalize ((w.alloc (.cells #[.int .i64 st, .slice (some ⟨g1, 0, none⟩) xs.length c1, .slice (some ⟨g2, 0, none⟩) ys.length c2, .slice (some ⟨g3, 0, none⟩) bs.length c3, .slice a4 ps.length c4] 50)).alloc (.cells #[.int .i64 0, .slice none 0 0, .slice none 0 0, .slice none 0 0, .slice none 0 0] 50)) = W at HB0 Hs HKd HKz HO HOt HKp ⊢
  go_loopw [3] (fun i wr => ∃ k : Nat, i = .int .i64 (k : Int) ∧ k ≤ ps.length ∧ Hid (Own4 wr base (.slice (some ⟨g1, 0, none⟩) xs.length c1) (.slice (some ⟨g2, 0, none⟩) ys.length c2) (.slice (some ⟨g3, 0, none⟩) bs.length c3) (.slice a4 ps.length c4) (crashTo ⟨st, xs, ys, bs, ps⟩ (-1) (ps.take k))) ∧ Hid (Blk wr w.heap.size #[.int .i64 st, .slice (some ⟨g1, 0, none⟩) xs.length c1, .slice (some ⟨g2, 0, none⟩) ys.length c2, .slice (some ⟨g3, 0, none⟩) bs.length c3, .slice a4 ps.length c4] 50) ∧ Hid (Blk wr (w.heap.size + 1) #[.int .i64 0, .slice none 0 0, .slice none 0 0, .slice none 0 0, .slice none 0 0] 50) ∧ Hid (Below base w wr) ∧ Hid (OthersS w wr) ∧ Hid (KeepR (.slice (some ⟨g1, 0, none⟩) xs.length c1) (.slice (some ⟨g2, 0, none⟩) ys.length c2) (.slice (some ⟨g3, 0, none⟩) bs.length c3) (.slice a4 ps.length c4) w wr) ∧ w.heap.size + 2 ≤ wr.heap.size) (fun i _ => ps.length - (intOf i).toNat)
  case atStart => exact ⟨0, rfl, by omega, HO.out, HKd.out, HKz.out, HB0.out.mono hb, HOt.out, HKp.out, by have := Hs.out; omega⟩
  case round =>
    obtain ⟨k, rfl, hk, hOw, hKd, hKz, hBw, hOt, hKp, hsz⟩ := hrel
    by_cases hlt : k < ps.length
    · have HTk := Lib.hid (crashTo_snoc ⟨st, xs, ys, bs, ps⟩ (-1) (ps.take k) (ps.getD k put0))
      rw [← take_snocA ps put0 k hlt, List.length_take, Nat.min_eq_left (Nat.le_of_lt hlt)] at HTk
      have HPk := Lib.hid (HP.out k hlt)
      have hOP : OwnPu wr base (.slice a4 ps.length c4) ps := by
        have := hOw.out.2.2.2.1
        rw [(crashTo_wait _ _ _).1] at this
        exact this
      obtain ⟨a', c', he, _, _, hpa⟩ := OwnPu.reads hOP
      cases he
      obtain ⟨b4, o4, rfl, hc⟩ := hpa.resolve_left (fun e => by rw [e] at hlt; simp at hlt)
      obtain ⟨q0, q1, q2⟩ := hc k hlt
      have HPw := Lib.hid (show ∀ (w5 : World) (pp : List PutD), OwnPu w5 base (.slice (some ⟨b4, o4, none⟩) ps.length c4) pp → pp = ps → w5.cell? ⟨b4, o4 + k * 3, none⟩ = some (.bool (ps.getD k put0).ring) ∧ w5.cell? ⟨b4, o4 + k * 3 + 1, none⟩ = some (.int .i64 (ps.getD k put0).pos) ∧ w5.cell? ⟨b4, o4 + k * 3 + 2, none⟩ = some (.string (ps.getD k put0).text) from fun w5 pp h e => by
        subst e
        obtain ⟨a', c', he, _, _, hpa⟩ := OwnPu.reads h
        cases he
        obtain ⟨b4', o4', he, hc⟩ := hpa.resolve_left (fun e => by rw [e] at hlt; simp at hlt)
        cases he
        exact hc k hlt)
      have hb4w : b4 < wr.heap.size := World.block_lt_of_cell? wr _ q0
      have hb4n : b4 ≠ w.heap.size := fun e => by
        rcases hOP.2 with ⟨h, _⟩ | ⟨g, cap, cur, h, _, hg, _⟩
        · cases h
        · cases h
          have hg' : Blk wr b4 cur 101 := hg
          rw [e] at hg'
          exact absurd (hg'.type hKd.out) (by decide)
      have hb4n' : w.heap.size ≠ b4 := fun e => hb4n e.symm
      clear hc hpa hOP
      generalize ps.getD k put0 = q at q0 q1 q2 HPk HTk HPw
      obtain ⟨r, z, s⟩ := q
      simp only at q0 q1 q2 HPw
      · skip
        rw [show ((-1 : Int) / 2 ^ k) % 2 = 1 from bit_all k, if_pos rfl] at HTk
        · skip
          have HBd : Hid (base ≤ wr.drew.heap.size) := (show base ≤ wr.heap.size by omega)
          have HOd : Hid (Own4 wr.drew base (.slice (some ⟨g1, 0, none⟩) xs.length c1) (.slice (some ⟨g2, 0, none⟩) ys.length c2) (.slice (some ⟨g3, 0, none⟩) bs.length c3) (.slice (some ⟨b4, o4, none⟩) ps.length c4) (crashTo ⟨st, xs, ys, bs, ps⟩ (-1) (ps.take k))) := hOw.out.below (Below.refl _ _).drew
          have HC := Lib.hid (l3Come_anyK base (.slice (some ⟨g1, 0, none⟩) xs.length c1) (.slice (some ⟨g2, 0, none⟩) ys.length c2) (.slice (some ⟨g3, 0, none⟩) bs.length c3) (.slice (some ⟨b4, o4, none⟩) ps.length c4) _ ⟨r, z, s⟩ wr.drew HBd.out (crashTo_rows HR.out _ _) HPk.out HOd.out)
          rw [(crashTo_wait _ _ _).2] at HC
          obtain ⟨p0, p1, p2, p3, p4⟩ : wr.cell? ⟨w.heap.size, 0, none⟩ = some (.int .i64 st) ∧ wr.cell? ⟨w.heap.size, 1, none⟩ = some (.slice (some ⟨g1, 0, none⟩) xs.length c1) ∧ wr.cell? ⟨w.heap.size, 2, none⟩ = some (.slice (some ⟨g2, 0, none⟩) ys.length c2) ∧ wr.cell? ⟨w.heap.size, 3, none⟩ = some (.slice (some ⟨g3, 0, none⟩) bs.length c3) ∧ wr.cell? ⟨w.heap.size, 4, none⟩ = some (.slice (some ⟨b4, o4, none⟩) ps.length c4) := ⟨(hKd.out.cell 0), (hKd.out.cell 1), (hKd.out.cell 2), (hKd.out.cell 3), (hKd.out.cell 4)⟩
          have f0 := hKd.out.frozen 0
          have f1 := hKd.out.frozen 1
          have f2 := hKd.out.frozen 2
          have f3 := hKd.out.frozen 3
          have f4 := hKd.out.frozen 4
          have i1 : (k : Int) < (ps.length : Int) := by omega
          have i0 : (0 : Int) ≤ (k : Int) := by omega
          go_wp2_with fail
          go_region_held3 (fun w' => w'.cell? ⟨w.heap.size, 0, none⟩ = some (.int .i64 st) ∧ w'.cell? ⟨w.heap.size, 1, none⟩ = some (.slice (some ⟨g1, 0, none⟩) xs.length c1) ∧ w'.cell? ⟨w.heap.size, 2, none⟩ = some (.slice (some ⟨g2, 0, none⟩) ys.length c2) ∧ w'.cell? ⟨w.heap.size, 3, none⟩ = some (.slice (some ⟨g3, 0, none⟩) bs.length c3) ∧ w'.cell? ⟨w.heap.size, 4, none⟩ = some (.slice (some ⟨b4, o4, none⟩) ps.length c4) ∧ w'.cell? ⟨b4, o4 + k * 3, none⟩ = some (.bool r) ∧ w'.cell? ⟨b4, o4 + k * 3 + 1, none⟩ = some (.int .i64 z) ∧ w'.cell? ⟨b4, o4 + k * 3 + 2, none⟩ = some (.string s)) (first | with_reducible exact mm | (have h5 := same5 KD5.out; exact ⟨h5.cell 0, h5.cell 1, h5.cell 2, h5.cell 3, h5.cell 4, other5 hb4n' mm.2.2.2.2.2.1, other5 hb4n' mm.2.2.2.2.2.2.1, other5 hb4n' mm.2.2.2.2.2.2.2⟩) | go_keep)
            (first
              | (go_at_call 114; refine HC.out.mono ?_; rintro e w5 ⟨rfl, ho5, hB5, hOt5, hKp5⟩; have KD5 := Lib.hid (hOt5 _ _ _ (by decide) (by decide) (hKd.out.below (Below.refl _ _).drew hKd.out.lt)); have KZ5 := Lib.hid (hOt5 _ _ _ (by decide) (by decide) (hKz.out.below (Below.refl _ _).drew hKz.out.lt)); have HO5 := Lib.hid ho5; have HB5 := Lib.hid hB5; have HT5 := Lib.hid hOt5; have HP5 := Lib.hid hKp5; obtain ⟨p0', p1', p2', p3', p4'⟩ : w5.cell? ⟨w.heap.size, 0, none⟩ = some (.int .i64 st) ∧ w5.cell? ⟨w.heap.size, 1, none⟩ = some (.slice (some ⟨g1, 0, none⟩) xs.length c1) ∧ w5.cell? ⟨w.heap.size, 2, none⟩ = some (.slice (some ⟨g2, 0, none⟩) ys.length c2) ∧ w5.cell? ⟨w.heap.size, 3, none⟩ = some (.slice (some ⟨g3, 0, none⟩) bs.length c3) ∧ w5.cell? ⟨w.heap.size, 4, none⟩ = some (.slice (some ⟨b4, o4, none⟩) ps.length c4) := ⟨(KD5.out.cell 0), (KD5.out.cell 1), (KD5.out.cell 2), (KD5.out.cell 3), (KD5.out.cell 4)⟩; obtain ⟨n0, n1, n2⟩ := HPw.out w5 _ ho5.2.2.2.1 ((comeD_wait _ _).1.trans (crashTo_wait _ _ _).1); have mm := (⟨p0', p1', p2', p3', p4', n0, n1, n2⟩ : w5.cell? ⟨w.heap.size, 0, none⟩ = some (.int .i64 st) ∧ w5.cell? ⟨w.heap.size, 1, none⟩ = some (.slice (some ⟨g1, 0, none⟩) xs.length c1) ∧ w5.cell? ⟨w.heap.size, 2, none⟩ = some (.slice (some ⟨g2, 0, none⟩) ys.length c2) ∧ w5.cell? ⟨w.heap.size, 3, none⟩ = some (.slice (some ⟨g3, 0, none⟩) bs.length c3) ∧ w5.cell? ⟨w.heap.size, 4, none⟩ = some (.slice (some ⟨b4, o4, none⟩) ps.length c4) ∧ w5.cell? ⟨b4, o4 + k * 3, none⟩ = some (.bool r) ∧ w5.cell? ⟨b4, o4 + k * 3 + 1, none⟩ = some (.int .i64 z) ∧ w5.cell? ⟨b4, o4 + k * 3 + 2, none⟩ = some (.string s)); have f0 := KD5.out.frozen 0; have f1 := KD5.out.frozen 1; have f2 := KD5.out.frozen 2; have f3 := KD5.out.frozen 3; have f4 := KD5.out.frozen 4; clear ho5 hB5 hOt5))
          all_goals
            have b1 := KD5.out.set 0 (.int .i64 st)
            have b2 := b1.set 1 (.slice (some ⟨g1, 0, none⟩) xs.length c1)
            have b3 := b2.set 2 (.slice (some ⟨g2, 0, none⟩) ys.length c2)
            have b4' := b3.set 3 (.slice (some ⟨g3, 0, none⟩) bs.length c3)
            have b5 := b4'.set 4 (.slice (some ⟨b4, o4, none⟩) ps.length c4)
            have HX := Lib.hid (own4_set (own4_set (own4_set (own4_set (own4_set HO5.out KD5.out (by decide) (by decide) (by decide) 0 (.int .i64 st)) b1 (by decide) (by decide) (by decide) 1 (.slice (some ⟨g1, 0, none⟩) xs.length c1)) b2 (by decide) (by decide) (by decide) 2 (.slice (some ⟨g2, 0, none⟩) ys.length c2)) b3 (by decide) (by decide) (by decide) 3 (.slice (some ⟨g3, 0, none⟩) bs.length c3)) b4' (by decide) (by decide) (by decide) 4 (.slice (some ⟨b4, o4, none⟩) ps.length c4))
            have HKX := Lib.hid b5
            have HZX := Lib.hid (((((KZ5.out.other w.heap.size 0 (.int .i64 st) (by omega)).other w.heap.size 1 (.slice (some ⟨g1, 0, none⟩) xs.length c1) (by omega)).other w.heap.size 2 (.slice (some ⟨g2, 0, none⟩) ys.length c2) (by omega)).other w.heap.size 3 (.slice (some ⟨g3, 0, none⟩) bs.length c3) (by omega)).other w.heap.size 4 (.slice (some ⟨b4, o4, none⟩) ps.length c4) (by omega))
            have HBX := Lib.hid ((((((hBw.out.drew.trans HB5.out).setCell (p := ⟨w.heap.size, 0, none⟩) hb (.int .i64 st)).setCell (p := ⟨w.heap.size, 1, none⟩) hb (.slice (some ⟨g1, 0, none⟩) xs.length c1)).setCell (p := ⟨w.heap.size, 2, none⟩) hb (.slice (some ⟨g2, 0, none⟩) ys.length c2)).setCell (p := ⟨w.heap.size, 3, none⟩) hb (.slice (some ⟨g3, 0, none⟩) bs.length c3)).setCell (p := ⟨w.heap.size, 4, none⟩) hb (.slice (some ⟨b4, o4, none⟩) ps.length c4))
            have HTX := Lib.hid ((((((hOt.out.trans (othersS_drew _)).trans HT5.out).set_new (Nat.le_refl _) 0 (.int .i64 st)).set_new (Nat.le_refl _) 1 (.slice (some ⟨g1, 0, none⟩) xs.length c1)).set_new (Nat.le_refl _) 2 (.slice (some ⟨g2, 0, none⟩) ys.length c2)).set_new (Nat.le_refl _) 3 (.slice (some ⟨g3, 0, none⟩) bs.length c3) |>.set_new (Nat.le_refl _) 4 (.slice (some ⟨b4, o4, none⟩) ps.length c4))
            have HPX := Lib.hid (((hKp.out.trans (by omega) (KeepR.of_below (Below.refl _ _).drew)).trans (show w.heap.size ≤ wr.drew.heap.size by show w.heap.size ≤ wr.heap.size; omega) HP5.out).sets (Nat.le_refl _) (.int .i64 st) (.slice (some ⟨g1, 0, none⟩) xs.length c1) (.slice (some ⟨g2, 0, none⟩) ys.length c2) (.slice (some ⟨g3, 0, none⟩) bs.length c3) (.slice (some ⟨b4, o4, none⟩) ps.length c4))
            have hz5 := KZ5.out.lt
            clear b1 b2 b3 b4' b5
            go_wp2
            exact ⟨⟨k + 1, by go_num, by omega, by rw [HTk.out]; exact HX, HKX, HZX, HBX, HTX, HPX, by simp; omega⟩, by simp [intOf]; omega⟩
    · obtain rfl : k = ps.length := by omega
      have hO := hOw.out
      rw [List.take_length] at hO
      have HOf := Lib.hid hO
      obtain ⟨p0, p1, p2, p3, p4⟩ : wr.cell? ⟨w.heap.size, 0, none⟩ = some (.int .i64 st) ∧ wr.cell? ⟨w.heap.size, 1, none⟩ = some (.slice (some ⟨g1, 0, none⟩) xs.length c1) ∧ wr.cell? ⟨w.heap.size, 2, none⟩ = some (.slice (some ⟨g2, 0, none⟩) ys.length c2) ∧ wr.cell? ⟨w.heap.size, 3, none⟩ = some (.slice (some ⟨g3, 0, none⟩) bs.length c3) ∧ wr.cell? ⟨w.heap.size, 4, none⟩ = some (.slice a4 ps.length c4) := ⟨(hKd.out.cell 0), (hKd.out.cell 1), (hKd.out.cell 2), (hKd.out.cell 3), (hKd.out.cell 4)⟩
      have hA : Below wr.heap.size wr (wr.alloc (.cells #[] 101)) := (Below.refl _ _).alloc (Nat.le_refl _) _
      have KX := Lib.hid (hKd.out.below hA hKd.out.lt)
      have ZX := Lib.hid (hKz.out.below hA hKz.out.lt)
      have EX := Lib.hid (Blk.new wr #[] 101)
      have OX := Lib.hid (HOf.out.below hA)
      have BX := Lib.hid (hBw.out.alloc (show base ≤ wr.heap.size by omega) (.cells #[] 101))
      have TX := Lib.hid (hOt.out.trans (othersS_below hA))
      have PX := Lib.hid (hKp.out.trans (by omega) (KeepR.of_below hA))
      have hszr : w.heap.size ≤ wr.heap.size := by omega
      obtain ⟨x0, x1, x2, x3, x4⟩ : (wr.alloc (.cells #[] 101)).cell? ⟨w.heap.size, 0, none⟩ = some (.int .i64 st) ∧ (wr.alloc (.cells #[] 101)).cell? ⟨w.heap.size, 1, none⟩ = some (.slice (some ⟨g1, 0, none⟩) xs.length c1) ∧ (wr.alloc (.cells #[] 101)).cell? ⟨w.heap.size, 2, none⟩ = some (.slice (some ⟨g2, 0, none⟩) ys.length c2) ∧ (wr.alloc (.cells #[] 101)).cell? ⟨w.heap.size, 3, none⟩ = some (.slice (some ⟨g3, 0, none⟩) bs.length c3) ∧ (wr.alloc (.cells #[] 101)).cell? ⟨w.heap.size, 4, none⟩ = some (.slice a4 ps.length c4) := ⟨(KX.out.cell 0), (KX.out.cell 1), (KX.out.cell 2), (KX.out.cell 3), (KX.out.cell 4)⟩
      have f4 := KX.out.frozen 4
      obtain ⟨z0, z1, z2, z3, z4⟩ : (wr.alloc (.cells #[] 101)).cell? ⟨w.heap.size + 1, 0, none⟩ = some (.int .i64 0) ∧ (wr.alloc (.cells #[] 101)).cell? ⟨w.heap.size + 1, 1, none⟩ = some (.slice none 0 0) ∧ (wr.alloc (.cells #[] 101)).cell? ⟨w.heap.size + 1, 2, none⟩ = some (.slice none 0 0) ∧ (wr.alloc (.cells #[] 101)).cell? ⟨w.heap.size + 1, 3, none⟩ = some (.slice none 0 0) ∧ (wr.alloc (.cells #[] 101)).cell? ⟨w.heap.size + 1, 4, none⟩ = some (.slice none 0 0) := ⟨(ZX.out.cell 0), (ZX.out.cell 1), (ZX.out.cell 2), (ZX.out.cell 3), (ZX.out.cell 4)⟩
      have y0 := ZX.out.frozen 0
      have y1 := ZX.out.frozen 1
      have y2 := ZX.out.frozen 2
      have y3 := ZX.out.frozen 3
      have y4 := ZX.out.frozen 4
      clear hO hA
      go_wp2
      refine bodyPost_ret (v := .agg #[.int .i64 st, .slice (some ⟨g1, 0, none⟩) xs.length c1, .slice (some ⟨g2, 0, none⟩) ys.length c2, .slice (some ⟨g3, 0, none⟩) bs.length c3, .slice (some ⟨wr.heap.size, 0, none⟩) 0 0]) (by simp [results, Tryz.results84, go_sem, z0, z1, z2, z3, z4]) rfl ⟨_, rfl, ⟨_, _, _, _, (by rw [show (crashD ⟨st, xs, ys, bs, ps⟩ (-1)).state = st from (crashTo_wait _ _ _).2]), ?_⟩, ?_, ?_, ?_, ?_⟩
      · have m0 := own4_set OX.out KX.out (by decide) (by decide) (by decide) 4 (.slice (some ⟨wr.heap.size, 0, none⟩) 0 0)
        have e0 := EX.out.other w.heap.size 4 (.slice (some ⟨wr.heap.size, 0, none⟩) 0 0) (by omega)
        have k0 := ZX.out.other w.heap.size 4 (.slice (some ⟨wr.heap.size, 0, none⟩) 0 0) (by omega)
        have k1 := k0.set 0 (.int .i64 st)
        have k2 := k1.set 1 (.slice (some ⟨g1, 0, none⟩) xs.length c1)
        have k3 := k2.set 2 (.slice (some ⟨g2, 0, none⟩) ys.length c2)
        have k4 := k3.set 3 (.slice (some ⟨g3, 0, none⟩) bs.length c3)
        have m1 := own4_set m0 k0 (by decide) (by decide) (by decide) 0 (.int .i64 st)
        have m2 := own4_set m1 k1 (by decide) (by decide) (by decide) 1 (.slice (some ⟨g1, 0, none⟩) xs.length c1)
        have m3 := own4_set m2 k2 (by decide) (by decide) (by decide) 2 (.slice (some ⟨g2, 0, none⟩) ys.length c2)
        have m4 := own4_set m3 k3 (by decide) (by decide) (by decide) 3 (.slice (some ⟨g3, 0, none⟩) bs.length c3)
        have m5 := own4_set m4 k4 (by decide) (by decide) (by decide) 4 (.slice (some ⟨wr.heap.size, 0, none⟩) 0 0)
        have e5 := ((((e0.other (w.heap.size + 1) 0 (.int .i64 st) (by omega)).other (w.heap.size + 1) 1 (.slice (some ⟨g1, 0, none⟩) xs.length c1) (by omega)).other (w.heap.size + 1) 2 (.slice (some ⟨g2, 0, none⟩) ys.length c2) (by omega)).other (w.heap.size + 1) 3 (.slice (some ⟨g3, 0, none⟩) bs.length c3) (by omega)).other (w.heap.size + 1) 4 (.slice (some ⟨wr.heap.size, 0, none⟩) 0 0) (by omega)
        exact ⟨m5.1, m5.2.1, m5.2.2.1, own_of_blk (n := 0) (K := 3) e5 (by omega) rfl (by simp [maxLen]), m5.2.2.2.2⟩
      · exact (((((BX.out.setCell (p := ⟨w.heap.size, 4, none⟩) hb _).setCell (p := ⟨w.heap.size + 1, 0, none⟩) (by simp; omega) _).setCell (p := ⟨w.heap.size + 1, 1, none⟩) (by simp; omega) _).setCell (p := ⟨w.heap.size + 1, 2, none⟩) (by simp; omega) _).setCell (p := ⟨w.heap.size + 1, 3, none⟩) (by simp; omega) _).setCell (p := ⟨w.heap.size + 1, 4, none⟩) (by simp; omega) _
      · exact (((((TX.out.set_new (Nat.le_refl _) 4 _).set_new (by omega) 0 _).set_new (by omega) 1 _).set_new (by omega) 2 _).set_new (by omega) 3 _).set_new (by omega) 4 _
      · exact (PX.out.set_new (Nat.le_refl _) 4 _).sets (by omega) _ _ _ _ _
      · exact FromR.mk (fun E e => by cases e; exact .inr hszr)

set_option maxRecDepth 100000 in
set_option maxHeartbeats 4000000 in
theorem l3Write_lowK (base : Nat) (v1 v2 v3 v4 : Value) (d : DiskD) (p : PutD) (w : World) (hb : base ≤ w.heap.size) (hs : d.state ≠ 1) (hlen : d.wait.length < 40) (ho : Own4 w base v1 v2 v3 v4 d) :
    Calls Tryz.prog 62 #[.agg #[.int .i64 d.state, v1, v2, v3, v4], .agg #[.bool p.ring, .int .i64 p.pos, .string p.text]] w fun e w' => ∃ v, e = .returned v ∧ OwnDisk w' base v ⟨d.state, d.slots, d.rings, d.spoilt, d.wait ++ [p]⟩ ∧ Below base w w' ∧ Others w w' ∧ KeepR v1 v2 v3 v4 w w' ∧ FromR v1 v2 v3 v4 w.heap.size v := by
  obtain ⟨st, xs, ys, bs, ps⟩ := d
  obtain ⟨a1, c1, rfl, _⟩ := OwnTx.reads ho.1
  obtain ⟨a2, c2, rfl, _⟩ := OwnTx.reads ho.2.1
  obtain ⟨a3, c3, rfl, _⟩ := OwnBo.reads ho.2.2.1
  obtain ⟨a4, c4, rfl, _⟩ := OwnPu.reads ho.2.2.2.1
  simp only at ho hs hlen ⊢
  have hB : Below w.heap.size w (((w.alloc (.cells #[.int .i64 st, .slice a1 xs.length c1, .slice a2 ys.length c2, .slice a3 bs.length c3, .slice a4 ps.length c4] 50)).alloc (.cells #[.bool p.ring, .int .i64 p.pos, .string p.text] 101)).alloc (.cells #[.int .i64 0, .slice none 0 0, .slice none 0 0, .slice none 0 0, .slice none 0 0] 50)) := (((Below.refl _ _).alloc (Nat.le_refl _) _).alloc (by simp) _).alloc (by simp; omega) _
  have HB := Lib.hid hB
  have hR : Blk (((w.alloc (.cells #[.int .i64 st, .slice a1 xs.length c1, .slice a2 ys.length c2, .slice a3 bs.length c3, .slice a4 ps.length c4] 50)).alloc (.cells #[.bool p.ring, .int .i64 p.pos, .string p.text] 101)).alloc (.cells #[.int .i64 0, .slice none 0 0, .slice none 0 0, .slice none 0 0, .slice none 0 0] 50)) (w.heap.size + 2) #[.int .i64 0, .slice none 0 0, .slice none 0 0, .slice none 0 0, .slice none 0 0] 50 := by
    have := Blk.new ((w.alloc (.cells #[.int .i64 st, .slice a1 xs.length c1, .slice a2 ys.length c2, .slice a3 bs.length c3, .slice a4 ps.length c4] 50)).alloc (.cells #[.bool p.ring, .int .i64 p.pos, .string p.text] 101)) #[.int .i64 0, .slice none 0 0, .slice none 0 0, .slice none 0 0, .slice none 0 0] 50
    rw [World.size_alloc, World.size_alloc] at this
    exact this
  have HR := Lib.hid hR
  have hP : Blk (((w.alloc (.cells #[.int .i64 st, .slice a1 xs.length c1, .slice a2 ys.length c2, .slice a3 bs.length c3, .slice a4 ps.length c4] 50)).alloc (.cells #[.bool p.ring, .int .i64 p.pos, .string p.text] 101)).alloc (.cells #[.int .i64 0, .slice none 0 0, .slice none 0 0, .slice none 0 0, .slice none 0 0] 50)) (w.heap.size + 1) #[.bool p.ring, .int .i64 p.pos, .string p.text] 101 := by
    have := Blk.new (w.alloc (.cells #[.int .i64 st, .slice a1 xs.length c1, .slice a2 ys.length c2, .slice a3 bs.length c3, .slice a4 ps.length c4] 50)) #[.bool p.ring, .int .i64 p.pos, .string p.text] 101
    rw [World.size_alloc] at this
    exact this.below (n := w.heap.size + 2) ((Below.refl _ _).alloc (by simp) _) (by omega)
  have HP := Lib.hid hP
  have hs2 : (((w.alloc (.cells #[.int .i64 st, .slice a1 xs.length c1, .slice a2 ys.length c2, .slice a3 bs.length c3, .slice a4 ps.length c4] 50)).alloc (.cells #[.bool p.ring, .int .i64 p.pos, .string p.text] 101)).alloc (.cells #[.int .i64 0, .slice none 0 0, .slice none 0 0, .slice none 0 0, .slice none 0 0] 50)).heap.size = w.heap.size + 3 := by simp
  have Hs2 := Lib.hid hs2
  clear hB hR hs2 hP
  have HKd := Lib.hid (show Blk (((w.alloc (.cells #[.int .i64 st, .slice a1 xs.length c1, .slice a2 ys.length c2, .slice a3 bs.length c3, .slice a4 ps.length c4] 50)).alloc (.cells #[.bool p.ring, .int .i64 p.pos, .string p.text] 101)).alloc (.cells #[.int .i64 0, .slice none 0 0, .slice none 0 0, .slice none 0 0, .slice none 0 0] 50)) w.heap.size #[.int .i64 st, .slice a1 xs.length c1, .slice a2 ys.length c2, .slice a3 bs.length c3, .slice a4 ps.length c4] 50 from ((Blk.new w _ _).below (n := w.heap.size + 1) ((Below.refl _ _).alloc (by simp) _) (by omega)).below (n := w.heap.size + 1) ((Below.refl _ _).alloc (by simp) _) (by omega))
  have HO := Lib.hid (ho.below HB.out)
  have es : (st == 1) = false := beq_eq_false_iff_ne.2 hs
  have e40 : ((ps.length : Int) == 40) = false := beq_eq_false_iff_ne.2 (by omega)
  obtain ⟨i0, hi0, hz0, hz1, hz2⟩ := info_parts infoPu
  clear ho hs
  go_enter Tryz.func62, Tryz.ntmps62
  go_upto_region 5 with (fail)
  generalize (((w.alloc (.cells #[.int .i64 st, .slice a1 xs.length c1, .slice a2 ys.length c2, .slice a3 bs.length c3, .slice a4 ps.length c4] 50)).alloc (.cells #[.bool p.ring, .int .i64 p.pos, .string p.text] 101)).alloc (.cells #[.int .i64 0, .slice none 0 0, .slice none 0 0, .slice none 0 0, .slice none 0 0] 50)) = W at HB HR HP Hs2 HKd HO ⊢
  obtain ⟨x0, x1, x2, x3, x4⟩ : W.cell? ⟨w.heap.size, 0, none⟩ = some (.int .i64 st) ∧ W.cell? ⟨w.heap.size, 1, none⟩ = some (.slice a1 xs.length c1) ∧ W.cell? ⟨w.heap.size, 2, none⟩ = some (.slice a2 ys.length c2) ∧ W.cell? ⟨w.heap.size, 3, none⟩ = some (.slice a3 bs.length c3) ∧ W.cell? ⟨w.heap.size, 4, none⟩ = some (.slice a4 ps.length c4) := ⟨(HKd.out.cell 0), (HKd.out.cell 1), (HKd.out.cell 2), (HKd.out.cell 3), (HKd.out.cell 4)⟩
  have g0 := HKd.out.frozen 0
  have g1 := HKd.out.frozen 1
  have g2 := HKd.out.frozen 2
  have g3 := HKd.out.frozen 3
  have g4 := HKd.out.frozen 4
  obtain ⟨q0, q1, q2⟩ : W.cell? ⟨w.heap.size + 1, 0, none⟩ = some (.bool p.ring) ∧ W.cell? ⟨w.heap.size + 1, 1, none⟩ = some (.int .i64 p.pos) ∧ W.cell? ⟨w.heap.size + 1, 2, none⟩ = some (.string p.text) := ⟨HP.out.cell 0, HP.out.cell 1, HP.out.cell 2⟩
  have hown := HO.out.2.2.2.1
  unfold OwnPu at hown
  have hsz : W.heap.size = w.heap.size + 3 := Hs2.out
  have Hsz := Lib.hid hsz
  clear hsz
  have HAl := Lib.hid (show Below W.heap.size W (W.alloc (.cells #[.bool p.ring, .int .i64 p.pos, .string p.text] 101)) from (Below.refl _ _).alloc (Nat.le_refl _) _)
  have hbW : base ≤ W.heap.size := by have := Hsz.out; omega
  have Hne := Lib.hid (show ∀ E cs, Blk W E cs 50 → (Value.slice a4 ps.length c4).ownBlock ≠ some E from fun E cs h => own_blk_ne hown h (by decide))
  have n1 := Lib.hid (own_apart (HO.out.2.2.2.1) HO.out.1 (by decide))
  have n2 := Lib.hid (own_apart (HO.out.2.2.2.1) HO.out.2.1 (by decide))
  have n3 := Lib.hid (own_apart (HO.out.2.2.2.1) HO.out.2.2.1 (by decide))
  have Hlt := Lib.hid (show ∀ i, (Value.slice a4 ps.length c4).ownBlock = some i → base ≤ i from fun i h => (hown.lt i h).1)
  go_wp2_with (at_builtin; refine wpList_append_lies _ rfl _ _ 48 rfl base 101 i0 _ 3 32 Tryz.underlying48 hi0 hz0 hz1 hz2 rfl (by omega) _ ps.length (puC ps) rfl (hown.alloc _) ⟨W.heap.size, 0, none⟩ 1 1 (puC [p]) rfl rfl (World.news_of_block (cs := #[.bool p.ring, .int .i64 p.pos, .string p.text]) (t := 101) (fr := (0, 0)) (heap_alloc_new W _)) (by simp [puC, Value.oneCell']) (by omega) (by simp [maxLen]; omega) (by omega) (by simp; omega) _ rfl ?_; intro g cap w4 hown4 hgrow4 hat4 hlt4; have KD4 := Lib.hid ((HKd.out.below HAl.out HKd.out.lt).gb hgrow4 (Hne.out _ _ HKd.out)); have KR4 := Lib.hid ((HR.out.below HAl.out HR.out.lt).gb hgrow4 (Hne.out _ _ HR.out)); obtain ⟨m0, m1, m2, m3, m4⟩ : w4.cell? ⟨w.heap.size, 0, none⟩ = some (.int .i64 st) ∧ w4.cell? ⟨w.heap.size, 1, none⟩ = some (.slice a1 xs.length c1) ∧ w4.cell? ⟨w.heap.size, 2, none⟩ = some (.slice a2 ys.length c2) ∧ w4.cell? ⟨w.heap.size, 3, none⟩ = some (.slice a3 bs.length c3) ∧ w4.cell? ⟨w.heap.size, 4, none⟩ = some (.slice a4 ps.length c4) := ⟨(KD4.out.cell 0), (KD4.out.cell 1), (KD4.out.cell 2), (KD4.out.cell 3), (KD4.out.cell 4)⟩; have j4 := KD4.out.frozen 4; obtain ⟨y0, y1, y2, y3, y4⟩ : w4.cell? ⟨w.heap.size + 2, 0, none⟩ = some (.int .i64 0) ∧ w4.cell? ⟨w.heap.size + 2, 1, none⟩ = some (.slice none 0 0) ∧ w4.cell? ⟨w.heap.size + 2, 2, none⟩ = some (.slice none 0 0) ∧ w4.cell? ⟨w.heap.size + 2, 3, none⟩ = some (.slice none 0 0) ∧ w4.cell? ⟨w.heap.size + 2, 4, none⟩ = some (.slice none 0 0) := ⟨(KR4.out.cell 0), (KR4.out.cell 1), (KR4.out.cell 2), (KR4.out.cell 3), (KR4.out.cell 4)⟩; have f0 := KR4.out.frozen 0; have f1 := KR4.out.frozen 1; have f2 := KR4.out.frozen 2; have f3 := KR4.out.frozen 3; have f4 := KR4.out.frozen 4)
  refine bodyPost_ret (v := .agg #[.int .i64 st, .slice a1 xs.length c1, .slice a2 ys.length c2, .slice a3 bs.length c3, .slice (some ⟨g, 0, none⟩) (ps.length + 1) cap]) (by simp [results, Tryz.results62, go_sem, y0, y1, y2, y3, y4]) rfl ⟨_, rfl, ⟨_, _, _, _, rfl, ?_⟩, ?_, ?_, ?_, ?_⟩
  · have h1 := own_gb (own_below HO.out.1 HAl.out) hgrow4 n1.out
    have h2 := own_gb (own_below HO.out.2.1 HAl.out) hgrow4 n2.out
    have h3 := own_gb (own_below HO.out.2.2.1 HAl.out) hgrow4 n3.out
    have h : Own4 w4 base _ _ _ (.slice (some ⟨g, 0, none⟩) (ps.length + 1) cap) ⟨st, xs, ys, bs, ps ++ [p]⟩ := ⟨h1, h2, h3, by unfold OwnPu; rw [puC_append, List.length_append, List.length_singleton]; exact hown4, HO.out.2.2.2.2⟩
    have h' := own4_set h KD4.out (by decide) (by decide) (by decide) 4 (.slice (some ⟨g, 0, none⟩) (ps.length + 1) cap)
    exact own4_sets h' (KR4.out.other w.heap.size 4 _ (by omega))
  · exact sets_below ((((HB.out.mono hb).trans (HAl.out.mono hbW)).grown hgrow4 (by have := hgrow4.size; have := HAl.out.size; omega) Hlt.out).setCell (p := ⟨w.heap.size, 4, none⟩) hb _) (by omega)
  · have hO4 : Others w w4 := fun E cs t q1 q2 q3 hE => ((hE.below HB.out hE.lt).below HAl.out (hE.below HB.out hE.lt).lt).gb hgrow4 (own_blk_ne hown (hE.below HB.out hE.lt) q3)
    exact sets_others (hO4.set_new (Nat.le_refl _) 4 _) (by omega)
  · exact ((((KeepR.of_below HB.out).trans HB.out.size (KeepR.of_below HAl.out)).grown (Nat.le_trans HB.out.size HAl.out.size) hgrow4 (fun E e => .inl e)).set_new (Nat.le_refl _) 4 _).sets (by omega) _ _ _ _ _
  · exact FromR.mk (fun E e => by
      rcases hat4 with q | q
      · exact .inl (q.trans e)
      · cases e; right; rw [q]; exact Nat.le_trans HB.out.size HAl.out.size)

set_option maxRecDepth 100000 in
set_option maxHeartbeats 4000000 in
theorem l3Write_goneK (base : Nat) (v1 v2 v3 v4 : Value) (d : DiskD) (p : PutD) (w : World) (hb : base ≤ w.heap.size) (hs : d.state = 1) (ho : Own4 w base v1 v2 v3 v4 d) :
    Calls Tryz.prog 62 #[.agg #[.int .i64 d.state, v1, v2, v3, v4], .agg #[.bool p.ring, .int .i64 p.pos, .string p.text]] w fun e w' => ∃ v, e = .returned v ∧ OwnDisk w' base v d ∧ Below base w w' ∧ Others w w' ∧ KeepR v1 v2 v3 v4 w w' ∧ FromR v1 v2 v3 v4 w.heap.size v := by
  obtain ⟨st, xs, ys, bs, ps⟩ := d
  obtain ⟨a1, c1, rfl, _⟩ := OwnTx.reads ho.1
  obtain ⟨a2, c2, rfl, _⟩ := OwnTx.reads ho.2.1
  obtain ⟨a3, c3, rfl, _⟩ := OwnBo.reads ho.2.2.1
  obtain ⟨a4, c4, rfl, _⟩ := OwnPu.reads ho.2.2.2.1
  simp only at ho hs ⊢
  subst hs
  have HO0 := Lib.hid ho
  clear ho
  go_enter Tryz.func62, Tryz.ntmps62
  go_wp2
  refine bodyPost_ret (v := .agg #[.int .i64 1, .slice a1 xs.length c1, .slice a2 ys.length c2, .slice a3 bs.length c3, .slice a4 ps.length c4]) (by simp [results, Tryz.results62, go_sem]) rfl ⟨_, rfl, ⟨_, _, _, _, rfl, ?_⟩, ?_, ?_, ?_, ?_⟩
  · exact HO0.out.below ((((Below.refl _ _).alloc (Nat.le_refl _) _).alloc (by simp) _).alloc (by simp; omega) _)
  · exact (((Below.refl base w).alloc hb _).alloc (by simp; omega) _).alloc (by simp; omega) _
  · exact others_below ((((Below.refl _ _).alloc (Nat.le_refl _) _).alloc (by simp) _).alloc (by simp; omega) _)
  · exact KeepR.of_below ((((Below.refl _ _).alloc (Nat.le_refl _) _).alloc (by simp) _).alloc (by simp; omega) _)
  · exact FromR.mk (fun E e => .inl e)

set_option maxRecDepth 100000 in
set_option maxHeartbeats 4000000 in
theorem l3Write_fullK (base : Nat) (v1 v2 v3 v4 : Value) (d : DiskD) (p : PutD) (w : World) (hb : base ≤ w.heap.size) (hr : HasRows d) (hps : AllPu PutOk d.wait) (hs : d.state ≠ 1) (hlen : d.wait.length = 40) (ho : Own4 w base v1 v2 v3 v4 d) :
    Calls Tryz.prog 62 #[.agg #[.int .i64 d.state, v1, v2, v3, v4], .agg #[.bool p.ring, .int .i64 p.pos, .string p.text]] w fun e w' => ∃ v, e = .returned v ∧ OwnDisk w' base v ⟨(crashD d (-1)).state, (crashD d (-1)).slots, (crashD d (-1)).rings, (crashD d (-1)).spoilt, (crashD d (-1)).wait ++ [p]⟩ ∧ Below base w w' ∧ Others w w' ∧ KeepR v1 v2 v3 v4 w w' ∧ FromR v1 v2 v3 v4 w.heap.size v := by
  have HFl := Lib.hid (fun W h1 ho => l3Flush_anyK base v1 v2 v3 v4 d W h1 hr hps (by omega) ho)
  have hw0 : (crashD d (-1)).wait.length ≤ 100 := by simp [crashD]
  generalize crashD d (-1) = de at HFl hw0
  obtain ⟨st, xs, ys, bs, ps⟩ := d
  obtain ⟨a1, c1, rfl, _⟩ := OwnTx.reads ho.1
  obtain ⟨a2, c2, rfl, _⟩ := OwnTx.reads ho.2.1
  obtain ⟨a3, c3, rfl, _⟩ := OwnBo.reads ho.2.2.1
  obtain ⟨a4, c4, rfl, _⟩ := OwnPu.reads ho.2.2.2.1
  simp only at ho hs hlen HFl ⊢
  have hB : Below w.heap.size w (((w.alloc (.cells #[.int .i64 st, .slice a1 xs.length c1, .slice a2 ys.length c2, .slice a3 bs.length c3, .slice a4 ps.length c4] 50)).alloc (.cells #[.bool p.ring, .int .i64 p.pos, .string p.text] 101)).alloc (.cells #[.int .i64 0, .slice none 0 0, .slice none 0 0, .slice none 0 0, .slice none 0 0] 50)) := (((Below.refl _ _).alloc (Nat.le_refl _) _).alloc (by simp) _).alloc (by simp; omega) _
  have HB := Lib.hid hB
  have hR : Blk (((w.alloc (.cells #[.int .i64 st, .slice a1 xs.length c1, .slice a2 ys.length c2, .slice a3 bs.length c3, .slice a4 ps.length c4] 50)).alloc (.cells #[.bool p.ring, .int .i64 p.pos, .string p.text] 101)).alloc (.cells #[.int .i64 0, .slice none 0 0, .slice none 0 0, .slice none 0 0, .slice none 0 0] 50)) (w.heap.size + 2) #[.int .i64 0, .slice none 0 0, .slice none 0 0, .slice none 0 0, .slice none 0 0] 50 := by
    have := Blk.new ((w.alloc (.cells #[.int .i64 st, .slice a1 xs.length c1, .slice a2 ys.length c2, .slice a3 bs.length c3, .slice a4 ps.length c4] 50)).alloc (.cells #[.bool p.ring, .int .i64 p.pos, .string p.text] 101)) #[.int .i64 0, .slice none 0 0, .slice none 0 0, .slice none 0 0, .slice none 0 0] 50
    rw [World.size_alloc, World.size_alloc] at this
    exact this
  have HR := Lib.hid hR
  have hP : Blk (((w.alloc (.cells #[.int .i64 st, .slice a1 xs.length c1, .slice a2 ys.length c2, .slice a3 bs.length c3, .slice a4 ps.length c4] 50)).alloc (.cells #[.bool p.ring, .int .i64 p.pos, .string p.text] 101)).alloc (.cells #[.int .i64 0, .slice none 0 0, .slice none 0 0, .slice none 0 0, .slice none 0 0] 50)) (w.heap.size + 1) #[.bool p.ring, .int .i64 p.pos, .string p.text] 101 := by
    have := Blk.new (w.alloc (.cells #[.int .i64 st, .slice a1 xs.length c1, .slice a2 ys.length c2, .slice a3 bs.length c3, .slice a4 ps.length c4] 50)) #[.bool p.ring, .int .i64 p.pos, .string p.text] 101
    rw [World.size_alloc] at this
    exact this.below (n := w.heap.size + 2) ((Below.refl _ _).alloc (by simp) _) (by omega)
  have HP := Lib.hid hP
  have hs2 : (((w.alloc (.cells #[.int .i64 st, .slice a1 xs.length c1, .slice a2 ys.length c2, .slice a3 bs.length c3, .slice a4 ps.length c4] 50)).alloc (.cells #[.bool p.ring, .int .i64 p.pos, .string p.text] 101)).alloc (.cells #[.int .i64 0, .slice none 0 0, .slice none 0 0, .slice none 0 0, .slice none 0 0] 50)).heap.size = w.heap.size + 3 := by simp
  have Hs2 := Lib.hid hs2
  clear hB hR hs2 hP
  have HKd := Lib.hid (show Blk (((w.alloc (.cells #[.int .i64 st, .slice a1 xs.length c1, .slice a2 ys.length c2, .slice a3 bs.length c3, .slice a4 ps.length c4] 50)).alloc (.cells #[.bool p.ring, .int .i64 p.pos, .string p.text] 101)).alloc (.cells #[.int .i64 0, .slice none 0 0, .slice none 0 0, .slice none 0 0, .slice none 0 0] 50)) w.heap.size #[.int .i64 st, .slice a1 xs.length c1, .slice a2 ys.length c2, .slice a3 bs.length c3, .slice a4 ps.length c4] 50 from ((Blk.new w _ _).below (n := w.heap.size + 1) ((Below.refl _ _).alloc (by simp) _) (by omega)).below (n := w.heap.size + 1) ((Below.refl _ _).alloc (by simp) _) (by omega))
  have HO := Lib.hid (ho.below HB.out)
  have es : (st == 1) = false := beq_eq_false_iff_ne.2 hs
  have e40 : ((ps.length : Int) == 40) = true := beq_iff_eq.2 (by omega)
  obtain ⟨i0, hi0, hz0, hz1, hz2⟩ := info_parts infoPu
  clear ho hs hr hps hlen
  go_enter Tryz.func62, Tryz.ntmps62
  go_wp2_with fail
  generalize (((w.alloc (.cells #[.int .i64 st, .slice a1 xs.length c1, .slice a2 ys.length c2, .slice a3 bs.length c3, .slice a4 ps.length c4] 50)).alloc (.cells #[.bool p.ring, .int .i64 p.pos, .string p.text] 101)).alloc (.cells #[.int .i64 0, .slice none 0 0, .slice none 0 0, .slice none 0 0, .slice none 0 0] 50)) = W at HB HR HP Hs2 HKd HO ⊢
  have hbW : base ≤ W.heap.size := by have := Hs2.out; omega
  refine (HFl.out _ hbW HO.out).mono ?_
  rintro e w1 ⟨vf, rfl, hof, hB1, hot1, hkp1, hfr1⟩
  obtain ⟨f1, f2, f3, f4, rfl, h4f⟩ := hof
  obtain ⟨b1, e1, rfl, _⟩ := OwnTx.reads h4f.1
  obtain ⟨b2, e2, rfl, _⟩ := OwnTx.reads h4f.2.1
  obtain ⟨b3, e3, rfl, _⟩ := OwnBo.reads h4f.2.2.1
  obtain ⟨b4, e4, rfl, _⟩ := OwnPu.reads h4f.2.2.2.1
  have K1 := Lib.hid (hot1 _ _ _ (by decide) (by decide) HKd.out)
  have R1 := Lib.hid (hot1 _ _ _ (by decide) (by decide) HR.out)
  have P1 := Lib.hid (hot1 _ _ _ (by decide) (by decide) HP.out)
  have B1 := Lib.hid ((HB.out.mono hb).trans hB1)
  have T1 := Lib.hid ((othersS_below HB.out).trans hot1)
  have P1K := Lib.hid ((KeepR.of_below HB.out).trans HB.out.size hkp1)
  have hWs := HB.out.size
  obtain ⟨r1, r2, r3, r4⟩ := hfr1.inv
  have FR := Lib.hid (And.intro r1 (And.intro r2 r3))
  have FR4 := Lib.hid r4
  clear hkp1 hfr1 r1 r2 r3 r4
  have s1 : w.heap.size + 3 ≤ w1.heap.size := by have := Hs2.out; have := hB1.size; omega
  have HF := Lib.hid h4f
  clear h4f hB1 hot1 HO HB
  obtain ⟨x0, x1, x2, x3, x4⟩ : w1.cell? ⟨w.heap.size, 0, none⟩ = some (.int .i64 st) ∧ w1.cell? ⟨w.heap.size, 1, none⟩ = some (.slice a1 xs.length c1) ∧ w1.cell? ⟨w.heap.size, 2, none⟩ = some (.slice a2 ys.length c2) ∧ w1.cell? ⟨w.heap.size, 3, none⟩ = some (.slice a3 bs.length c3) ∧ w1.cell? ⟨w.heap.size, 4, none⟩ = some (.slice a4 ps.length c4) := ⟨(K1.out.cell 0), (K1.out.cell 1), (K1.out.cell 2), (K1.out.cell 3), (K1.out.cell 4)⟩
  have g0 := K1.out.frozen 0
  have g1 := K1.out.frozen 1
  have g2 := K1.out.frozen 2
  have g3 := K1.out.frozen 3
  have g4 := K1.out.frozen 4
  -- the box holds what was flushed
  have k5 := Lib.hid (show Blk (((((w1.setCell ⟨w.heap.size, 0, none⟩ (.int .i64 de.state)).setCell ⟨w.heap.size, 1, none⟩ (.slice b1 de.slots.length e1)).setCell ⟨w.heap.size, 2, none⟩ (.slice b2 de.rings.length e2)).setCell ⟨w.heap.size, 3, none⟩ (.slice b3 de.spoilt.length e3)).setCell ⟨w.heap.size, 4, none⟩ (.slice b4 de.wait.length e4)) w.heap.size #[.int .i64 de.state, .slice b1 de.slots.length e1, .slice b2 de.rings.length e2, .slice b3 de.spoilt.length e3, .slice b4 de.wait.length e4] 50 from ((((K1.out.set 0 _).set 1 _).set 2 _).set 3 _).set 4 _)
  have r5 := Lib.hid (show Blk (((((w1.setCell ⟨w.heap.size, 0, none⟩ (.int .i64 de.state)).setCell ⟨w.heap.size, 1, none⟩ (.slice b1 de.slots.length e1)).setCell ⟨w.heap.size, 2, none⟩ (.slice b2 de.rings.length e2)).setCell ⟨w.heap.size, 3, none⟩ (.slice b3 de.spoilt.length e3)).setCell ⟨w.heap.size, 4, none⟩ (.slice b4 de.wait.length e4)) (w.heap.size + 2) #[.int .i64 0, .slice none 0 0, .slice none 0 0, .slice none 0 0, .slice none 0 0] 50 from ((((R1.out.other w.heap.size 0 _ (by omega)).other w.heap.size 1 _ (by omega)).other w.heap.size 2 _ (by omega)).other w.heap.size 3 _ (by omega)).other w.heap.size 4 _ (by omega))
  have q5 := Lib.hid (show Blk (((((w1.setCell ⟨w.heap.size, 0, none⟩ (.int .i64 de.state)).setCell ⟨w.heap.size, 1, none⟩ (.slice b1 de.slots.length e1)).setCell ⟨w.heap.size, 2, none⟩ (.slice b2 de.rings.length e2)).setCell ⟨w.heap.size, 3, none⟩ (.slice b3 de.spoilt.length e3)).setCell ⟨w.heap.size, 4, none⟩ (.slice b4 de.wait.length e4)) (w.heap.size + 1) #[.bool p.ring, .int .i64 p.pos, .string p.text] 101 from ((((P1.out.other w.heap.size 0 _ (by omega)).other w.heap.size 1 _ (by omega)).other w.heap.size 2 _ (by omega)).other w.heap.size 3 _ (by omega)).other w.heap.size 4 _ (by omega))
  have o5 := Lib.hid (show Own4 (((((w1.setCell ⟨w.heap.size, 0, none⟩ (.int .i64 de.state)).setCell ⟨w.heap.size, 1, none⟩ (.slice b1 de.slots.length e1)).setCell ⟨w.heap.size, 2, none⟩ (.slice b2 de.rings.length e2)).setCell ⟨w.heap.size, 3, none⟩ (.slice b3 de.spoilt.length e3)).setCell ⟨w.heap.size, 4, none⟩ (.slice b4 de.wait.length e4)) base _ _ _ _ de from own4_sets HF.out K1.out)
  have m5 := Lib.hid (show Below base w (((((w1.setCell ⟨w.heap.size, 0, none⟩ (.int .i64 de.state)).setCell ⟨w.heap.size, 1, none⟩ (.slice b1 de.slots.length e1)).setCell ⟨w.heap.size, 2, none⟩ (.slice b2 de.rings.length e2)).setCell ⟨w.heap.size, 3, none⟩ (.slice b3 de.spoilt.length e3)).setCell ⟨w.heap.size, 4, none⟩ (.slice b4 de.wait.length e4)) from sets_below B1.out hb)
  have t5 := Lib.hid (show OthersS w (((((w1.setCell ⟨w.heap.size, 0, none⟩ (.int .i64 de.state)).setCell ⟨w.heap.size, 1, none⟩ (.slice b1 de.slots.length e1)).setCell ⟨w.heap.size, 2, none⟩ (.slice b2 de.rings.length e2)).setCell ⟨w.heap.size, 3, none⟩ (.slice b3 de.spoilt.length e3)).setCell ⟨w.heap.size, 4, none⟩ (.slice b4 de.wait.length e4)) from ((((T1.out.set_new (Nat.le_refl _) 0 _).set_new (Nat.le_refl _) 1 _).set_new (Nat.le_refl _) 2 _).set_new (Nat.le_refl _) 3 _).set_new (Nat.le_refl _) 4 _)
  have kp5 := Lib.hid (show KeepR (.slice a1 xs.length c1) (.slice a2 ys.length c2) (.slice a3 bs.length c3) (.slice a4 ps.length c4) w (((((w1.setCell ⟨w.heap.size, 0, none⟩ (.int .i64 de.state)).setCell ⟨w.heap.size, 1, none⟩ (.slice b1 de.slots.length e1)).setCell ⟨w.heap.size, 2, none⟩ (.slice b2 de.rings.length e2)).setCell ⟨w.heap.size, 3, none⟩ (.slice b3 de.spoilt.length e3)).setCell ⟨w.heap.size, 4, none⟩ (.slice b4 de.wait.length e4)) from P1K.out.sets (Nat.le_refl _) _ _ _ _ _)
  have s5 : w.heap.size + 3 ≤ (((((w1.setCell ⟨w.heap.size, 0, none⟩ (.int .i64 de.state)).setCell ⟨w.heap.size, 1, none⟩ (.slice b1 de.slots.length e1)).setCell ⟨w.heap.size, 2, none⟩ (.slice b2 de.rings.length e2)).setCell ⟨w.heap.size, 3, none⟩ (.slice b3 de.spoilt.length e3)).setCell ⟨w.heap.size, 4, none⟩ (.slice b4 de.wait.length e4)).heap.size := by simpa using s1
  go_upto_region 5 with (fail)
  generalize (((((w1.setCell ⟨w.heap.size, 0, none⟩ (.int .i64 de.state)).setCell ⟨w.heap.size, 1, none⟩ (.slice b1 de.slots.length e1)).setCell ⟨w.heap.size, 2, none⟩ (.slice b2 de.rings.length e2)).setCell ⟨w.heap.size, 3, none⟩ (.slice b3 de.spoilt.length e3)).setCell ⟨w.heap.size, 4, none⟩ (.slice b4 de.wait.length e4)) = Y at k5 r5 q5 o5 m5 t5 kp5 s5 ⊢
  obtain ⟨u0, u1, u2, u3, u4⟩ : Y.cell? ⟨w.heap.size, 0, none⟩ = some (.int .i64 de.state) ∧ Y.cell? ⟨w.heap.size, 1, none⟩ = some (.slice b1 de.slots.length e1) ∧ Y.cell? ⟨w.heap.size, 2, none⟩ = some (.slice b2 de.rings.length e2) ∧ Y.cell? ⟨w.heap.size, 3, none⟩ = some (.slice b3 de.spoilt.length e3) ∧ Y.cell? ⟨w.heap.size, 4, none⟩ = some (.slice b4 de.wait.length e4) := ⟨(k5.out.cell 0), (k5.out.cell 1), (k5.out.cell 2), (k5.out.cell 3), (k5.out.cell 4)⟩
  obtain ⟨q0, q1, q2⟩ : Y.cell? ⟨w.heap.size + 1, 0, none⟩ = some (.bool p.ring) ∧ Y.cell? ⟨w.heap.size + 1, 1, none⟩ = some (.int .i64 p.pos) ∧ Y.cell? ⟨w.heap.size + 1, 2, none⟩ = some (.string p.text) := ⟨q5.out.cell 0, q5.out.cell 1, q5.out.cell 2⟩
  have v4' := k5.out.frozen 4
  have hown := o5.out.2.2.2.1
  unfold OwnPu at hown
  have HAl := Lib.hid (show Below Y.heap.size Y (Y.alloc (.cells #[.bool p.ring, .int .i64 p.pos, .string p.text] 101)) from (Below.refl _ _).alloc (Nat.le_refl _) _)
  have Hne := Lib.hid (show ∀ E cs, Blk Y E cs 50 → (Value.slice b4 de.wait.length e4).ownBlock ≠ some E from fun E cs h => own_blk_ne hown h (by decide))
  have n1 := Lib.hid (own_apart (o5.out.2.2.2.1) o5.out.1 (by decide))
  have n2 := Lib.hid (own_apart (o5.out.2.2.2.1) o5.out.2.1 (by decide))
  have n3 := Lib.hid (own_apart (o5.out.2.2.2.1) o5.out.2.2.1 (by decide))
  have Hlt := Lib.hid (show ∀ i, (Value.slice b4 de.wait.length e4).ownBlock = some i → base ≤ i from fun i h => (hown.lt i h).1)
  clear x0 x1 x2 x3 x4 g0 g1 g2 g3 g4
  go_wp2_with (at_builtin; refine wpList_append_lies _ rfl _ _ 48 rfl base 101 i0 _ 3 32 Tryz.underlying48 hi0 hz0 hz1 hz2 rfl (by omega) _ de.wait.length (puC de.wait) rfl (hown.alloc _) ⟨Y.heap.size, 0, none⟩ 1 1 (puC [p]) rfl rfl (World.news_of_block (cs := #[.bool p.ring, .int .i64 p.pos, .string p.text]) (t := 101) (fr := (0, 0)) (heap_alloc_new Y _)) (by simp [puC, Value.oneCell']) (by omega) (by simp [maxLen]; omega) (by omega) (by simp; omega) _ rfl ?_; intro g cap w4 hown4 hgrow4 hat4 hlt4; have KD4 := Lib.hid ((k5.out.below HAl.out k5.out.lt).gb hgrow4 (Hne.out _ _ k5.out)); have KR4 := Lib.hid ((r5.out.below HAl.out r5.out.lt).gb hgrow4 (Hne.out _ _ r5.out)); obtain ⟨m0, m1, m2, m3, m4⟩ : w4.cell? ⟨w.heap.size, 0, none⟩ = some (.int .i64 de.state) ∧ w4.cell? ⟨w.heap.size, 1, none⟩ = some (.slice b1 de.slots.length e1) ∧ w4.cell? ⟨w.heap.size, 2, none⟩ = some (.slice b2 de.rings.length e2) ∧ w4.cell? ⟨w.heap.size, 3, none⟩ = some (.slice b3 de.spoilt.length e3) ∧ w4.cell? ⟨w.heap.size, 4, none⟩ = some (.slice b4 de.wait.length e4) := ⟨(KD4.out.cell 0), (KD4.out.cell 1), (KD4.out.cell 2), (KD4.out.cell 3), (KD4.out.cell 4)⟩; have j4 := KD4.out.frozen 4; obtain ⟨y0, y1, y2, y3, y4⟩ : w4.cell? ⟨w.heap.size + 2, 0, none⟩ = some (.int .i64 0) ∧ w4.cell? ⟨w.heap.size + 2, 1, none⟩ = some (.slice none 0 0) ∧ w4.cell? ⟨w.heap.size + 2, 2, none⟩ = some (.slice none 0 0) ∧ w4.cell? ⟨w.heap.size + 2, 3, none⟩ = some (.slice none 0 0) ∧ w4.cell? ⟨w.heap.size + 2, 4, none⟩ = some (.slice none 0 0) := ⟨(KR4.out.cell 0), (KR4.out.cell 1), (KR4.out.cell 2), (KR4.out.cell 3), (KR4.out.cell 4)⟩; have f0 := KR4.out.frozen 0; have f1 := KR4.out.frozen 1; have f2 := KR4.out.frozen 2; have f3 := KR4.out.frozen 3; have f4 := KR4.out.frozen 4)
  refine bodyPost_ret (v := .agg #[.int .i64 de.state, .slice b1 de.slots.length e1, .slice b2 de.rings.length e2, .slice b3 de.spoilt.length e3, .slice (some ⟨g, 0, none⟩) (de.wait.length + 1) cap]) (by simp [results, Tryz.results62, go_sem, y0, y1, y2, y3, y4]) rfl ⟨_, rfl, ⟨_, _, _, _, rfl, ?_⟩, ?_, ?_, ?_, ?_⟩
  · have h1 := own_gb (own_below o5.out.1 HAl.out) hgrow4 n1.out
    have h2 := own_gb (own_below o5.out.2.1 HAl.out) hgrow4 n2.out
    have h3 := own_gb (own_below o5.out.2.2.1 HAl.out) hgrow4 n3.out
    have h : Own4 w4 base _ _ _ (.slice (some ⟨g, 0, none⟩) (de.wait.length + 1) cap) ⟨de.state, de.slots, de.rings, de.spoilt, de.wait ++ [p]⟩ := ⟨h1, h2, h3, by unfold OwnPu; rw [puC_append, List.length_append, List.length_singleton]; exact hown4, o5.out.2.2.2.2⟩
    have h' := own4_set h KD4.out (by decide) (by decide) (by decide) 4 (.slice (some ⟨g, 0, none⟩) (de.wait.length + 1) cap)
    exact own4_sets h' (KR4.out.other w.heap.size 4 _ (by omega))
  · exact sets_below (((m5.out.trans (HAl.out.mono (by omega))).grown hgrow4 (by have := hgrow4.size; have := HAl.out.size; omega) Hlt.out).setCell (p := ⟨w.heap.size, 4, none⟩) hb _) (by omega)
  · have hO4 : Others w w4 := fun E cs t q1 q2 q3 hE => ((t5.out E cs t q1 q2 hE).below HAl.out (t5.out E cs t q1 q2 hE).lt).gb hgrow4 (own_blk_ne hown (t5.out E cs t q1 q2 hE) q3)
    exact sets_others (hO4.set_new (Nat.le_refl _) 4 _) (by omega)
  · refine (((kp5.out.trans (by omega) (KeepR.of_below HAl.out)).grown (by have := HAl.out.size; omega) hgrow4 (fun E e => ?_)).set_new (Nat.le_refl _) 4 _).sets (by omega) _ _ _ _ _
    exact (FR4.out E e).imp id (fun q => by omega)
  · obtain ⟨r1, r2, r3⟩ := FR.out
    rw [r1, r2, r3]
    refine FromR.mk (fun E e => ?_)
    rcases hat4 with q | q
    · exact (FR4.out E (q.trans e)).imp id (fun z => by omega)
    · cases e
      right
      rw [q]
      exact Nat.le_trans (show w.heap.size ≤ Y.heap.size by omega) HAl.out.size

theorem l3Write_anyK (base : Nat) (v1 v2 v3 v4 : Value) (d : DiskD) (p : PutD) (w : World) (hb : base ≤ w.heap.size) (hr : HasRows d) (hps : AllPu PutOk d.wait) (hlen : d.wait.length ≤ 40) (ho : Own4 w base v1 v2 v3 v4 d) :
    Calls Tryz.prog 62 #[.agg #[.int .i64 d.state, v1, v2, v3, v4], .agg #[.bool p.ring, .int .i64 p.pos, .string p.text]] w fun e w' => ∃ v, e = .returned v ∧ OwnDisk w' base v (putD d p) ∧ Below base w w' ∧ Others w w' ∧ KeepR v1 v2 v3 v4 w w' ∧ FromR v1 v2 v3 v4 w.heap.size v := by
  by_cases hs : d.state = 1
  · rw [show putD d p = d by unfold putD; rw [if_pos hs]]
    exact l3Write_goneK base v1 v2 v3 v4 d p w hb hs ho
  · by_cases h40 : d.wait.length = 40
    · rw [show putD d p = ⟨(crashD d (-1)).state, (crashD d (-1)).slots, (crashD d (-1)).rings, (crashD d (-1)).spoilt, (crashD d (-1)).wait ++ [p]⟩ by unfold putD putBase; rw [if_neg hs, if_pos h40]]
      exact l3Write_fullK base v1 v2 v3 v4 d p w hb hr hps hs h40 ho
    · rw [show putD d p = ⟨d.state, d.slots, d.rings, d.spoilt, d.wait ++ [p]⟩ by unfold putD putBase; rw [if_neg hs, if_neg h40]]
      exact l3Write_lowK base v1 v2 v3 v4 d p w hb hs (by omega) ho

end Go.Proofs.YtcdiengbmjkglaaGreat

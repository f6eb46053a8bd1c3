/- A write of the specification: it waits; DiskPut. Conditions: the disk is ok. -/
import Derived.Test.YtcdiengbmjkglaaGreatPKV3
import Derived.Test.YtcdiengbmjkglaaGreatPKHB
namespace Go.Proofs.YtcdiengbmjkglaaGreat
open Go.RowKit Go.Sort Go.Shelf

/-- A disk of one's own that is written, cell by cell, into a block that holds a disk. -/
theorem own4_sets {w : World} {base n : Nat} {v1 v2 v3 v4 u0 u1 u2 u3 u4 : Value} {d : DiskD} {cs : Array Value} (h : Own4 w base v1 v2 v3 v4 d) (hb : Blk w n cs 50) :
    Own4 (((((w.setCell ⟨n, 0, none⟩ u0).setCell ⟨n, 1, none⟩ u1).setCell ⟨n, 2, none⟩ u2).setCell ⟨n, 3, none⟩ u3).setCell ⟨n, 4, none⟩ u4) base v1 v2 v3 v4 d :=
  own4_set (own4_set (own4_set (own4_set (own4_set h hb (by decide) (by decide) (by decide) 0 u0) (hb.set 0 u0) (by decide) (by decide) (by decide) 1 u1) ((hb.set 0 u0).set 1 u1) (by decide) (by decide) (by decide) 2 u2) (((hb.set 0 u0).set 1 u1).set 2 u2) (by decide) (by decide) (by decide) 3 u3) ((((hb.set 0 u0).set 1 u1).set 2 u2).set 3 u3) (by decide) (by decide) (by decide) 4 u4
theorem sets_below {w w' : World} {base n : Nat} {u0 u1 u2 u3 u4 : Value} (h : Below base w w') (hn : base ≤ n) : Below base w (((((w'.setCell ⟨n, 0, none⟩ u0).setCell ⟨n, 1, none⟩ u1).setCell ⟨n, 2, none⟩ u2).setCell ⟨n, 3, none⟩ u3).setCell ⟨n, 4, none⟩ u4) :=
  ((((h.setCell (p := ⟨n, 0, none⟩) hn _).setCell (p := ⟨n, 1, none⟩) hn _).setCell (p := ⟨n, 2, none⟩) hn _).setCell (p := ⟨n, 3, none⟩) hn _).setCell (p := ⟨n, 4, none⟩) hn _
theorem sets_others {w w' : World} {n : Nat} {u0 u1 u2 u3 u4 : Value} (h : Others w w') (hn : w.heap.size ≤ n) : Others w (((((w'.setCell ⟨n, 0, none⟩ u0).setCell ⟨n, 1, none⟩ u1).setCell ⟨n, 2, none⟩ u2).setCell ⟨n, 3, none⟩ u3).setCell ⟨n, 4, none⟩ u4) :=
  ((((h.set_new hn 0 u0).set_new hn 1 u1).set_new hn 2 u2).set_new hn 3 u3).set_new hn 4 u4
theorem puC_1 (p : PutD) : puC [p] = [.bool p.ring, .int .i64 p.pos, .string p.text] := rfl

/-- THE END OF A WRITE: it goes behind all that waits. The walk from the append on, at a disk of one's own in its box. -/
def WriteEnd : Prop := True

set_option maxRecDepth 100000 in
set_option maxHeartbeats 4000000 in
theorem l3Write_low (base : Nat) (v1 v2 v3 v4 : Value) (d : DiskD) (p : PutD) (w : World) (hb : base ≤ w.heap.size) (hs : d.state ≠ 1) (hlen : d.wait.length < 40) (ho : Own4 w base v1 v2 v3 v4 d) :
    Calls Tryz.prog 62 #[.agg #[.int .i64 d.state, v1, v2, v3, v4], .agg #[.bool p.ring, .int .i64 p.pos, .string p.text]] w fun e w' => ∃ v, e = .returned v ∧ OwnDisk w' base v ⟨d.state, d.slots, d.rings, d.spoilt, d.wait ++ [p]⟩ ∧ Below base w w' ∧ Others w w' := by
  obtain ⟨st, xs, ys, bs, ps⟩ := d
  obtain ⟨a1, c1, rfl, _⟩ := OwnTx.reads ho.1
  obtain ⟨a2, c2, rfl, _⟩ := OwnTx.reads ho.2.1
  obtain ⟨a3, c3, rfl, _⟩ := OwnBo.reads ho.2.2.1
  obtain ⟨a4, c4, rfl, _⟩ := OwnPu.reads ho.2.2.2.1
  simp only at ho hs hlen ⊢
  have hB : Below w.heap.size w (((w.alloc (.cells #[.int .i64 st, .slice a1 xs.length c1, .slice a2 ys.length c2, .slice a3 bs.length c3, .slice a4 ps.length c4] 50)).alloc (.cells #[.bool p.ring, .int .i64 p.pos, .string p.text] 101)).alloc (.cells #[.int .i64 0, .slice none 0 0, .slice none 0 0, .slice none 0 0, .slice none 0 0] 50)) := (((Below.refl _ _).alloc (Nat.le_refl _) _).alloc (by simp) _).alloc (by simp; omega) _
  have HB := Lib.hid hB
  have hR : Blk (((w.alloc (.cells #[.int .i64 st, .slice a1 xs.length c1, .slice a2 ys.length c2, .slice a3 bs.length c3, .slice a4 ps.length c4] 50)).alloc (.cells #[.bool p.ring, .int .i64 p.pos, .string p.text] 101)).alloc (.cells #[.int .i64 0, .slice none 0 0, .slice none 0 0, .slice none 0 0, .slice none 0 0] 50)) (w.heap.size + 2) #[.int .i64 0, .slice none 0 0, .slice none 0 0, .slice none 0 0, .slice none 0 0] 50 := by
    have := Blk.new ((w.alloc (.cells #[.int .i64 st, .slice a1 xs.length c1, .slice a2 ys.length c2, .slice a3 bs.length c3, .slice a4 ps.length c4] 50)).alloc (.cells #[.bool p.ring, .int .i64 p.pos, .string p.text] 101)) #[.int .i64 0, .slice none 0 0, .slice none 0 0, .slice none 0 0, .slice none 0 0] 50
    rw [World.size_alloc, World.size_alloc] at this
    exact this
  have HR := Lib.hid hR
  have hP : Blk (((w.alloc (.cells #[.int .i64 st, .slice a1 xs.length c1, .slice a2 ys.length c2, .slice a3 bs.length c3, .slice a4 ps.length c4] 50)).alloc (.cells #[.bool p.ring, .int .i64 p.pos, .string p.text] 101)).alloc (.cells #[.int .i64 0, .slice none 0 0, .slice none 0 0, .slice none 0 0, .slice none 0 0] 50)) (w.heap.size + 1) #[.bool p.ring, .int .i64 p.pos, .string p.text] 101 := by
    have := Blk.new (w.alloc (.cells #[.int .i64 st, .slice a1 xs.length c1, .slice a2 ys.length c2, .slice a3 bs.length c3, .slice a4 ps.length c4] 50)) #[.bool p.ring, .int .i64 p.pos, .string p.text] 101
    rw [World.size_alloc] at this
    exact this.below (n := w.heap.size + 2) ((Below.refl _ _).alloc (by simp) _) (by omega)
  have HP := Lib.hid hP
  have hs2 : (((w.alloc (.cells #[.int .i64 st, .slice a1 xs.length c1, .slice a2 ys.length c2, .slice a3 bs.length c3, .slice a4 ps.length c4] 50)).alloc (.cells #[.bool p.ring, .int .i64 p.pos, .string p.text] 101)).alloc (.cells #[.int .i64 0, .slice none 0 0, .slice none 0 0, .slice none 0 0, .slice none 0 0] 50)).heap.size = w.heap.size + 3 := by simp
  have Hs2 := Lib.hid hs2
  clear hB hR hs2 hP
  have HKd := Lib.hid (show Blk (((w.alloc (.cells #[.int .i64 st, .slice a1 xs.length c1, .slice a2 ys.length c2, .slice a3 bs.length c3, .slice a4 ps.length c4] 50)).alloc (.cells #[.bool p.ring, .int .i64 p.pos, .string p.text] 101)).alloc (.cells #[.int .i64 0, .slice none 0 0, .slice none 0 0, .slice none 0 0, .slice none 0 0] 50)) w.heap.size #[.int .i64 st, .slice a1 xs.length c1, .slice a2 ys.length c2, .slice a3 bs.length c3, .slice a4 ps.length c4] 50 from ((Blk.new w _ _).below (n := w.heap.size + 1) ((Below.refl _ _).alloc (by simp) _) (by omega)).below (n := w.heap.size + 1) ((Below.refl _ _).alloc (by simp) _) (by omega))
  have HO := Lib.hid (ho.below HB.out)
  have es : (st == 1) = false := beq_eq_false_iff_ne.2 hs
  have e40 : ((ps.length : Int) == 40) = false := beq_eq_false_iff_ne.2 (by omega)
  obtain ⟨i0, hi0, hz0, hz1, hz2⟩ := info_parts infoPu
  clear ho hs
  go_enter Tryz.func62, Tryz.ntmps62
  go_upto_region 5 with (fail)
  generalize (((w.alloc (.cells #[.int .i64 st, .slice a1 xs.length c1, .slice a2 ys.length c2, .slice a3 bs.length c3, .slice a4 ps.length c4] 50)).alloc (.cells #[.bool p.ring, .int .i64 p.pos, .string p.text] 101)).alloc (.cells #[.int .i64 0, .slice none 0 0, .slice none 0 0, .slice none 0 0, .slice none 0 0] 50)) = W at HB HR HP Hs2 HKd HO ⊢
  obtain ⟨x0, x1, x2, x3, x4⟩ : W.cell? ⟨w.heap.size, 0, none⟩ = some (.int .i64 st) ∧ W.cell? ⟨w.heap.size, 1, none⟩ = some (.slice a1 xs.length c1) ∧ W.cell? ⟨w.heap.size, 2, none⟩ = some (.slice a2 ys.length c2) ∧ W.cell? ⟨w.heap.size, 3, none⟩ = some (.slice a3 bs.length c3) ∧ W.cell? ⟨w.heap.size, 4, none⟩ = some (.slice a4 ps.length c4) := ⟨(HKd.out.cell 0), (HKd.out.cell 1), (HKd.out.cell 2), (HKd.out.cell 3), (HKd.out.cell 4)⟩
  have g0 := HKd.out.frozen 0
  have g1 := HKd.out.frozen 1
  have g2 := HKd.out.frozen 2
  have g3 := HKd.out.frozen 3
  have g4 := HKd.out.frozen 4
  obtain ⟨q0, q1, q2⟩ : W.cell? ⟨w.heap.size + 1, 0, none⟩ = some (.bool p.ring) ∧ W.cell? ⟨w.heap.size + 1, 1, none⟩ = some (.int .i64 p.pos) ∧ W.cell? ⟨w.heap.size + 1, 2, none⟩ = some (.string p.text) := ⟨HP.out.cell 0, HP.out.cell 1, HP.out.cell 2⟩
  have hown := HO.out.2.2.2.1
  unfold OwnPu at hown
  have hsz : W.heap.size = w.heap.size + 3 := Hs2.out
  have Hsz := Lib.hid hsz
  clear hsz
  have HAl := Lib.hid (show Below W.heap.size W (W.alloc (.cells #[.bool p.ring, .int .i64 p.pos, .string p.text] 101)) from (Below.refl _ _).alloc (Nat.le_refl _) _)
  have hbW : base ≤ W.heap.size := by have := Hsz.out; omega
  have Hne := Lib.hid (show ∀ E cs, Blk W E cs 50 → (Value.slice a4 ps.length c4).ownBlock ≠ some E from fun E cs h => own_blk_ne hown h (by decide))
  have n1 := Lib.hid (own_apart (HO.out.2.2.2.1) HO.out.1 (by decide))
  have n2 := Lib.hid (own_apart (HO.out.2.2.2.1) HO.out.2.1 (by decide))
  have n3 := Lib.hid (own_apart (HO.out.2.2.2.1) HO.out.2.2.1 (by decide))
  have Hlt := Lib.hid (show ∀ i, (Value.slice a4 ps.length c4).ownBlock = some i → base ≤ i from fun i h => (hown.lt i h).1)
  go_wp2_with (at_builtin; refine wpList_append_lies _ rfl _ _ 48 rfl base 101 i0 _ 3 32 Tryz.underlying48 hi0 hz0 hz1 hz2 rfl (by omega) _ ps.length (puC ps) rfl (hown.alloc _) ⟨W.heap.size, 0, none⟩ 1 1 (puC [p]) rfl rfl (World.news_of_block (cs := #[.bool p.ring, .int .i64 p.pos, .string p.text]) (t := 101) (fr := (0, 0)) (heap_alloc_new W _)) (by simp [puC, Value.oneCell']) (by omega) (by simp [maxLen]; omega) (by omega) (by simp; omega) _ rfl ?_; intro g cap w4 hown4 hgrow4 hat4 hlt4; have KD4 := Lib.hid ((HKd.out.below HAl.out HKd.out.lt).gb hgrow4 (Hne.out _ _ HKd.out)); have KR4 := Lib.hid ((HR.out.below HAl.out HR.out.lt).gb hgrow4 (Hne.out _ _ HR.out)); obtain ⟨m0, m1, m2, m3, m4⟩ : w4.cell? ⟨w.heap.size, 0, none⟩ = some (.int .i64 st) ∧ w4.cell? ⟨w.heap.size, 1, none⟩ = some (.slice a1 xs.length c1) ∧ w4.cell? ⟨w.heap.size, 2, none⟩ = some (.slice a2 ys.length c2) ∧ w4.cell? ⟨w.heap.size, 3, none⟩ = some (.slice a3 bs.length c3) ∧ w4.cell? ⟨w.heap.size, 4, none⟩ = some (.slice a4 ps.length c4) := ⟨(KD4.out.cell 0), (KD4.out.cell 1), (KD4.out.cell 2), (KD4.out.cell 3), (KD4.out.cell 4)⟩; have j4 := KD4.out.frozen 4; obtain ⟨y0, y1, y2, y3, y4⟩ : w4.cell? ⟨w.heap.size + 2, 0, none⟩ = some (.int .i64 0) ∧ w4.cell? ⟨w.heap.size + 2, 1, none⟩ = some (.slice none 0 0) ∧ w4.cell? ⟨w.heap.size + 2, 2, none⟩ = some (.slice none 0 0) ∧ w4.cell? ⟨w.heap.size + 2, 3, none⟩ = some (.slice none 0 0) ∧ w4.cell? ⟨w.heap.size + 2, 4, none⟩ = some (.slice none 0 0) := ⟨(KR4.out.cell 0), (KR4.out.cell 1), (KR4.out.cell 2), (KR4.out.cell 3), (KR4.out.cell 4)⟩; have f0 := KR4.out.frozen 0; have f1 := KR4.out.frozen 1; have f2 := KR4.out.frozen 2; have f3 := KR4.out.frozen 3; have f4 := KR4.out.frozen 4)
  refine bodyPost_ret (v := .agg #[.int .i64 st, .slice a1 xs.length c1, .slice a2 ys.length c2, .slice a3 bs.length c3, .slice (some ⟨g, 0, none⟩) (ps.length + 1) cap]) (by simp [results, Tryz.results62, go_sem, y0, y1, y2, y3, y4]) rfl ⟨_, rfl, ⟨_, _, _, _, rfl, ?_⟩, ?_, ?_⟩
  · have h1 := own_gb (own_below HO.out.1 HAl.out) hgrow4 n1.out
    have h2 := own_gb (own_below HO.out.2.1 HAl.out) hgrow4 n2.out
    have h3 := own_gb (own_below HO.out.2.2.1 HAl.out) hgrow4 n3.out
    have h : Own4 w4 base _ _ _ (.slice (some ⟨g, 0, none⟩) (ps.length + 1) cap) ⟨st, xs, ys, bs, ps ++ [p]⟩ := ⟨h1, h2, h3, by unfold OwnPu; rw [puC_append, List.length_append, List.length_singleton]; exact hown4, HO.out.2.2.2.2⟩
    have h' := own4_set h KD4.out (by decide) (by decide) (by decide) 4 (.slice (some ⟨g, 0, none⟩) (ps.length + 1) cap)
    exact own4_sets h' (KR4.out.other w.heap.size 4 _ (by omega))
  · exact sets_below ((((HB.out.mono hb).trans (HAl.out.mono hbW)).grown hgrow4 (by have := hgrow4.size; have := HAl.out.size; omega) Hlt.out).setCell (p := ⟨w.heap.size, 4, none⟩) hb _) (by omega)
  · have hO4 : Others w w4 := fun E cs t q1 q2 q3 hE => ((hE.below HB.out hE.lt).below HAl.out (hE.below HB.out hE.lt).lt).gb hgrow4 (own_blk_ne hown (hE.below HB.out hE.lt) q3)
    exact sets_others (hO4.set_new (Nat.le_refl _) 4 _) (by omega)


set_option maxRecDepth 100000 in
set_option maxHeartbeats 4000000 in
theorem l3Write_gone (base : Nat) (v1 v2 v3 v4 : Value) (d : DiskD) (p : PutD) (w : World) (hb : base ≤ w.heap.size) (hs : d.state = 1) (ho : Own4 w base v1 v2 v3 v4 d) :
    Calls Tryz.prog 62 #[.agg #[.int .i64 d.state, v1, v2, v3, v4], .agg #[.bool p.ring, .int .i64 p.pos, .string p.text]] w fun e w' => ∃ v, e = .returned v ∧ OwnDisk w' base v d ∧ Below base w w' ∧ Others w w' := by
  obtain ⟨st, xs, ys, bs, ps⟩ := d
  obtain ⟨a1, c1, rfl, _⟩ := OwnTx.reads ho.1
  obtain ⟨a2, c2, rfl, _⟩ := OwnTx.reads ho.2.1
  obtain ⟨a3, c3, rfl, _⟩ := OwnBo.reads ho.2.2.1
  obtain ⟨a4, c4, rfl, _⟩ := OwnPu.reads ho.2.2.2.1
  simp only at ho hs ⊢
  subst hs
  have HO0 := Lib.hid ho
  clear ho
  go_enter Tryz.func62, Tryz.ntmps62
  go_wp2
  refine bodyPost_ret (v := .agg #[.int .i64 1, .slice a1 xs.length c1, .slice a2 ys.length c2, .slice a3 bs.length c3, .slice a4 ps.length c4]) (by simp [results, Tryz.results62, go_sem]) rfl ⟨_, rfl, ⟨_, _, _, _, rfl, ?_⟩, ?_, ?_⟩
  · exact HO0.out.below ((((Below.refl _ _).alloc (Nat.le_refl _) _).alloc (by simp) _).alloc (by simp; omega) _)
  · exact (((Below.refl base w).alloc hb _).alloc (by simp; omega) _).alloc (by simp; omega) _
  · exact others_below ((((Below.refl _ _).alloc (Nat.le_refl _) _).alloc (by simp) _).alloc (by simp; omega) _)

set_option maxRecDepth 100000 in
set_option maxHeartbeats 4000000 in
theorem l3Write_full (base : Nat) (v1 v2 v3 v4 : Value) (d : DiskD) (p : PutD) (w : World) (hb : base ≤ w.heap.size) (hr : HasRows d) (hps : AllPu PutOk d.wait) (hs : d.state ≠ 1) (hlen : d.wait.length = 40) (ho : Own4 w base v1 v2 v3 v4 d) :
    Calls Tryz.prog 62 #[.agg #[.int .i64 d.state, v1, v2, v3, v4], .agg #[.bool p.ring, .int .i64 p.pos, .string p.text]] w fun e w' => ∃ v, e = .returned v ∧ OwnDisk w' base v ⟨(crashD d (-1)).state, (crashD d (-1)).slots, (crashD d (-1)).rings, (crashD d (-1)).spoilt, (crashD d (-1)).wait ++ [p]⟩ ∧ Below base w w' ∧ Others w w' := by
  have HFl := Lib.hid (fun W h1 ho => l3Flush_any base v1 v2 v3 v4 d W h1 hr hps (by omega) ho)
  have hw0 : (crashD d (-1)).wait.length ≤ 100 := by simp [crashD]
  generalize crashD d (-1) = de at HFl hw0
  obtain ⟨st, xs, ys, bs, ps⟩ := d
  obtain ⟨a1, c1, rfl, _⟩ := OwnTx.reads ho.1
  obtain ⟨a2, c2, rfl, _⟩ := OwnTx.reads ho.2.1
  obtain ⟨a3, c3, rfl, _⟩ := OwnBo.reads ho.2.2.1
  obtain ⟨a4, c4, rfl, _⟩ := OwnPu.reads ho.2.2.2.1
  simp only at ho hs hlen HFl ⊢
  have hB : Below w.heap.size w (((w.alloc (.cells #[.int .i64 st, .slice a1 xs.length c1, .slice a2 ys.length c2, .slice a3 bs.length c3, .slice a4 ps.length c4] 50)).alloc (.cells #[.bool p.ring, .int .i64 p.pos, .string p.text] 101)).alloc (.cells #[.int .i64 0, .slice none 0 0, .slice none 0 0, .slice none 0 0, .slice none 0 0] 50)) := (((Below.refl _ _).alloc (Nat.le_refl _) _).alloc (by simp) _).alloc (by simp; omega) _
  have HB := Lib.hid hB
  have hR : Blk (((w.alloc (.cells #[.int .i64 st, .slice a1 xs.length c1, .slice a2 ys.length c2, .slice a3 bs.length c3, .slice a4 ps.length c4] 50)).alloc (.cells #[.bool p.ring, .int .i64 p.pos, .string p.text] 101)).alloc (.cells #[.int .i64 0, .slice none 0 0, .slice none 0 0, .slice none 0 0, .slice none 0 0] 50)) (w.heap.size + 2) #[.int .i64 0, .slice none 0 0, .slice none 0 0, .slice none 0 0, .slice none 0 0] 50 := by
    have := Blk.new ((w.alloc (.cells #[.int .i64 st, .slice a1 xs.length c1, .slice a2 ys.length c2, .slice a3 bs.length c3, .slice a4 ps.length c4] 50)).alloc (.cells #[.bool p.ring, .int .i64 p.pos, .string p.text] 101)) #[.int .i64 0, .slice none 0 0, .slice none 0 0, .slice none 0 0, .slice none 0 0] 50
    rw [World.size_alloc, World.size_alloc] at this
    exact this
  have HR := Lib.hid hR
  have hP : Blk (((w.alloc (.cells #[.int .i64 st, .slice a1 xs.length c1, .slice a2 ys.length c2, .slice a3 bs.length c3, .slice a4 ps.length c4] 50)).alloc (.cells #[.bool p.ring, .int .i64 p.pos, .string p.text] 101)).alloc (.cells #[.int .i64 0, .slice none 0 0, .slice none 0 0, .slice none 0 0, .slice none 0 0] 50)) (w.heap.size + 1) #[.bool p.ring, .int .i64 p.pos, .string p.text] 101 := by
    have := Blk.new (w.alloc (.cells #[.int .i64 st, .slice a1 xs.length c1, .slice a2 ys.length c2, .slice a3 bs.length c3, .slice a4 ps.length c4] 50)) #[.bool p.ring, .int .i64 p.pos, .string p.text] 101
    rw [World.size_alloc] at this
    exact this.below (n := w.heap.size + 2) ((Below.refl _ _).alloc (by simp) _) (by omega)
  have HP := Lib.hid hP
  have hs2 : (((w.alloc (.cells #[.int .i64 st, .slice a1 xs.length c1, .slice a2 ys.length c2, .slice a3 bs.length c3, .slice a4 ps.length c4] 50)).alloc (.cells #[.bool p.ring, .int .i64 p.pos, .string p.text] 101)).alloc (.cells #[.int .i64 0, .slice none 0 0, .slice none 0 0, .slice none 0 0, .slice none 0 0] 50)).heap.size = w.heap.size + 3 := by simp
  have Hs2 := Lib.hid hs2
  clear hB hR hs2 hP
  have HKd := Lib.hid (show Blk (((w.alloc (.cells #[.int .i64 st, .slice a1 xs.length c1, .slice a2 ys.length c2, .slice a3 bs.length c3, .slice a4 ps.length c4] 50)).alloc (.cells #[.bool p.ring, .int .i64 p.pos, .string p.text] 101)).alloc (.cells #[.int .i64 0, .slice none 0 0, .slice none 0 0, .slice none 0 0, .slice none 0 0] 50)) w.heap.size #[.int .i64 st, .slice a1 xs.length c1, .slice a2 ys.length c2, .slice a3 bs.length c3, .slice a4 ps.length c4] 50 from ((Blk.new w _ _).below (n := w.heap.size + 1) ((Below.refl _ _).alloc (by simp) _) (by omega)).below (n := w.heap.size + 1) ((Below.refl _ _).alloc (by simp) _) (by omega))
  have HO := Lib.hid (ho.below HB.out)
  have es : (st == 1) = false := beq_eq_false_iff_ne.2 hs
  have e40 : ((ps.length : Int) == 40) = true := beq_iff_eq.2 (by omega)
  obtain ⟨i0, hi0, hz0, hz1, hz2⟩ := info_parts infoPu
  clear ho hs hr hps hlen
  go_enter Tryz.func62, Tryz.ntmps62
  go_wp2_with fail
  generalize (((w.alloc (.cells #[.int .i64 st, .slice a1 xs.length c1, .slice a2 ys.length c2, .slice a3 bs.length c3, .slice a4 ps.length c4] 50)).alloc (.cells #[.bool p.ring, .int .i64 p.pos, .string p.text] 101)).alloc (.cells #[.int .i64 0, .slice none 0 0, .slice none 0 0, .slice none 0 0, .slice none 0 0] 50)) = W at HB HR HP Hs2 HKd HO ⊢
  have hbW : base ≤ W.heap.size := by have := Hs2.out; omega
  refine (HFl.out _ hbW HO.out).mono ?_
  rintro e w1 ⟨vf, rfl, hof, hB1, hot1⟩
  obtain ⟨f1, f2, f3, f4, rfl, h4f⟩ := hof
  obtain ⟨b1, e1, rfl, _⟩ := OwnTx.reads h4f.1
  obtain ⟨b2, e2, rfl, _⟩ := OwnTx.reads h4f.2.1
  obtain ⟨b3, e3, rfl, _⟩ := OwnBo.reads h4f.2.2.1
  obtain ⟨b4, e4, rfl, _⟩ := OwnPu.reads h4f.2.2.2.1
  have K1 := Lib.hid (hot1 _ _ _ (by decide) (by decide) HKd.out)
  have R1 := Lib.hid (hot1 _ _ _ (by decide) (by decide) HR.out)
  have P1 := Lib.hid (hot1 _ _ _ (by decide) (by decide) HP.out)
  have B1 := Lib.hid ((HB.out.mono hb).trans hB1)
  have T1 := Lib.hid ((othersS_below HB.out).trans hot1)
  have s1 : w.heap.size + 3 ≤ w1.heap.size := by have := Hs2.out; have := hB1.size; omega
  have HF := Lib.hid h4f
  clear h4f hB1 hot1 HO HB
  obtain ⟨x0, x1, x2, x3, x4⟩ : w1.cell? ⟨w.heap.size, 0, none⟩ = some (.int .i64 st) ∧ w1.cell? ⟨w.heap.size, 1, none⟩ = some (.slice a1 xs.length c1) ∧ w1.cell? ⟨w.heap.size, 2, none⟩ = some (.slice a2 ys.length c2) ∧ w1.cell? ⟨w.heap.size, 3, none⟩ = some (.slice a3 bs.length c3) ∧ w1.cell? ⟨w.heap.size, 4, none⟩ = some (.slice a4 ps.length c4) := ⟨(K1.out.cell 0), (K1.out.cell 1), (K1.out.cell 2), (K1.out.cell 3), (K1.out.cell 4)⟩
  have g0 := K1.out.frozen 0
  have g1 := K1.out.frozen 1
  have g2 := K1.out.frozen 2
  have g3 := K1.out.frozen 3
  have g4 := K1.out.frozen 4
  -- the box holds what was flushed
  have k5 := Lib.hid (show Blk (((((w1.setCell ⟨w.heap.size, 0, none⟩ (.int .i64 de.state)).setCell ⟨w.heap.size, 1, none⟩ (.slice b1 de.slots.length e1)).setCell ⟨w.heap.size, 2, none⟩ (.slice b2 de.rings.length e2)).setCell ⟨w.heap.size, 3, none⟩ (.slice b3 de.spoilt.length e3)).setCell ⟨w.heap.size, 4, none⟩ (.slice b4 de.wait.length e4)) w.heap.size #[.int .i64 de.state, .slice b1 de.slots.length e1, .slice b2 de.rings.length e2, .slice b3 de.spoilt.length e3, .slice b4 de.wait.length e4] 50 from ((((K1.out.set 0 _).set 1 _).set 2 _).set 3 _).set 4 _)
  have r5 := Lib.hid (show Blk (((((w1.setCell ⟨w.heap.size, 0, none⟩ (.int .i64 de.state)).setCell ⟨w.heap.size, 1, none⟩ (.slice b1 de.slots.length e1)).setCell ⟨w.heap.size, 2, none⟩ (.slice b2 de.rings.length e2)).setCell ⟨w.heap.size, 3, none⟩ (.slice b3 de.spoilt.length e3)).setCell ⟨w.heap.size, 4, none⟩ (.slice b4 de.wait.length e4)) (w.heap.size + 2) #[.int .i64 0, .slice none 0 0, .slice none 0 0, .slice none 0 0, .slice none 0 0] 50 from ((((R1.out.other w.heap.size 0 _ (by omega)).other w.heap.size 1 _ (by omega)).other w.heap.size 2 _ (by omega)).other w.heap.size 3 _ (by omega)).other w.heap.size 4 _ (by omega))
  have q5 := Lib.hid (show Blk (((((w1.setCell ⟨w.heap.size, 0, none⟩ (.int .i64 de.state)).setCell ⟨w.heap.size, 1, none⟩ (.slice b1 de.slots.length e1)).setCell ⟨w.heap.size, 2, none⟩ (.slice b2 de.rings.length e2)).setCell ⟨w.heap.size, 3, none⟩ (.slice b3 de.spoilt.length e3)).setCell ⟨w.heap.size, 4, none⟩ (.slice b4 de.wait.length e4)) (w.heap.size + 1) #[.bool p.ring, .int .i64 p.pos, .string p.text] 101 from ((((P1.out.other w.heap.size 0 _ (by omega)).other w.heap.size 1 _ (by omega)).other w.heap.size 2 _ (by omega)).other w.heap.size 3 _ (by omega)).other w.heap.size 4 _ (by omega))
  have o5 := Lib.hid (show Own4 (((((w1.setCell ⟨w.heap.size, 0, none⟩ (.int .i64 de.state)).setCell ⟨w.heap.size, 1, none⟩ (.slice b1 de.slots.length e1)).setCell ⟨w.heap.size, 2, none⟩ (.slice b2 de.rings.length e2)).setCell ⟨w.heap.size, 3, none⟩ (.slice b3 de.spoilt.length e3)).setCell ⟨w.heap.size, 4, none⟩ (.slice b4 de.wait.length e4)) base _ _ _ _ de from own4_sets HF.out K1.out)
  have m5 := Lib.hid (show Below base w (((((w1.setCell ⟨w.heap.size, 0, none⟩ (.int .i64 de.state)).setCell ⟨w.heap.size, 1, none⟩ (.slice b1 de.slots.length e1)).setCell ⟨w.heap.size, 2, none⟩ (.slice b2 de.rings.length e2)).setCell ⟨w.heap.size, 3, none⟩ (.slice b3 de.spoilt.length e3)).setCell ⟨w.heap.size, 4, none⟩ (.slice b4 de.wait.length e4)) from sets_below B1.out hb)
  have t5 := Lib.hid (show OthersS w (((((w1.setCell ⟨w.heap.size, 0, none⟩ (.int .i64 de.state)).setCell ⟨w.heap.size, 1, none⟩ (.slice b1 de.slots.length e1)).setCell ⟨w.heap.size, 2, none⟩ (.slice b2 de.rings.length e2)).setCell ⟨w.heap.size, 3, none⟩ (.slice b3 de.spoilt.length e3)).setCell ⟨w.heap.size, 4, none⟩ (.slice b4 de.wait.length e4)) from ((((T1.out.set_new (Nat.le_refl _) 0 _).set_new (Nat.le_refl _) 1 _).set_new (Nat.le_refl _) 2 _).set_new (Nat.le_refl _) 3 _).set_new (Nat.le_refl _) 4 _)
  have s5 : w.heap.size + 3 ≤ (((((w1.setCell ⟨w.heap.size, 0, none⟩ (.int .i64 de.state)).setCell ⟨w.heap.size, 1, none⟩ (.slice b1 de.slots.length e1)).setCell ⟨w.heap.size, 2, none⟩ (.slice b2 de.rings.length e2)).setCell ⟨w.heap.size, 3, none⟩ (.slice b3 de.spoilt.length e3)).setCell ⟨w.heap.size, 4, none⟩ (.slice b4 de.wait.length e4)).heap.size := by simpa using s1
  go_upto_region 5 with (fail)
  generalize (((((w1.setCell ⟨w.heap.size, 0, none⟩ (.int .i64 de.state)).setCell ⟨w.heap.size, 1, none⟩ (.slice b1 de.slots.length e1)).setCell ⟨w.heap.size, 2, none⟩ (.slice b2 de.rings.length e2)).setCell ⟨w.heap.size, 3, none⟩ (.slice b3 de.spoilt.length e3)).setCell ⟨w.heap.size, 4, none⟩ (.slice b4 de.wait.length e4)) = Y at k5 r5 q5 o5 m5 t5 s5 ⊢
  obtain ⟨u0, u1, u2, u3, u4⟩ : Y.cell? ⟨w.heap.size, 0, none⟩ = some (.int .i64 de.state) ∧ Y.cell? ⟨w.heap.size, 1, none⟩ = some (.slice b1 de.slots.length e1) ∧ Y.cell? ⟨w.heap.size, 2, none⟩ = some (.slice b2 de.rings.length e2) ∧ Y.cell? ⟨w.heap.size, 3, none⟩ = some (.slice b3 de.spoilt.length e3) ∧ Y.cell? ⟨w.heap.size, 4, none⟩ = some (.slice b4 de.wait.length e4) := ⟨(k5.out.cell 0), (k5.out.cell 1), (k5.out.cell 2), (k5.out.cell 3), (k5.out.cell 4)⟩
  obtain ⟨q0, q1, q2⟩ : Y.cell? ⟨w.heap.size + 1, 0, none⟩ = some (.bool p.ring) ∧ Y.cell? ⟨w.heap.size + 1, 1, none⟩ = some (.int .i64 p.pos) ∧ Y.cell? ⟨w.heap.size + 1, 2, none⟩ = some (.string p.text) := ⟨q5.out.cell 0, q5.out.cell 1, q5.out.cell 2⟩
  have v4' := k5.out.frozen 4
  have hown := o5.out.2.2.2.1
  unfold OwnPu at hown
  have HAl := Lib.hid (show Below Y.heap.size Y (Y.alloc (.cells #[.bool p.ring, .int .i64 p.pos, .string p.text] 101)) from (Below.refl _ _).alloc (Nat.le_refl _) _)
  have Hne := Lib.hid (show ∀ E cs, Blk Y E cs 50 → (Value.slice b4 de.wait.length e4).ownBlock ≠ some E from fun E cs h => own_blk_ne hown h (by decide))
  have n1 := Lib.hid (own_apart (o5.out.2.2.2.1) o5.out.1 (by decide))
  have n2 := Lib.hid (own_apart (o5.out.2.2.2.1) o5.out.2.1 (by decide))
  have n3 := Lib.hid (own_apart (o5.out.2.2.2.1) o5.out.2.2.1 (by decide))
  have Hlt := Lib.hid (show ∀ i, (Value.slice b4 de.wait.length e4).ownBlock = some i → base ≤ i from fun i h => (hown.lt i h).1)
  clear x0 x1 x2 x3 x4 g0 g1 g2 g3 g4
  go_wp2_with (at_builtin; refine wpList_append_lies _ rfl _ _ 48 rfl base 101 i0 _ 3 32 Tryz.underlying48 hi0 hz0 hz1 hz2 rfl (by omega) _ de.wait.length (puC de.wait) rfl (hown.alloc _) ⟨Y.heap.size, 0, none⟩ 1 1 (puC [p]) rfl rfl (World.news_of_block (cs := #[.bool p.ring, .int .i64 p.pos, .string p.text]) (t := 101) (fr := (0, 0)) (heap_alloc_new Y _)) (by simp [puC, Value.oneCell']) (by omega) (by simp [maxLen]; omega) (by omega) (by simp; omega) _ rfl ?_; intro g cap w4 hown4 hgrow4 hat4 hlt4; have KD4 := Lib.hid ((k5.out.below HAl.out k5.out.lt).gb hgrow4 (Hne.out _ _ k5.out)); have KR4 := Lib.hid ((r5.out.below HAl.out r5.out.lt).gb hgrow4 (Hne.out _ _ r5.out)); obtain ⟨m0, m1, m2, m3, m4⟩ : w4.cell? ⟨w.heap.size, 0, none⟩ = some (.int .i64 de.state) ∧ w4.cell? ⟨w.heap.size, 1, none⟩ = some (.slice b1 de.slots.length e1) ∧ w4.cell? ⟨w.heap.size, 2, none⟩ = some (.slice b2 de.rings.length e2) ∧ w4.cell? ⟨w.heap.size, 3, none⟩ = some (.slice b3 de.spoilt.length e3) ∧ w4.cell? ⟨w.heap.size, 4, none⟩ = some (.slice b4 de.wait.length e4) := ⟨(KD4.out.cell 0), (KD4.out.cell 1), (KD4.out.cell 2), (KD4.out.cell 3), (KD4.out.cell 4)⟩; have j4 := KD4.out.frozen 4; obtain ⟨y0, y1, y2, y3, y4⟩ : w4.cell? ⟨w.heap.size + 2, 0, none⟩ = some (.int .i64 0) ∧ w4.cell? ⟨w.heap.size + 2, 1, none⟩ = some (.slice none 0 0) ∧ w4.cell? ⟨w.heap.size + 2, 2, none⟩ = some (.slice none 0 0) ∧ w4.cell? ⟨w.heap.size + 2, 3, none⟩ = some (.slice none 0 0) ∧ w4.cell? ⟨w.heap.size + 2, 4, none⟩ = some (.slice none 0 0) := ⟨(KR4.out.cell 0), (KR4.out.cell 1), (KR4.out.cell 2), (KR4.out.cell 3), (KR4.out.cell 4)⟩; have f0 := KR4.out.frozen 0; have f1 := KR4.out.frozen 1; have f2 := KR4.out.frozen 2; have f3 := KR4.out.frozen 3; have f4 := KR4.out.frozen 4)
  refine bodyPost_ret (v := .agg #[.int .i64 de.state, .slice b1 de.slots.length e1, .slice b2 de.rings.length e2, .slice b3 de.spoilt.length e3, .slice (some ⟨g, 0, none⟩) (de.wait.length + 1) cap]) (by simp [results, Tryz.results62, go_sem, y0, y1, y2, y3, y4]) rfl ⟨_, rfl, ⟨_, _, _, _, rfl, ?_⟩, ?_, ?_⟩
  · have h1 := own_gb (own_below o5.out.1 HAl.out) hgrow4 n1.out
    have h2 := own_gb (own_below o5.out.2.1 HAl.out) hgrow4 n2.out
    have h3 := own_gb (own_below o5.out.2.2.1 HAl.out) hgrow4 n3.out
    have h : Own4 w4 base _ _ _ (.slice (some ⟨g, 0, none⟩) (de.wait.length + 1) cap) ⟨de.state, de.slots, de.rings, de.spoilt, de.wait ++ [p]⟩ := ⟨h1, h2, h3, by unfold OwnPu; rw [puC_append, List.length_append, List.length_singleton]; exact hown4, o5.out.2.2.2.2⟩
    have h' := own4_set h KD4.out (by decide) (by decide) (by decide) 4 (.slice (some ⟨g, 0, none⟩) (de.wait.length + 1) cap)
    exact own4_sets h' (KR4.out.other w.heap.size 4 _ (by omega))
  · exact sets_below (((m5.out.trans (HAl.out.mono (by omega))).grown hgrow4 (by have := hgrow4.size; have := HAl.out.size; omega) Hlt.out).setCell (p := ⟨w.heap.size, 4, none⟩) hb _) (by omega)
  · have hO4 : Others w w4 := fun E cs t q1 q2 q3 hE => ((t5.out E cs t q1 q2 hE).below HAl.out (t5.out E cs t q1 q2 hE).lt).gb hgrow4 (own_blk_ne hown (t5.out E cs t q1 q2 hE) q3)
    exact sets_others (hO4.set_new (Nat.le_refl _) 4 _) (by omega)

theorem l3Write_any (base : Nat) (v1 v2 v3 v4 : Value) (d : DiskD) (p : PutD) (w : World) (hb : base ≤ w.heap.size) (hr : HasRows d) (hps : AllPu PutOk d.wait) (hlen : d.wait.length ≤ 40) (ho : Own4 w base v1 v2 v3 v4 d) :
    Calls Tryz.prog 62 #[.agg #[.int .i64 d.state, v1, v2, v3, v4], .agg #[.bool p.ring, .int .i64 p.pos, .string p.text]] w fun e w' => ∃ v, e = .returned v ∧ OwnDisk w' base v (putD d p) ∧ Below base w w' ∧ Others w w' := by
  by_cases hs : d.state = 1
  · rw [show putD d p = d by unfold putD; rw [if_pos hs]]
    exact l3Write_gone base v1 v2 v3 v4 d p w hb hs ho
  · by_cases h40 : d.wait.length = 40
    · rw [show putD d p = ⟨(crashD d (-1)).state, (crashD d (-1)).slots, (crashD d (-1)).rings, (crashD d (-1)).spoilt, (crashD d (-1)).wait ++ [p]⟩ by unfold putD putBase; rw [if_neg hs, if_pos h40]]
      exact l3Write_full base v1 v2 v3 v4 d p w hb hr hps hs h40 ho
    · rw [show putD d p = ⟨d.state, d.slots, d.rings, d.spoilt, d.wait ++ [p]⟩ by unfold putD putBase; rw [if_neg hs, if_neg h40]]
      exact l3Write_low base v1 v2 v3 v4 d p w hb hs (by omega) ho

end Go.Proofs.YtcdiengbmjkglaaGreat

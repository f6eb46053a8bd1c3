/- DiskFlush and DiskCrash of the specification. Conditions: none. -/
import Derived.Test.YtifgoanicbaohaaPDV3
namespace Go.Proofs.Ytifgoanicbaohaa
open Go.RowKit Go.Sort Go.Shelf

set_option maxRecDepth 100000 in
set_option maxHeartbeats 2000000 in
theorem specCrash_ok (v : Value) (d : DiskD) (keep : Int) (w : World) (hf : DiskFine d) (hk : 0 ≤ keep) (hk2 : keep ≤ 9223372036854775807) (hv : DiskV w v d) :
    Calls Try.prog 9 #[v, .int .i64 keep] w (NewDisk (crashD d (keep)) w) := by
  obtain ⟨z0, z1, _⟩ := fine_sizes hf
  have HOk := Lib.hid (fun W (h : Below w.heap.size w W) => specOk_any v d W (hv.below h))
  rw [tt_true hf] at HOk
  have HCo := Lib.hid (fun W (h : Below w.heap.size w W) => l3Copy_ok v d W hf (hv.below h))
  have HFl := Lib.hid (fun base v1 v2 v3 v4 W h1 ho => l3Crash_any base v1 v2 v3 v4 d keep W h1 hk hk2 z0 hf.2.2.2.2.1 (by omega) ho)
  generalize crashD d (keep) = de at HFl
  obtain ⟨st, xs, ys, bs, ps⟩ := d
  obtain ⟨v1, v2, v3, v4, rfl, ⟨a1, c1, rfl, _⟩, ⟨a2, c2, rfl, _⟩, ⟨a3, c3, rfl, _⟩, ⟨a4, c4, rfl, _⟩⟩ := hv
  simp only at HOk HCo HFl
  clear hf z0 z1
  have hB : Below w.heap.size w ((w.alloc (.cells #[.int .i64 st, .slice a1 xs.length c1, .slice a2 ys.length c2, .slice a3 bs.length c3, .slice a4 ps.length c4] 27)).alloc (.cells #[.int .i64 0, .slice none 0 0, .slice none 0 0, .slice none 0 0, .slice none 0 0] 27)) := ((Below.refl _ _).alloc (Nat.le_refl _) _).alloc (by simp) _
  have HB := Lib.hid hB
  have hR : Blk ((w.alloc (.cells #[.int .i64 st, .slice a1 xs.length c1, .slice a2 ys.length c2, .slice a3 bs.length c3, .slice a4 ps.length c4] 27)).alloc (.cells #[.int .i64 0, .slice none 0 0, .slice none 0 0, .slice none 0 0, .slice none 0 0] 27)) (w.heap.size + 1) #[.int .i64 0, .slice none 0 0, .slice none 0 0, .slice none 0 0, .slice none 0 0] 27 := by
    have := Blk.new (w.alloc (.cells #[.int .i64 st, .slice a1 xs.length c1, .slice a2 ys.length c2, .slice a3 bs.length c3, .slice a4 ps.length c4] 27)) #[.int .i64 0, .slice none 0 0, .slice none 0 0, .slice none 0 0, .slice none 0 0] 27
    rw [World.size_alloc] at this
    exact this
  have HR := Lib.hid hR
  have hs2 : ((w.alloc (.cells #[.int .i64 st, .slice a1 xs.length c1, .slice a2 ys.length c2, .slice a3 bs.length c3, .slice a4 ps.length c4] 27)).alloc (.cells #[.int .i64 0, .slice none 0 0, .slice none 0 0, .slice none 0 0, .slice none 0 0] 27)).heap.size = w.heap.size + 2 := by simp
  have Hs2 := Lib.hid hs2
  clear hB hR hs2
  have HKd := Lib.hid (show Blk ((w.alloc (.cells #[.int .i64 st, .slice a1 xs.length c1, .slice a2 ys.length c2, .slice a3 bs.length c3, .slice a4 ps.length c4] 27)).alloc (.cells #[.int .i64 0, .slice none 0 0, .slice none 0 0, .slice none 0 0, .slice none 0 0] 27)) w.heap.size #[.int .i64 st, .slice a1 xs.length c1, .slice a2 ys.length c2, .slice a3 bs.length c3, .slice a4 ps.length c4] 27 from (Blk.new w _ _).below (n := w.heap.size + 1) ((Below.refl _ _).alloc (by simp) _) (by omega))
  go_enter Try.func9, Try.ntmps9
  go_wp2_with fail
  generalize ((w.alloc (.cells #[.int .i64 st, .slice a1 xs.length c1, .slice a2 ys.length c2, .slice a3 bs.length c3, .slice a4 ps.length c4] 27)).alloc (.cells #[.int .i64 0, .slice none 0 0, .slice none 0 0, .slice none 0 0, .slice none 0 0] 27)) = W at HB HR Hs2 HKd ⊢
  refine (HOk.out _ HB.out).mono ?_
  rintro e w0 ⟨rfl, hB0⟩
  have KD := Lib.hid (HKd.out.below hB0 HKd.out.lt)
  have KR0 := Lib.hid (HR.out.below hB0 HR.out.lt)
  have B0 := Lib.hid (below_trans HB.out hB0 HB.out.size)
  have s0 : w.heap.size + 2 ≤ w0.heap.size := by have := Hs2.out; have := hB0.size; omega
  obtain ⟨p0, p1, p2, p3, p4⟩ : w0.cell? ⟨w.heap.size, 0, none⟩ = some (.int .i64 st) ∧ w0.cell? ⟨w.heap.size, 1, none⟩ = some (.slice a1 xs.length c1) ∧ w0.cell? ⟨w.heap.size, 2, none⟩ = some (.slice a2 ys.length c2) ∧ w0.cell? ⟨w.heap.size, 3, none⟩ = some (.slice a3 bs.length c3) ∧ w0.cell? ⟨w.heap.size, 4, none⟩ = some (.slice a4 ps.length c4) := ⟨(KD.out.cell 0), (KD.out.cell 1), (KD.out.cell 2), (KD.out.cell 3), (KD.out.cell 4)⟩
  clear hB0
  have dk : decide (keep < 0) = false := decide_eq_false (by omega)
  go_wp2_with fail
  refine (HCo.out _ B0.out).mono ?_
  rintro e w1 ⟨vc, rfl, hoc, hB1⟩
  obtain ⟨y1, y2, y3, y4, rfl, ho⟩ := hoc
  have HO1 := Lib.hid ho
  have KR := Lib.hid (KR0.out.below hB1 (by omega))
  have B1 := Lib.hid (below_trans B0.out hB1 B0.out.size)
  have z1 := hB1.size
  obtain ⟨r1, t1, rfl, _⟩ := OwnTx.reads ho.1
  obtain ⟨r2, t2, rfl, _⟩ := OwnTx.reads ho.2.1
  obtain ⟨r3, t3, rfl, _⟩ := OwnBo.reads ho.2.2.1
  obtain ⟨r4, t4, rfl, _⟩ := OwnPu.reads ho.2.2.2.1
  simp only at HO1
  clear ho hB1 p0 p1 p2 p3 p4
  go_wp2_with fail
  refine (HFl.out w0.heap.size _ _ _ _ _ z1 HO1.out).mono ?_
  rintro e w3 ⟨v3, rfl, ho, hB3, _⟩
  have HO := Lib.hid (ho.mono s0)
  have KR3 := Lib.hid (KR.out.below hB3 (by omega))
  have B3 := Lib.hid (B1.out.trans (hB3.mono (by omega)))
  clear ho hB3 KR
  obtain ⟨y0, y1, y2, y3, y4⟩ : w3.cell? ⟨w.heap.size + 1, 0, none⟩ = some (.int .i64 0) ∧ w3.cell? ⟨w.heap.size + 1, 1, none⟩ = some (.slice none 0 0) ∧ w3.cell? ⟨w.heap.size + 1, 2, none⟩ = some (.slice none 0 0) ∧ w3.cell? ⟨w.heap.size + 1, 3, none⟩ = some (.slice none 0 0) ∧ w3.cell? ⟨w.heap.size + 1, 4, none⟩ = some (.slice none 0 0) := ⟨(KR3.out.cell 0), (KR3.out.cell 1), (KR3.out.cell 2), (KR3.out.cell 3), (KR3.out.cell 4)⟩
  have f0 := KR3.out.frozen 0
  have f1 := KR3.out.frozen 1
  have f2 := KR3.out.frozen 2
  have f3 := KR3.out.frozen 3
  have f4 := KR3.out.frozen 4
  obtain ⟨r1, r2, r3, r4, rfl, ho4⟩ := HO.out
  obtain ⟨b1, e1, rfl, _⟩ := OwnTx.reads ho4.1
  obtain ⟨b2, e2, rfl, _⟩ := OwnTx.reads ho4.2.1
  obtain ⟨b3, e3, rfl, _⟩ := OwnBo.reads ho4.2.2.1
  obtain ⟨b4, e4, rfl, _⟩ := OwnPu.reads ho4.2.2.2.1
  go_wp2
  refine bodyPost_ret (v := .agg #[.int .i64 de.state, .slice b1 de.slots.length e1, .slice b2 de.rings.length e2, .slice b3 de.spoilt.length e3, .slice b4 de.wait.length e4]) (by simp [results, Try.results9, go_sem, y0, y1, y2, y3, y4]) rfl ⟨_, rfl, ⟨_, _, _, _, rfl, ?_⟩, ?_⟩
  · exact (((((ho4.far _ _ _ (by omega)).far _ _ _ (by omega)).far _ _ _ (by omega)).far _ _ _ (by omega)).far _ _ _ (by omega)).mono (by omega)
  · exact ((((B3.out.setCell (p := ⟨w.heap.size + 1, 0, none⟩) (by simp) _).setCell (p := ⟨w.heap.size + 1, 1, none⟩) (by simp) _).setCell (p := ⟨w.heap.size + 1, 2, none⟩) (by simp) _).setCell (p := ⟨w.heap.size + 1, 3, none⟩) (by simp) _).setCell (p := ⟨w.heap.size + 1, 4, none⟩) (by simp) _

set_option maxRecDepth 100000 in
set_option maxHeartbeats 2000000 in
theorem specCrash_no (v : Value) (d : DiskD) (keep : Int) (w : World) (hf : ¬DiskFine d) (hv : DiskV w v d) :
    Calls Try.prog 9 #[v, .int .i64 keep] w (NewDisk disk0 w) := by
  have HOk := Lib.hid (fun W (h : Below w.heap.size w W) => specOk_any v d W (hv.below h))
  rw [tt_false hf] at HOk
  obtain ⟨st, xs, ys, bs, ps⟩ := d
  obtain ⟨v1, v2, v3, v4, rfl, ⟨a1, c1, rfl, _⟩, ⟨a2, c2, rfl, _⟩, ⟨a3, c3, rfl, _⟩, ⟨a4, c4, rfl, _⟩⟩ := hv
  simp only at HOk
  clear hf
  have hB : Below w.heap.size w ((w.alloc (.cells #[.int .i64 st, .slice a1 xs.length c1, .slice a2 ys.length c2, .slice a3 bs.length c3, .slice a4 ps.length c4] 27)).alloc (.cells #[.int .i64 0, .slice none 0 0, .slice none 0 0, .slice none 0 0, .slice none 0 0] 27)) := ((Below.refl _ _).alloc (Nat.le_refl _) _).alloc (by simp) _
  have HB := Lib.hid hB
  have hR : Blk ((w.alloc (.cells #[.int .i64 st, .slice a1 xs.length c1, .slice a2 ys.length c2, .slice a3 bs.length c3, .slice a4 ps.length c4] 27)).alloc (.cells #[.int .i64 0, .slice none 0 0, .slice none 0 0, .slice none 0 0, .slice none 0 0] 27)) (w.heap.size + 1) #[.int .i64 0, .slice none 0 0, .slice none 0 0, .slice none 0 0, .slice none 0 0] 27 := by
    have := Blk.new (w.alloc (.cells #[.int .i64 st, .slice a1 xs.length c1, .slice a2 ys.length c2, .slice a3 bs.length c3, .slice a4 ps.length c4] 27)) #[.int .i64 0, .slice none 0 0, .slice none 0 0, .slice none 0 0, .slice none 0 0] 27
    rw [World.size_alloc] at this
    exact this
  have HR := Lib.hid hR
  have hs2 : ((w.alloc (.cells #[.int .i64 st, .slice a1 xs.length c1, .slice a2 ys.length c2, .slice a3 bs.length c3, .slice a4 ps.length c4] 27)).alloc (.cells #[.int .i64 0, .slice none 0 0, .slice none 0 0, .slice none 0 0, .slice none 0 0] 27)).heap.size = w.heap.size + 2 := by simp
  have Hs2 := Lib.hid hs2
  clear hB hR hs2
  go_enter Try.func9, Try.ntmps9
  go_wp2_with fail
  generalize ((w.alloc (.cells #[.int .i64 st, .slice a1 xs.length c1, .slice a2 ys.length c2, .slice a3 bs.length c3, .slice a4 ps.length c4] 27)).alloc (.cells #[.int .i64 0, .slice none 0 0, .slice none 0 0, .slice none 0 0, .slice none 0 0] 27)) = W at HB HR Hs2 ⊢
  refine (HOk.out _ HB.out).mono ?_
  rintro e w1 ⟨rfl, hB1⟩
  have KR := Lib.hid (HR.out.below hB1 HR.out.lt)
  have B1 := Lib.hid (below_trans HB.out hB1 HB.out.size)
  obtain ⟨y0, y1, y2, y3, y4⟩ : w1.cell? ⟨w.heap.size + 1, 0, none⟩ = some (.int .i64 0) ∧ w1.cell? ⟨w.heap.size + 1, 1, none⟩ = some (.slice none 0 0) ∧ w1.cell? ⟨w.heap.size + 1, 2, none⟩ = some (.slice none 0 0) ∧ w1.cell? ⟨w.heap.size + 1, 3, none⟩ = some (.slice none 0 0) ∧ w1.cell? ⟨w.heap.size + 1, 4, none⟩ = some (.slice none 0 0) := ⟨(KR.out.cell 0), (KR.out.cell 1), (KR.out.cell 2), (KR.out.cell 3), (KR.out.cell 4)⟩
  have f0 := KR.out.frozen 0
  have f1 := KR.out.frozen 1
  have f2 := KR.out.frozen 2
  have f3 := KR.out.frozen 3
  have f4 := KR.out.frozen 4
  clear hB1
  go_wp2
  refine bodyPost_ret (v := .agg #[.int .i64 0, .slice none 0 0, .slice none 0 0, .slice none 0 0, .slice none 0 0]) (by simp [results, Try.results9, go_sem, y0, y1, y2, y3, y4]) rfl ⟨_, rfl, ?_, ?_⟩
  · exact ⟨_, _, _, _, rfl, ⟨rfl, .inl ⟨rfl, rfl⟩⟩, ⟨rfl, .inl ⟨rfl, rfl⟩⟩, ⟨rfl, .inl ⟨rfl, rfl⟩⟩, ⟨rfl, .inl ⟨rfl, rfl⟩⟩, fun i h => by cases h⟩
  · exact ((((B1.out.setCell (p := ⟨w.heap.size + 1, 0, none⟩) (by simp) _).setCell (p := ⟨w.heap.size + 1, 1, none⟩) (by simp) _).setCell (p := ⟨w.heap.size + 1, 2, none⟩) (by simp) _).setCell (p := ⟨w.heap.size + 1, 3, none⟩) (by simp) _).setCell (p := ⟨w.heap.size + 1, 4, none⟩) (by simp) _

set_option maxRecDepth 100000 in
set_option maxHeartbeats 2000000 in
theorem specCrash_neg (v : Value) (d : DiskD) (keep : Int) (w : World) (hf : DiskFine d) (hk : keep < 0) (hv : DiskV w v d) :
    Calls Try.prog 9 #[v, .int .i64 keep] w (NewDisk disk0 w) := by
  have HOk := Lib.hid (fun W (h : Below w.heap.size w W) => specOk_any v d W (hv.below h))
  rw [tt_true hf] at HOk
  obtain ⟨st, xs, ys, bs, ps⟩ := d
  obtain ⟨v1, v2, v3, v4, rfl, ⟨a1, c1, rfl, _⟩, ⟨a2, c2, rfl, _⟩, ⟨a3, c3, rfl, _⟩, ⟨a4, c4, rfl, _⟩⟩ := hv
  simp only at HOk
  clear hf
  have hB : Below w.heap.size w ((w.alloc (.cells #[.int .i64 st, .slice a1 xs.length c1, .slice a2 ys.length c2, .slice a3 bs.length c3, .slice a4 ps.length c4] 27)).alloc (.cells #[.int .i64 0, .slice none 0 0, .slice none 0 0, .slice none 0 0, .slice none 0 0] 27)) := ((Below.refl _ _).alloc (Nat.le_refl _) _).alloc (by simp) _
  have HB := Lib.hid hB
  have hR : Blk ((w.alloc (.cells #[.int .i64 st, .slice a1 xs.length c1, .slice a2 ys.length c2, .slice a3 bs.length c3, .slice a4 ps.length c4] 27)).alloc (.cells #[.int .i64 0, .slice none 0 0, .slice none 0 0, .slice none 0 0, .slice none 0 0] 27)) (w.heap.size + 1) #[.int .i64 0, .slice none 0 0, .slice none 0 0, .slice none 0 0, .slice none 0 0] 27 := by
    have := Blk.new (w.alloc (.cells #[.int .i64 st, .slice a1 xs.length c1, .slice a2 ys.length c2, .slice a3 bs.length c3, .slice a4 ps.length c4] 27)) #[.int .i64 0, .slice none 0 0, .slice none 0 0, .slice none 0 0, .slice none 0 0] 27
    rw [World.size_alloc] at this
    exact this
  have HR := Lib.hid hR
  have hs2 : ((w.alloc (.cells #[.int .i64 st, .slice a1 xs.length c1, .slice a2 ys.length c2, .slice a3 bs.length c3, .slice a4 ps.length c4] 27)).alloc (.cells #[.int .i64 0, .slice none 0 0, .slice none 0 0, .slice none 0 0, .slice none 0 0] 27)).heap.size = w.heap.size + 2 := by simp
  have Hs2 := Lib.hid hs2
  clear hB hR hs2
  go_enter Try.func9, Try.ntmps9
  go_wp2_with fail
  generalize ((w.alloc (.cells #[.int .i64 st, .slice a1 xs.length c1, .slice a2 ys.length c2, .slice a3 bs.length c3, .slice a4 ps.length c4] 27)).alloc (.cells #[.int .i64 0, .slice none 0 0, .slice none 0 0, .slice none 0 0, .slice none 0 0] 27)) = W at HB HR Hs2 ⊢
  refine (HOk.out _ HB.out).mono ?_
  rintro e w1 ⟨rfl, hB1⟩
  have KR := Lib.hid (HR.out.below hB1 HR.out.lt)
  have B1 := Lib.hid (below_trans HB.out hB1 HB.out.size)
  obtain ⟨y0, y1, y2, y3, y4⟩ : w1.cell? ⟨w.heap.size + 1, 0, none⟩ = some (.int .i64 0) ∧ w1.cell? ⟨w.heap.size + 1, 1, none⟩ = some (.slice none 0 0) ∧ w1.cell? ⟨w.heap.size + 1, 2, none⟩ = some (.slice none 0 0) ∧ w1.cell? ⟨w.heap.size + 1, 3, none⟩ = some (.slice none 0 0) ∧ w1.cell? ⟨w.heap.size + 1, 4, none⟩ = some (.slice none 0 0) := ⟨(KR.out.cell 0), (KR.out.cell 1), (KR.out.cell 2), (KR.out.cell 3), (KR.out.cell 4)⟩
  have f0 := KR.out.frozen 0
  have f1 := KR.out.frozen 1
  have f2 := KR.out.frozen 2
  have f3 := KR.out.frozen 3
  have f4 := KR.out.frozen 4
  clear hB1
  have dk : decide (keep < 0) = true := decide_eq_true hk
  clear hk
  go_wp2
  refine bodyPost_ret (v := .agg #[.int .i64 0, .slice none 0 0, .slice none 0 0, .slice none 0 0, .slice none 0 0]) (by simp [results, Try.results9, go_sem, y0, y1, y2, y3, y4]) rfl ⟨_, rfl, ?_, ?_⟩
  · exact ⟨_, _, _, _, rfl, ⟨rfl, .inl ⟨rfl, rfl⟩⟩, ⟨rfl, .inl ⟨rfl, rfl⟩⟩, ⟨rfl, .inl ⟨rfl, rfl⟩⟩, ⟨rfl, .inl ⟨rfl, rfl⟩⟩, fun i h => by cases h⟩
  · exact ((((B1.out.setCell (p := ⟨w.heap.size + 1, 0, none⟩) (by simp) _).setCell (p := ⟨w.heap.size + 1, 1, none⟩) (by simp) _).setCell (p := ⟨w.heap.size + 1, 2, none⟩) (by simp) _).setCell (p := ⟨w.heap.size + 1, 3, none⟩) (by simp) _).setCell (p := ⟨w.heap.size + 1, 4, none⟩) (by simp) _

end Go.Proofs.Ytifgoanicbaohaa

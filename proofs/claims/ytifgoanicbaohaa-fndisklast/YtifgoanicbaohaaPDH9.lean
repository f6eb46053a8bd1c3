/- DiskFlush and DiskCrash of the program. Conditions: none. -/
import Derived.Test.YtifgoanicbaohaaPDH5
import Derived.Test.YtifgoanicbaohaaPDH7
import Derived.Test.YtifgoanicbaohaaPDH8
namespace Go.Proofs.Ytifgoanicbaohaa
open Go.RowKit Go.Sort Go.Shelf

set_option maxRecDepth 100000 in
set_option maxHeartbeats 2000000 in
theorem implFlush_ok (v : Value) (d : DiskD) (w : World) (hf : DiskFine d) (hv : DiskV w v d) :
    Calls Try.prog 12 #[v] w (NewDisk (crashD d (-1)) w) := by
  obtain ⟨z0, z1, _⟩ := fine_sizes hf
  have HDr := Lib.hid (fun W (h : Below w.heap.size w W) => driveOf_ok v d W hf (hv.below h))
  have HSe := Lib.hid (fun base D ids W h1 hD => settle_any base D d ids (-1) W h1 (by omega) (by omega) z0 hf.2.2.2.2.1 hD)
  have HDi := Lib.hid (fun base D W h1 hD => disk_any base D (crashD d (-1)) [] W h1 (by simp [crashD]) hD)
  generalize crashD d (-1) = de at HSe HDi
  obtain ⟨st, xs, ys, bs, ps⟩ := d
  obtain ⟨v1, v2, v3, v4, rfl, ⟨a1, c1, rfl, _⟩, ⟨a2, c2, rfl, _⟩, ⟨a3, c3, rfl, _⟩, ⟨a4, c4, rfl, _⟩⟩ := hv
  simp only at HDr HSe
  clear hf z0 z1
  have hB : Below w.heap.size w ((w.alloc (.cells #[.int .i64 st, .slice a1 xs.length c1, .slice a2 ys.length c2, .slice a3 bs.length c3, .slice a4 ps.length c4] 27)).alloc (.cells #[.int .i64 0, .slice none 0 0, .slice none 0 0, .slice none 0 0, .slice none 0 0] 27)) := ((Below.refl _ _).alloc (Nat.le_refl _) _).alloc (by simp) _
  have HB := Lib.hid hB
  have hR : Blk ((w.alloc (.cells #[.int .i64 st, .slice a1 xs.length c1, .slice a2 ys.length c2, .slice a3 bs.length c3, .slice a4 ps.length c4] 27)).alloc (.cells #[.int .i64 0, .slice none 0 0, .slice none 0 0, .slice none 0 0, .slice none 0 0] 27)) (w.heap.size + 1) #[.int .i64 0, .slice none 0 0, .slice none 0 0, .slice none 0 0, .slice none 0 0] 27 := by
    have := Blk.new (w.alloc (.cells #[.int .i64 st, .slice a1 xs.length c1, .slice a2 ys.length c2, .slice a3 bs.length c3, .slice a4 ps.length c4] 27)) #[.int .i64 0, .slice none 0 0, .slice none 0 0, .slice none 0 0, .slice none 0 0] 27
    rw [World.size_alloc] at this
    exact this
  have HR := Lib.hid hR
  have hs2 : ((w.alloc (.cells #[.int .i64 st, .slice a1 xs.length c1, .slice a2 ys.length c2, .slice a3 bs.length c3, .slice a4 ps.length c4] 27)).alloc (.cells #[.int .i64 0, .slice none 0 0, .slice none 0 0, .slice none 0 0, .slice none 0 0] 27)).heap.size = w.heap.size + 2 := by simp
  have Hs2 := Lib.hid hs2
  clear hB hR hs2
  go_enter Try.func12, Try.ntmps12
  go_wp2_with fail
  generalize ((w.alloc (.cells #[.int .i64 st, .slice a1 xs.length c1, .slice a2 ys.length c2, .slice a3 bs.length c3, .slice a4 ps.length c4] 27)).alloc (.cells #[.int .i64 0, .slice none 0 0, .slice none 0 0, .slice none 0 0, .slice none 0 0] 27)) = W at HB HR Hs2 ⊢
  refine (HDr.out _ HB.out).mono ?_
  rintro e w1 ⟨DD, ids, rfl, hD1, hB1⟩
  rw [Hs2.out] at hD1 hB1
  have KR := Lib.hid (HR.out.below hB1 (by omega))
  have B1 := Lib.hid (HB.out.trans (hB1.mono (by omega)))
  have z1 := hB1.size
  rw [Hs2.out] at z1
  have HD1 := Lib.hid hD1
  clear hD1 hB1
  go_wp2_with fail
  refine (HSe.out _ _ _ _ z1 HD1.out).mono ?_
  rintro e w2 ⟨⟨vv, rfl⟩, hD2, hB2⟩
  have KR2 := Lib.hid (KR.out.below hB2 (by omega))
  have B2 := Lib.hid (B1.out.trans (hB2.mono (by omega)))
  have z2 : w.heap.size + 2 ≤ w2.heap.size := Nat.le_trans z1 hB2.size
  have HD2 := Lib.hid hD2
  clear hD2 hB2 KR
  go_wp2_with fail
  refine (HDi.out _ _ _ z2 HD2.out).mono ?_
  rintro e w3 ⟨v3, rfl, ho, hB3⟩
  have HO := Lib.hid ho
  have KR3 := Lib.hid (KR2.out.below hB3 (by omega))
  have B3 := Lib.hid (below_trans B2.out hB3 B2.out.size)
  clear ho hB3 KR2
  obtain ⟨y0, y1, y2, y3, y4⟩ : w3.cell? ⟨w.heap.size + 1, 0, none⟩ = some (.int .i64 0) ∧ w3.cell? ⟨w.heap.size + 1, 1, none⟩ = some (.slice none 0 0) ∧ w3.cell? ⟨w.heap.size + 1, 2, none⟩ = some (.slice none 0 0) ∧ w3.cell? ⟨w.heap.size + 1, 3, none⟩ = some (.slice none 0 0) ∧ w3.cell? ⟨w.heap.size + 1, 4, none⟩ = some (.slice none 0 0) := ⟨(KR3.out.cell 0), (KR3.out.cell 1), (KR3.out.cell 2), (KR3.out.cell 3), (KR3.out.cell 4)⟩
  have f0 := KR3.out.frozen 0
  have f1 := KR3.out.frozen 1
  have f2 := KR3.out.frozen 2
  have f3 := KR3.out.frozen 3
  have f4 := KR3.out.frozen 4
  obtain ⟨r1, r2, r3, r4, rfl, ho4⟩ := HO.out
  obtain ⟨b1, e1, rfl, _⟩ := OwnTx.reads ho4.1
  obtain ⟨b2, e2, rfl, _⟩ := OwnTx.reads ho4.2.1
  obtain ⟨b3, e3, rfl, _⟩ := OwnBo.reads ho4.2.2.1
  obtain ⟨b4, e4, rfl, _⟩ := OwnPu.reads ho4.2.2.2.1
  go_wp2
  refine bodyPost_ret (v := .agg #[.int .i64 de.state, .slice b1 de.slots.length e1, .slice b2 de.rings.length e2, .slice b3 de.spoilt.length e3, .slice b4 de.wait.length e4]) (by simp [results, Try.results12, go_sem, y0, y1, y2, y3, y4]) rfl ⟨_, rfl, ⟨_, _, _, _, rfl, ?_⟩, ?_⟩
  · exact (((((ho4.far _ _ _ (by omega)).far _ _ _ (by omega)).far _ _ _ (by omega)).far _ _ _ (by omega)).far _ _ _ (by omega)).mono (by omega)
  · exact ((((B3.out.setCell (p := ⟨w.heap.size + 1, 0, none⟩) (by simp) _).setCell (p := ⟨w.heap.size + 1, 1, none⟩) (by simp) _).setCell (p := ⟨w.heap.size + 1, 2, none⟩) (by simp) _).setCell (p := ⟨w.heap.size + 1, 3, none⟩) (by simp) _).setCell (p := ⟨w.heap.size + 1, 4, none⟩) (by simp) _

set_option maxRecDepth 100000 in
set_option maxHeartbeats 2000000 in
theorem implFlush_no (v : Value) (d : DiskD) (w : World) (hf : ¬DiskFine d) (hv : DiskV w v d) :
    Calls Try.prog 12 #[v] w (NewDisk disk0 w) := by
  have HDr := Lib.hid (fun W (h : Below w.heap.size w W) => driveOf_no v d W hf (hv.below h))
  obtain ⟨st, xs, ys, bs, ps⟩ := d
  obtain ⟨v1, v2, v3, v4, rfl, ⟨a1, c1, rfl, _⟩, ⟨a2, c2, rfl, _⟩, ⟨a3, c3, rfl, _⟩, ⟨a4, c4, rfl, _⟩⟩ := hv
  simp only at HDr
  clear hf
  have hB : Below w.heap.size w ((w.alloc (.cells #[.int .i64 st, .slice a1 xs.length c1, .slice a2 ys.length c2, .slice a3 bs.length c3, .slice a4 ps.length c4] 27)).alloc (.cells #[.int .i64 0, .slice none 0 0, .slice none 0 0, .slice none 0 0, .slice none 0 0] 27)) := ((Below.refl _ _).alloc (Nat.le_refl _) _).alloc (by simp) _
  have HB := Lib.hid hB
  have hR : Blk ((w.alloc (.cells #[.int .i64 st, .slice a1 xs.length c1, .slice a2 ys.length c2, .slice a3 bs.length c3, .slice a4 ps.length c4] 27)).alloc (.cells #[.int .i64 0, .slice none 0 0, .slice none 0 0, .slice none 0 0, .slice none 0 0] 27)) (w.heap.size + 1) #[.int .i64 0, .slice none 0 0, .slice none 0 0, .slice none 0 0, .slice none 0 0] 27 := by
    have := Blk.new (w.alloc (.cells #[.int .i64 st, .slice a1 xs.length c1, .slice a2 ys.length c2, .slice a3 bs.length c3, .slice a4 ps.length c4] 27)) #[.int .i64 0, .slice none 0 0, .slice none 0 0, .slice none 0 0, .slice none 0 0] 27
    rw [World.size_alloc] at this
    exact this
  have HR := Lib.hid hR
  have hs2 : ((w.alloc (.cells #[.int .i64 st, .slice a1 xs.length c1, .slice a2 ys.length c2, .slice a3 bs.length c3, .slice a4 ps.length c4] 27)).alloc (.cells #[.int .i64 0, .slice none 0 0, .slice none 0 0, .slice none 0 0, .slice none 0 0] 27)).heap.size = w.heap.size + 2 := by simp
  have Hs2 := Lib.hid hs2
  clear hB hR hs2
  go_enter Try.func12, Try.ntmps12
  go_wp2_with fail
  generalize ((w.alloc (.cells #[.int .i64 st, .slice a1 xs.length c1, .slice a2 ys.length c2, .slice a3 bs.length c3, .slice a4 ps.length c4] 27)).alloc (.cells #[.int .i64 0, .slice none 0 0, .slice none 0 0, .slice none 0 0, .slice none 0 0] 27)) = W at HB HR Hs2 ⊢
  refine (HDr.out _ HB.out).mono ?_
  rintro e w1 ⟨rfl, hB1⟩
  have KR := Lib.hid (HR.out.below hB1 HR.out.lt)
  have B1 := Lib.hid (below_trans HB.out hB1 HB.out.size)
  obtain ⟨y0, y1, y2, y3, y4⟩ : w1.cell? ⟨w.heap.size + 1, 0, none⟩ = some (.int .i64 0) ∧ w1.cell? ⟨w.heap.size + 1, 1, none⟩ = some (.slice none 0 0) ∧ w1.cell? ⟨w.heap.size + 1, 2, none⟩ = some (.slice none 0 0) ∧ w1.cell? ⟨w.heap.size + 1, 3, none⟩ = some (.slice none 0 0) ∧ w1.cell? ⟨w.heap.size + 1, 4, none⟩ = some (.slice none 0 0) := ⟨(KR.out.cell 0), (KR.out.cell 1), (KR.out.cell 2), (KR.out.cell 3), (KR.out.cell 4)⟩
  have f0 := KR.out.frozen 0
  have f1 := KR.out.frozen 1
  have f2 := KR.out.frozen 2
  have f3 := KR.out.frozen 3
  have f4 := KR.out.frozen 4
  clear hB1
  go_wp2
  refine bodyPost_ret (v := .agg #[.int .i64 0, .slice none 0 0, .slice none 0 0, .slice none 0 0, .slice none 0 0]) (by simp [results, Try.results12, go_sem, y0, y1, y2, y3, y4]) rfl ⟨_, rfl, ?_, ?_⟩
  · exact ⟨_, _, _, _, rfl, ⟨rfl, .inl ⟨rfl, rfl⟩⟩, ⟨rfl, .inl ⟨rfl, rfl⟩⟩, ⟨rfl, .inl ⟨rfl, rfl⟩⟩, ⟨rfl, .inl ⟨rfl, rfl⟩⟩, fun i h => by cases h⟩
  · exact ((((B1.out.setCell (p := ⟨w.heap.size + 1, 0, none⟩) (by simp) _).setCell (p := ⟨w.heap.size + 1, 1, none⟩) (by simp) _).setCell (p := ⟨w.heap.size + 1, 2, none⟩) (by simp) _).setCell (p := ⟨w.heap.size + 1, 3, none⟩) (by simp) _).setCell (p := ⟨w.heap.size + 1, 4, none⟩) (by simp) _

set_option maxRecDepth 100000 in
set_option maxHeartbeats 2000000 in
theorem implCrash_ok (v : Value) (d : DiskD) (keep : Int) (w : World) (hf : DiskFine d) (hk : 0 ≤ keep) (hk2 : keep ≤ 9223372036854775807) (hv : DiskV w v d) :
    Calls Try.prog 7 #[v, .int .i64 keep] w (NewDisk (crashD d (keep)) w) := by
  obtain ⟨z0, z1, _⟩ := fine_sizes hf
  have HDr := Lib.hid (fun W (h : Below w.heap.size w W) => driveOf_ok v d W hf (hv.below h))
  have HSe := Lib.hid (fun base D ids W h1 hD => settle_any base D d ids (keep) W h1 (by omega) (by omega) z0 hf.2.2.2.2.1 hD)
  have HDi := Lib.hid (fun base D W h1 hD => disk_any base D (crashD d (keep)) [] W h1 (by simp [crashD]) hD)
  generalize crashD d (keep) = de at HSe HDi
  obtain ⟨st, xs, ys, bs, ps⟩ := d
  obtain ⟨v1, v2, v3, v4, rfl, ⟨a1, c1, rfl, _⟩, ⟨a2, c2, rfl, _⟩, ⟨a3, c3, rfl, _⟩, ⟨a4, c4, rfl, _⟩⟩ := hv
  simp only at HDr HSe
  clear hf z0 z1
  have hB : Below w.heap.size w ((w.alloc (.cells #[.int .i64 st, .slice a1 xs.length c1, .slice a2 ys.length c2, .slice a3 bs.length c3, .slice a4 ps.length c4] 27)).alloc (.cells #[.int .i64 0, .slice none 0 0, .slice none 0 0, .slice none 0 0, .slice none 0 0] 27)) := ((Below.refl _ _).alloc (Nat.le_refl _) _).alloc (by simp) _
  have HB := Lib.hid hB
  have hR : Blk ((w.alloc (.cells #[.int .i64 st, .slice a1 xs.length c1, .slice a2 ys.length c2, .slice a3 bs.length c3, .slice a4 ps.length c4] 27)).alloc (.cells #[.int .i64 0, .slice none 0 0, .slice none 0 0, .slice none 0 0, .slice none 0 0] 27)) (w.heap.size + 1) #[.int .i64 0, .slice none 0 0, .slice none 0 0, .slice none 0 0, .slice none 0 0] 27 := by
    have := Blk.new (w.alloc (.cells #[.int .i64 st, .slice a1 xs.length c1, .slice a2 ys.length c2, .slice a3 bs.length c3, .slice a4 ps.length c4] 27)) #[.int .i64 0, .slice none 0 0, .slice none 0 0, .slice none 0 0, .slice none 0 0] 27
    rw [World.size_alloc] at this
    exact this
  have HR := Lib.hid hR
  have hs2 : ((w.alloc (.cells #[.int .i64 st, .slice a1 xs.length c1, .slice a2 ys.length c2, .slice a3 bs.length c3, .slice a4 ps.length c4] 27)).alloc (.cells #[.int .i64 0, .slice none 0 0, .slice none 0 0, .slice none 0 0, .slice none 0 0] 27)).heap.size = w.heap.size + 2 := by simp
  have Hs2 := Lib.hid hs2
  clear hB hR hs2
  go_enter Try.func7, Try.ntmps7
  go_wp2_with fail
  generalize ((w.alloc (.cells #[.int .i64 st, .slice a1 xs.length c1, .slice a2 ys.length c2, .slice a3 bs.length c3, .slice a4 ps.length c4] 27)).alloc (.cells #[.int .i64 0, .slice none 0 0, .slice none 0 0, .slice none 0 0, .slice none 0 0] 27)) = W at HB HR Hs2 ⊢
  refine (HDr.out _ HB.out).mono ?_
  rintro e w1 ⟨DD, ids, rfl, hD1, hB1⟩
  rw [Hs2.out] at hD1 hB1
  have KR := Lib.hid (HR.out.below hB1 (by omega))
  have B1 := Lib.hid (HB.out.trans (hB1.mono (by omega)))
  have z1 := hB1.size
  rw [Hs2.out] at z1
  have HD1 := Lib.hid hD1
  clear hD1 hB1
  have dk : decide (keep < 0) = false := decide_eq_false (by omega)
  go_wp2_with fail
  refine (HSe.out _ _ _ _ z1 HD1.out).mono ?_
  rintro e w2 ⟨⟨vv, rfl⟩, hD2, hB2⟩
  have KR2 := Lib.hid (KR.out.below hB2 (by omega))
  have B2 := Lib.hid (B1.out.trans (hB2.mono (by omega)))
  have z2 : w.heap.size + 2 ≤ w2.heap.size := Nat.le_trans z1 hB2.size
  have HD2 := Lib.hid hD2
  clear hD2 hB2 KR
  go_wp2_with fail
  refine (HDi.out _ _ _ z2 HD2.out).mono ?_
  rintro e w3 ⟨v3, rfl, ho, hB3⟩
  have HO := Lib.hid ho
  have KR3 := Lib.hid (KR2.out.below hB3 (by omega))
  have B3 := Lib.hid (below_trans B2.out hB3 B2.out.size)
  clear ho hB3 KR2
  obtain ⟨y0, y1, y2, y3, y4⟩ : w3.cell? ⟨w.heap.size + 1, 0, none⟩ = some (.int .i64 0) ∧ w3.cell? ⟨w.heap.size + 1, 1, none⟩ = some (.slice none 0 0) ∧ w3.cell? ⟨w.heap.size + 1, 2, none⟩ = some (.slice none 0 0) ∧ w3.cell? ⟨w.heap.size + 1, 3, none⟩ = some (.slice none 0 0) ∧ w3.cell? ⟨w.heap.size + 1, 4, none⟩ = some (.slice none 0 0) := ⟨(KR3.out.cell 0), (KR3.out.cell 1), (KR3.out.cell 2), (KR3.out.cell 3), (KR3.out.cell 4)⟩
  have f0 := KR3.out.frozen 0
  have f1 := KR3.out.frozen 1
  have f2 := KR3.out.frozen 2
  have f3 := KR3.out.frozen 3
  have f4 := KR3.out.frozen 4
  obtain ⟨r1, r2, r3, r4, rfl, ho4⟩ := HO.out
  obtain ⟨b1, e1, rfl, _⟩ := OwnTx.reads ho4.1
  obtain ⟨b2, e2, rfl, _⟩ := OwnTx.reads ho4.2.1
  obtain ⟨b3, e3, rfl, _⟩ := OwnBo.reads ho4.2.2.1
  obtain ⟨b4, e4, rfl, _⟩ := OwnPu.reads ho4.2.2.2.1
  go_wp2
  refine bodyPost_ret (v := .agg #[.int .i64 de.state, .slice b1 de.slots.length e1, .slice b2 de.rings.length e2, .slice b3 de.spoilt.length e3, .slice b4 de.wait.length e4]) (by simp [results, Try.results7, go_sem, y0, y1, y2, y3, y4]) rfl ⟨_, rfl, ⟨_, _, _, _, rfl, ?_⟩, ?_⟩
  · exact (((((ho4.far _ _ _ (by omega)).far _ _ _ (by omega)).far _ _ _ (by omega)).far _ _ _ (by omega)).far _ _ _ (by omega)).mono (by omega)
  · exact ((((B3.out.setCell (p := ⟨w.heap.size + 1, 0, none⟩) (by simp) _).setCell (p := ⟨w.heap.size + 1, 1, none⟩) (by simp) _).setCell (p := ⟨w.heap.size + 1, 2, none⟩) (by simp) _).setCell (p := ⟨w.heap.size + 1, 3, none⟩) (by simp) _).setCell (p := ⟨w.heap.size + 1, 4, none⟩) (by simp) _

set_option maxRecDepth 100000 in
set_option maxHeartbeats 2000000 in
theorem implCrash_no (v : Value) (d : DiskD) (keep : Int) (w : World) (hf : ¬DiskFine d) (hv : DiskV w v d) :
    Calls Try.prog 7 #[v, .int .i64 keep] w (NewDisk disk0 w) := by
  have HDr := Lib.hid (fun W (h : Below w.heap.size w W) => driveOf_no v d W hf (hv.below h))
  obtain ⟨st, xs, ys, bs, ps⟩ := d
  obtain ⟨v1, v2, v3, v4, rfl, ⟨a1, c1, rfl, _⟩, ⟨a2, c2, rfl, _⟩, ⟨a3, c3, rfl, _⟩, ⟨a4, c4, rfl, _⟩⟩ := hv
  simp only at HDr
  clear hf
  have hB : Below w.heap.size w ((w.alloc (.cells #[.int .i64 st, .slice a1 xs.length c1, .slice a2 ys.length c2, .slice a3 bs.length c3, .slice a4 ps.length c4] 27)).alloc (.cells #[.int .i64 0, .slice none 0 0, .slice none 0 0, .slice none 0 0, .slice none 0 0] 27)) := ((Below.refl _ _).alloc (Nat.le_refl _) _).alloc (by simp) _
  have HB := Lib.hid hB
  have hR : Blk ((w.alloc (.cells #[.int .i64 st, .slice a1 xs.length c1, .slice a2 ys.length c2, .slice a3 bs.length c3, .slice a4 ps.length c4] 27)).alloc (.cells #[.int .i64 0, .slice none 0 0, .slice none 0 0, .slice none 0 0, .slice none 0 0] 27)) (w.heap.size + 1) #[.int .i64 0, .slice none 0 0, .slice none 0 0, .slice none 0 0, .slice none 0 0] 27 := by
    have := Blk.new (w.alloc (.cells #[.int .i64 st, .slice a1 xs.length c1, .slice a2 ys.length c2, .slice a3 bs.length c3, .slice a4 ps.length c4] 27)) #[.int .i64 0, .slice none 0 0, .slice none 0 0, .slice none 0 0, .slice none 0 0] 27
    rw [World.size_alloc] at this
    exact this
  have HR := Lib.hid hR
  have hs2 : ((w.alloc (.cells #[.int .i64 st, .slice a1 xs.length c1, .slice a2 ys.length c2, .slice a3 bs.length c3, .slice a4 ps.length c4] 27)).alloc (.cells #[.int .i64 0, .slice none 0 0, .slice none 0 0, .slice none 0 0, .slice none 0 0] 27)).heap.size = w.heap.size + 2 := by simp
  have Hs2 := Lib.hid hs2
  clear hB hR hs2
  go_enter Try.func7, Try.ntmps7
  go_wp2_with fail
  generalize ((w.alloc (.cells #[.int .i64 st, .slice a1 xs.length c1, .slice a2 ys.length c2, .slice a3 bs.length c3, .slice a4 ps.length c4] 27)).alloc (.cells #[.int .i64 0, .slice none 0 0, .slice none 0 0, .slice none 0 0, .slice none 0 0] 27)) = W at HB HR Hs2 ⊢
  refine (HDr.out _ HB.out).mono ?_
  rintro e w1 ⟨rfl, hB1⟩
  have KR := Lib.hid (HR.out.below hB1 HR.out.lt)
  have B1 := Lib.hid (below_trans HB.out hB1 HB.out.size)
  obtain ⟨y0, y1, y2, y3, y4⟩ : w1.cell? ⟨w.heap.size + 1, 0, none⟩ = some (.int .i64 0) ∧ w1.cell? ⟨w.heap.size + 1, 1, none⟩ = some (.slice none 0 0) ∧ w1.cell? ⟨w.heap.size + 1, 2, none⟩ = some (.slice none 0 0) ∧ w1.cell? ⟨w.heap.size + 1, 3, none⟩ = some (.slice none 0 0) ∧ w1.cell? ⟨w.heap.size + 1, 4, none⟩ = some (.slice none 0 0) := ⟨(KR.out.cell 0), (KR.out.cell 1), (KR.out.cell 2), (KR.out.cell 3), (KR.out.cell 4)⟩
  have f0 := KR.out.frozen 0
  have f1 := KR.out.frozen 1
  have f2 := KR.out.frozen 2
  have f3 := KR.out.frozen 3
  have f4 := KR.out.frozen 4
  clear hB1
  go_wp2
  refine bodyPost_ret (v := .agg #[.int .i64 0, .slice none 0 0, .slice none 0 0, .slice none 0 0, .slice none 0 0]) (by simp [results, Try.results7, go_sem, y0, y1, y2, y3, y4]) rfl ⟨_, rfl, ?_, ?_⟩
  · exact ⟨_, _, _, _, rfl, ⟨rfl, .inl ⟨rfl, rfl⟩⟩, ⟨rfl, .inl ⟨rfl, rfl⟩⟩, ⟨rfl, .inl ⟨rfl, rfl⟩⟩, ⟨rfl, .inl ⟨rfl, rfl⟩⟩, fun i h => by cases h⟩
  · exact ((((B1.out.setCell (p := ⟨w.heap.size + 1, 0, none⟩) (by simp) _).setCell (p := ⟨w.heap.size + 1, 1, none⟩) (by simp) _).setCell (p := ⟨w.heap.size + 1, 2, none⟩) (by simp) _).setCell (p := ⟨w.heap.size + 1, 3, none⟩) (by simp) _).setCell (p := ⟨w.heap.size + 1, 4, none⟩) (by simp) _

set_option maxRecDepth 100000 in
set_option maxHeartbeats 2000000 in
theorem implCrash_neg (v : Value) (d : DiskD) (keep : Int) (w : World) (hf : DiskFine d) (hk : keep < 0) (hv : DiskV w v d) :
    Calls Try.prog 7 #[v, .int .i64 keep] w (NewDisk disk0 w) := by
  have HDr := Lib.hid (fun W (h : Below w.heap.size w W) => driveOf_ok v d W hf (hv.below h))
  obtain ⟨st, xs, ys, bs, ps⟩ := d
  obtain ⟨v1, v2, v3, v4, rfl, ⟨a1, c1, rfl, _⟩, ⟨a2, c2, rfl, _⟩, ⟨a3, c3, rfl, _⟩, ⟨a4, c4, rfl, _⟩⟩ := hv
  simp only at HDr
  clear hf
  have hB : Below w.heap.size w ((w.alloc (.cells #[.int .i64 st, .slice a1 xs.length c1, .slice a2 ys.length c2, .slice a3 bs.length c3, .slice a4 ps.length c4] 27)).alloc (.cells #[.int .i64 0, .slice none 0 0, .slice none 0 0, .slice none 0 0, .slice none 0 0] 27)) := ((Below.refl _ _).alloc (Nat.le_refl _) _).alloc (by simp) _
  have HB := Lib.hid hB
  have hR : Blk ((w.alloc (.cells #[.int .i64 st, .slice a1 xs.length c1, .slice a2 ys.length c2, .slice a3 bs.length c3, .slice a4 ps.length c4] 27)).alloc (.cells #[.int .i64 0, .slice none 0 0, .slice none 0 0, .slice none 0 0, .slice none 0 0] 27)) (w.heap.size + 1) #[.int .i64 0, .slice none 0 0, .slice none 0 0, .slice none 0 0, .slice none 0 0] 27 := by
    have := Blk.new (w.alloc (.cells #[.int .i64 st, .slice a1 xs.length c1, .slice a2 ys.length c2, .slice a3 bs.length c3, .slice a4 ps.length c4] 27)) #[.int .i64 0, .slice none 0 0, .slice none 0 0, .slice none 0 0, .slice none 0 0] 27
    rw [World.size_alloc] at this
    exact this
  have HR := Lib.hid hR
  have hs2 : ((w.alloc (.cells #[.int .i64 st, .slice a1 xs.length c1, .slice a2 ys.length c2, .slice a3 bs.length c3, .slice a4 ps.length c4] 27)).alloc (.cells #[.int .i64 0, .slice none 0 0, .slice none 0 0, .slice none 0 0, .slice none 0 0] 27)).heap.size = w.heap.size + 2 := by simp
  have Hs2 := Lib.hid hs2
  clear hB hR hs2
  go_enter Try.func7, Try.ntmps7
  go_wp2_with fail
  generalize ((w.alloc (.cells #[.int .i64 st, .slice a1 xs.length c1, .slice a2 ys.length c2, .slice a3 bs.length c3, .slice a4 ps.length c4] 27)).alloc (.cells #[.int .i64 0, .slice none 0 0, .slice none 0 0, .slice none 0 0, .slice none 0 0] 27)) = W at HB HR Hs2 ⊢
  refine (HDr.out _ HB.out).mono ?_
  rintro e w1 ⟨DD, ids, rfl, _, hB1⟩
  have dk : decide (keep < 0) = true := decide_eq_true hk
  clear hk
  have KR := Lib.hid (HR.out.below hB1 HR.out.lt)
  have B1 := Lib.hid (below_trans HB.out hB1 HB.out.size)
  obtain ⟨y0, y1, y2, y3, y4⟩ : w1.cell? ⟨w.heap.size + 1, 0, none⟩ = some (.int .i64 0) ∧ w1.cell? ⟨w.heap.size + 1, 1, none⟩ = some (.slice none 0 0) ∧ w1.cell? ⟨w.heap.size + 1, 2, none⟩ = some (.slice none 0 0) ∧ w1.cell? ⟨w.heap.size + 1, 3, none⟩ = some (.slice none 0 0) ∧ w1.cell? ⟨w.heap.size + 1, 4, none⟩ = some (.slice none 0 0) := ⟨(KR.out.cell 0), (KR.out.cell 1), (KR.out.cell 2), (KR.out.cell 3), (KR.out.cell 4)⟩
  have f0 := KR.out.frozen 0
  have f1 := KR.out.frozen 1
  have f2 := KR.out.frozen 2
  have f3 := KR.out.frozen 3
  have f4 := KR.out.frozen 4
  clear hB1
  go_wp2
  refine bodyPost_ret (v := .agg #[.int .i64 0, .slice none 0 0, .slice none 0 0, .slice none 0 0, .slice none 0 0]) (by simp [results, Try.results7, go_sem, y0, y1, y2, y3, y4]) rfl ⟨_, rfl, ?_, ?_⟩
  · exact ⟨_, _, _, _, rfl, ⟨rfl, .inl ⟨rfl, rfl⟩⟩, ⟨rfl, .inl ⟨rfl, rfl⟩⟩, ⟨rfl, .inl ⟨rfl, rfl⟩⟩, ⟨rfl, .inl ⟨rfl, rfl⟩⟩, fun i h => by cases h⟩
  · exact ((((B1.out.setCell (p := ⟨w.heap.size + 1, 0, none⟩) (by simp) _).setCell (p := ⟨w.heap.size + 1, 1, none⟩) (by simp) _).setCell (p := ⟨w.heap.size + 1, 2, none⟩) (by simp) _).setCell (p := ⟨w.heap.size + 1, 3, none⟩) (by simp) _).setCell (p := ⟨w.heap.size + 1, 4, none⟩) (by simp) _

end Go.Proofs.Ytifgoanicbaohaa

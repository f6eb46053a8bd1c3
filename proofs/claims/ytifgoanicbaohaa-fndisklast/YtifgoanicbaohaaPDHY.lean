/- DiskSpoil of the program. Conditions: none. -/
import Derived.Test.YtifgoanicbaohaaPDHS
import Derived.Test.YtifgoanicbaohaaPDH9
namespace Go.Proofs.Ytifgoanicbaohaa
open Go.RowKit Go.Sort Go.Shelf

theorem fine_byte {d : DiskD} (h : DiskFine d) {k b : Nat} (hk : k < 12) (hb : b < 3) (hc : CanSpoil d k) : b < (d.slots.getD k ByteArray.empty).size := by
  rcases h.2.2.1 k (by have := h.2.1.1; omega) with q | q
  · exact absurd q.1 hc.1
  · omega

set_option maxRecDepth 100000 in
set_option maxHeartbeats 2000000 in
theorem implSpoil_ok (v : Value) (d : DiskD) (k b : Nat) (c : Int) (w : World) (hf : DiskFine d) (hk : k < 12) (hb : b < 3) (hc : 1 ≤ c ∧ c ≤ 255) (hv : DiskV w v d) :
    Calls Try.prog 14 #[v, .int .i64 (k : Int), .int .i64 (b : Int), .int .i64 c] w (NewDisk (spoilD d k b (c % 256)) w) := by
  obtain ⟨z0, z1, _⟩ := fine_sizes hf
  have HDr := Lib.hid (fun W (h : Below w.heap.size w W) => driveOf_ok v d W hf (hv.below h))
  have HIs := Lib.hid (fun W => isSlot_any (k : Int) W)
  rw [tt_true (show SlotOk (k : Int) from ⟨by omega, by omega⟩)] at HIs
  have HSe := Lib.hid (fun base D ids W h1 hD => spoil_any base D d ids k b (c % 256) W h1 z0 hk (fun hcs => fine_byte hf hk hb hcs) hD)
  have HDi := Lib.hid (fun base D ids W h1 hD => disk_any base D (spoilD d k b (c % 256)) ids W h1 (by rw [(spoil_wait d k b (c % 256)).1]; omega) hD)
  have d1 : decide ((b : Int) < 0) = false := decide_eq_false (by omega)
  have d2 : decide (3 ≤ (b : Int)) = false := decide_eq_false (by omega)
  have d3 : decide (c < 1) = false := decide_eq_false (by omega)
  have d4 : decide (255 < c) = false := decide_eq_false (by omega)
  generalize spoilD d k b (c % 256) = de at HSe HDi ⊢
  obtain ⟨st, xs, ys, bs, ps⟩ := d
  obtain ⟨v1, v2, v3, v4, rfl, ⟨a1, c1, rfl, _⟩, ⟨a2, c2, rfl, _⟩, ⟨a3, c3, rfl, _⟩, ⟨a4, c4, rfl, _⟩⟩ := hv
  simp only at HDr HSe
  clear hf z0 z1 hc
  have hB : Below w.heap.size w ((w.alloc (.cells #[.int .i64 st, .slice a1 xs.length c1, .slice a2 ys.length c2, .slice a3 bs.length c3, .slice a4 ps.length c4] 27)).alloc (.cells #[.int .i64 0, .slice none 0 0, .slice none 0 0, .slice none 0 0, .slice none 0 0] 27)) := ((Below.refl _ _).alloc (Nat.le_refl _) _).alloc (by simp) _
  have HB := Lib.hid hB
  have hR : Blk ((w.alloc (.cells #[.int .i64 st, .slice a1 xs.length c1, .slice a2 ys.length c2, .slice a3 bs.length c3, .slice a4 ps.length c4] 27)).alloc (.cells #[.int .i64 0, .slice none 0 0, .slice none 0 0, .slice none 0 0, .slice none 0 0] 27)) (w.heap.size + 1) #[.int .i64 0, .slice none 0 0, .slice none 0 0, .slice none 0 0, .slice none 0 0] 27 := by
    have := Blk.new (w.alloc (.cells #[.int .i64 st, .slice a1 xs.length c1, .slice a2 ys.length c2, .slice a3 bs.length c3, .slice a4 ps.length c4] 27)) #[.int .i64 0, .slice none 0 0, .slice none 0 0, .slice none 0 0, .slice none 0 0] 27
    rw [World.size_alloc] at this
    exact this
  have HR := Lib.hid hR
  have hs2 : ((w.alloc (.cells #[.int .i64 st, .slice a1 xs.length c1, .slice a2 ys.length c2, .slice a3 bs.length c3, .slice a4 ps.length c4] 27)).alloc (.cells #[.int .i64 0, .slice none 0 0, .slice none 0 0, .slice none 0 0, .slice none 0 0] 27)).heap.size = w.heap.size + 2 := by simp
  have Hs2 := Lib.hid hs2
  clear hB hR hs2
  go_enter Try.func14, Try.ntmps14
  go_wp2_with fail
  generalize ((w.alloc (.cells #[.int .i64 st, .slice a1 xs.length c1, .slice a2 ys.length c2, .slice a3 bs.length c3, .slice a4 ps.length c4] 27)).alloc (.cells #[.int .i64 0, .slice none 0 0, .slice none 0 0, .slice none 0 0, .slice none 0 0] 27)) = W at HB HR Hs2 ⊢
  refine (HDr.out _ HB.out).mono ?_
  rintro e w1 ⟨DD, ids, rfl, hD1, hB1⟩
  rw [Hs2.out] at hD1 hB1
  have KR := Lib.hid (HR.out.below hB1 (by omega))
  have B1 := Lib.hid (HB.out.trans (hB1.mono (by omega)))
  have z1 := hB1.size
  rw [Hs2.out] at z1
  have HD1 := Lib.hid hD1
  clear hD1 hB1
  go_wp2_with fail
  refine (HIs.out _).mono ?_
  rintro e w1' ⟨rfl, rfl⟩
  go_wp2_with fail
  refine (HSe.out _ _ _ _ z1 HD1.out).mono ?_
  rintro e w2 ⟨⟨vv, rfl⟩, hD2, hB2⟩
  have KR2 := Lib.hid (KR.out.below hB2 (by omega))
  have B2 := Lib.hid (B1.out.trans (hB2.mono (by omega)))
  have z2 : w.heap.size + 2 ≤ w2.heap.size := Nat.le_trans z1 hB2.size
  have HD2 := Lib.hid hD2
  clear hD2 hB2 KR
  go_wp2_with fail
  refine (HDi.out _ _ _ _ z2 HD2.out).mono ?_
  rintro e w3 ⟨v3, rfl, ho, hB3⟩
  have HO := Lib.hid ho
  have KR3 := Lib.hid (KR2.out.below hB3 (by omega))
  have B3 := Lib.hid (below_trans B2.out hB3 B2.out.size)
  clear ho hB3 KR2
  obtain ⟨y0, y1, y2, y3, y4⟩ : w3.cell? ⟨w.heap.size + 1, 0, none⟩ = some (.int .i64 0) ∧ w3.cell? ⟨w.heap.size + 1, 1, none⟩ = some (.slice none 0 0) ∧ w3.cell? ⟨w.heap.size + 1, 2, none⟩ = some (.slice none 0 0) ∧ w3.cell? ⟨w.heap.size + 1, 3, none⟩ = some (.slice none 0 0) ∧ w3.cell? ⟨w.heap.size + 1, 4, none⟩ = some (.slice none 0 0) := ⟨(KR3.out.cell 0), (KR3.out.cell 1), (KR3.out.cell 2), (KR3.out.cell 3), (KR3.out.cell 4)⟩
  have f0 := KR3.out.frozen 0
  have f1 := KR3.out.frozen 1
  have f2 := KR3.out.frozen 2
  have f3 := KR3.out.frozen 3
  have f4 := KR3.out.frozen 4
  obtain ⟨r1, r2, r3, r4, rfl, ho4⟩ := HO.out
  obtain ⟨b1, e1, rfl, _⟩ := OwnTx.reads ho4.1
  obtain ⟨b2, e2, rfl, _⟩ := OwnTx.reads ho4.2.1
  obtain ⟨b3, e3, rfl, _⟩ := OwnBo.reads ho4.2.2.1
  obtain ⟨b4, e4, rfl, _⟩ := OwnPu.reads ho4.2.2.2.1
  go_wp2
  refine bodyPost_ret (v := .agg #[.int .i64 de.state, .slice b1 de.slots.length e1, .slice b2 de.rings.length e2, .slice b3 de.spoilt.length e3, .slice b4 de.wait.length e4]) (by simp [results, Try.results14, go_sem, y0, y1, y2, y3, y4]) rfl ⟨_, rfl, ⟨_, _, _, _, rfl, ?_⟩, ?_⟩
  · exact (((((ho4.far _ _ _ (by omega)).far _ _ _ (by omega)).far _ _ _ (by omega)).far _ _ _ (by omega)).far _ _ _ (by omega)).mono (by omega)
  · exact ((((B3.out.setCell (p := ⟨w.heap.size + 1, 0, none⟩) (by simp) _).setCell (p := ⟨w.heap.size + 1, 1, none⟩) (by simp) _).setCell (p := ⟨w.heap.size + 1, 2, none⟩) (by simp) _).setCell (p := ⟨w.heap.size + 1, 3, none⟩) (by simp) _).setCell (p := ⟨w.heap.size + 1, 4, none⟩) (by simp) _

set_option maxRecDepth 100000 in
set_option maxHeartbeats 2000000 in
theorem implSpoil_no1 (v : Value) (d : DiskD) (z y c : Int) (w : World) (hf : ¬DiskFine d) (hv : DiskV w v d) :
    Calls Try.prog 14 #[v, .int .i64 z, .int .i64 y, .int .i64 c] w (NewDisk disk0 w) := by
  have HDr := Lib.hid (fun W (h : Below w.heap.size w W) => driveOf_no v d W hf (hv.below h))
  obtain ⟨st, xs, ys, bs, ps⟩ := d
  obtain ⟨v1, v2, v3, v4, rfl, ⟨a1, c1, rfl, _⟩, ⟨a2, c2, rfl, _⟩, ⟨a3, c3, rfl, _⟩, ⟨a4, c4, rfl, _⟩⟩ := hv
  simp only at HDr
  clear hf
  have hB : Below w.heap.size w ((w.alloc (.cells #[.int .i64 st, .slice a1 xs.length c1, .slice a2 ys.length c2, .slice a3 bs.length c3, .slice a4 ps.length c4] 27)).alloc (.cells #[.int .i64 0, .slice none 0 0, .slice none 0 0, .slice none 0 0, .slice none 0 0] 27)) := ((Below.refl _ _).alloc (Nat.le_refl _) _).alloc (by simp) _
  have HB := Lib.hid hB
  have hR : Blk ((w.alloc (.cells #[.int .i64 st, .slice a1 xs.length c1, .slice a2 ys.length c2, .slice a3 bs.length c3, .slice a4 ps.length c4] 27)).alloc (.cells #[.int .i64 0, .slice none 0 0, .slice none 0 0, .slice none 0 0, .slice none 0 0] 27)) (w.heap.size + 1) #[.int .i64 0, .slice none 0 0, .slice none 0 0, .slice none 0 0, .slice none 0 0] 27 := by
    have := Blk.new (w.alloc (.cells #[.int .i64 st, .slice a1 xs.length c1, .slice a2 ys.length c2, .slice a3 bs.length c3, .slice a4 ps.length c4] 27)) #[.int .i64 0, .slice none 0 0, .slice none 0 0, .slice none 0 0, .slice none 0 0] 27
    rw [World.size_alloc] at this
    exact this
  have HR := Lib.hid hR
  have hs2 : ((w.alloc (.cells #[.int .i64 st, .slice a1 xs.length c1, .slice a2 ys.length c2, .slice a3 bs.length c3, .slice a4 ps.length c4] 27)).alloc (.cells #[.int .i64 0, .slice none 0 0, .slice none 0 0, .slice none 0 0, .slice none 0 0] 27)).heap.size = w.heap.size + 2 := by simp
  have Hs2 := Lib.hid hs2
  clear hB hR hs2
  go_enter Try.func14, Try.ntmps14
  go_wp2_with fail
  generalize ((w.alloc (.cells #[.int .i64 st, .slice a1 xs.length c1, .slice a2 ys.length c2, .slice a3 bs.length c3, .slice a4 ps.length c4] 27)).alloc (.cells #[.int .i64 0, .slice none 0 0, .slice none 0 0, .slice none 0 0, .slice none 0 0] 27)) = W at HB HR Hs2 ⊢
  refine (HDr.out _ HB.out).mono ?_
  rintro e w1 ⟨rfl, hB1⟩
  have KR := Lib.hid (HR.out.below hB1 HR.out.lt)
  have B1 := Lib.hid (below_trans HB.out hB1 HB.out.size)
  obtain ⟨y0, y1, y2, y3, y4⟩ : w1.cell? ⟨w.heap.size + 1, 0, none⟩ = some (.int .i64 0) ∧ w1.cell? ⟨w.heap.size + 1, 1, none⟩ = some (.slice none 0 0) ∧ w1.cell? ⟨w.heap.size + 1, 2, none⟩ = some (.slice none 0 0) ∧ w1.cell? ⟨w.heap.size + 1, 3, none⟩ = some (.slice none 0 0) ∧ w1.cell? ⟨w.heap.size + 1, 4, none⟩ = some (.slice none 0 0) := ⟨(KR.out.cell 0), (KR.out.cell 1), (KR.out.cell 2), (KR.out.cell 3), (KR.out.cell 4)⟩
  have f0 := KR.out.frozen 0
  have f1 := KR.out.frozen 1
  have f2 := KR.out.frozen 2
  have f3 := KR.out.frozen 3
  have f4 := KR.out.frozen 4
  clear hB1
  go_wp2
  refine bodyPost_ret (v := .agg #[.int .i64 0, .slice none 0 0, .slice none 0 0, .slice none 0 0, .slice none 0 0]) (by simp [results, Try.results14, go_sem, y0, y1, y2, y3, y4]) rfl ⟨_, rfl, ?_, ?_⟩
  · exact ⟨_, _, _, _, rfl, ⟨rfl, .inl ⟨rfl, rfl⟩⟩, ⟨rfl, .inl ⟨rfl, rfl⟩⟩, ⟨rfl, .inl ⟨rfl, rfl⟩⟩, ⟨rfl, .inl ⟨rfl, rfl⟩⟩, fun i h => by cases h⟩
  · exact ((((B1.out.setCell (p := ⟨w.heap.size + 1, 0, none⟩) (by simp) _).setCell (p := ⟨w.heap.size + 1, 1, none⟩) (by simp) _).setCell (p := ⟨w.heap.size + 1, 2, none⟩) (by simp) _).setCell (p := ⟨w.heap.size + 1, 3, none⟩) (by simp) _).setCell (p := ⟨w.heap.size + 1, 4, none⟩) (by simp) _

set_option maxRecDepth 100000 in
set_option maxHeartbeats 2000000 in
theorem implSpoil_no2 (v : Value) (d : DiskD) (z y c : Int) (w : World) (hf : DiskFine d) (hz : ¬SlotOk z) (hv : DiskV w v d) :
    Calls Try.prog 14 #[v, .int .i64 z, .int .i64 y, .int .i64 c] w (NewDisk disk0 w) := by
  have HDr := Lib.hid (fun W (h : Below w.heap.size w W) => driveOf_ok v d W hf (hv.below h))
  obtain ⟨st, xs, ys, bs, ps⟩ := d
  obtain ⟨v1, v2, v3, v4, rfl, ⟨a1, c1, rfl, _⟩, ⟨a2, c2, rfl, _⟩, ⟨a3, c3, rfl, _⟩, ⟨a4, c4, rfl, _⟩⟩ := hv
  simp only at HDr
  clear hf
  have hB : Below w.heap.size w ((w.alloc (.cells #[.int .i64 st, .slice a1 xs.length c1, .slice a2 ys.length c2, .slice a3 bs.length c3, .slice a4 ps.length c4] 27)).alloc (.cells #[.int .i64 0, .slice none 0 0, .slice none 0 0, .slice none 0 0, .slice none 0 0] 27)) := ((Below.refl _ _).alloc (Nat.le_refl _) _).alloc (by simp) _
  have HB := Lib.hid hB
  have hR : Blk ((w.alloc (.cells #[.int .i64 st, .slice a1 xs.length c1, .slice a2 ys.length c2, .slice a3 bs.length c3, .slice a4 ps.length c4] 27)).alloc (.cells #[.int .i64 0, .slice none 0 0, .slice none 0 0, .slice none 0 0, .slice none 0 0] 27)) (w.heap.size + 1) #[.int .i64 0, .slice none 0 0, .slice none 0 0, .slice none 0 0, .slice none 0 0] 27 := by
    have := Blk.new (w.alloc (.cells #[.int .i64 st, .slice a1 xs.length c1, .slice a2 ys.length c2, .slice a3 bs.length c3, .slice a4 ps.length c4] 27)) #[.int .i64 0, .slice none 0 0, .slice none 0 0, .slice none 0 0, .slice none 0 0] 27
    rw [World.size_alloc] at this
    exact this
  have HR := Lib.hid hR
  have hs2 : ((w.alloc (.cells #[.int .i64 st, .slice a1 xs.length c1, .slice a2 ys.length c2, .slice a3 bs.length c3, .slice a4 ps.length c4] 27)).alloc (.cells #[.int .i64 0, .slice none 0 0, .slice none 0 0, .slice none 0 0, .slice none 0 0] 27)).heap.size = w.heap.size + 2 := by simp
  have Hs2 := Lib.hid hs2
  clear hB hR hs2
  go_enter Try.func14, Try.ntmps14
  go_wp2_with fail
  generalize ((w.alloc (.cells #[.int .i64 st, .slice a1 xs.length c1, .slice a2 ys.length c2, .slice a3 bs.length c3, .slice a4 ps.length c4] 27)).alloc (.cells #[.int .i64 0, .slice none 0 0, .slice none 0 0, .slice none 0 0, .slice none 0 0] 27)) = W at HB HR Hs2 ⊢
  refine (HDr.out _ HB.out).mono ?_
  rintro e w1 ⟨DD, ids, rfl, _, hB1⟩
  have KR := Lib.hid (HR.out.below hB1 HR.out.lt)
  have B1 := Lib.hid (below_trans HB.out hB1 HB.out.size)
  obtain ⟨y0, y1, y2, y3, y4⟩ : w1.cell? ⟨w.heap.size + 1, 0, none⟩ = some (.int .i64 0) ∧ w1.cell? ⟨w.heap.size + 1, 1, none⟩ = some (.slice none 0 0) ∧ w1.cell? ⟨w.heap.size + 1, 2, none⟩ = some (.slice none 0 0) ∧ w1.cell? ⟨w.heap.size + 1, 3, none⟩ = some (.slice none 0 0) ∧ w1.cell? ⟨w.heap.size + 1, 4, none⟩ = some (.slice none 0 0) := ⟨(KR.out.cell 0), (KR.out.cell 1), (KR.out.cell 2), (KR.out.cell 3), (KR.out.cell 4)⟩
  have f0 := KR.out.frozen 0
  have f1 := KR.out.frozen 1
  have f2 := KR.out.frozen 2
  have f3 := KR.out.frozen 3
  have f4 := KR.out.frozen 4
  clear hB1
  have HIs := Lib.hid (fun W => isSlot_any z W)
  rw [tt_false hz] at HIs
  clear hz
  go_wp2_with fail
  refine (HIs.out _).mono ?_
  rintro e w1' ⟨rfl, rfl⟩
  go_wp2
  refine bodyPost_ret (v := .agg #[.int .i64 0, .slice none 0 0, .slice none 0 0, .slice none 0 0, .slice none 0 0]) (by simp [results, Try.results14, go_sem, y0, y1, y2, y3, y4]) rfl ⟨_, rfl, ?_, ?_⟩
  · exact ⟨_, _, _, _, rfl, ⟨rfl, .inl ⟨rfl, rfl⟩⟩, ⟨rfl, .inl ⟨rfl, rfl⟩⟩, ⟨rfl, .inl ⟨rfl, rfl⟩⟩, ⟨rfl, .inl ⟨rfl, rfl⟩⟩, fun i h => by cases h⟩
  · exact ((((B1.out.setCell (p := ⟨w.heap.size + 1, 0, none⟩) (by simp) _).setCell (p := ⟨w.heap.size + 1, 1, none⟩) (by simp) _).setCell (p := ⟨w.heap.size + 1, 2, none⟩) (by simp) _).setCell (p := ⟨w.heap.size + 1, 3, none⟩) (by simp) _).setCell (p := ⟨w.heap.size + 1, 4, none⟩) (by simp) _

set_option maxRecDepth 100000 in
set_option maxHeartbeats 2000000 in
theorem implSpoil_no3 (v : Value) (d : DiskD) (z y c : Int) (w : World) (hf : DiskFine d) (hz : SlotOk z) (hbad : y < 0 ∨ (0 ≤ y ∧ 3 ≤ y) ∨ ((0 ≤ y ∧ y < 3) ∧ c < 1) ∨ ((0 ≤ y ∧ y < 3) ∧ 1 ≤ c ∧ 255 < c)) (hv : DiskV w v d) :
    Calls Try.prog 14 #[v, .int .i64 z, .int .i64 y, .int .i64 c] w (NewDisk disk0 w) := by
  have HDr := Lib.hid (fun W (h : Below w.heap.size w W) => driveOf_ok v d W hf (hv.below h))
  obtain ⟨st, xs, ys, bs, ps⟩ := d
  obtain ⟨v1, v2, v3, v4, rfl, ⟨a1, c1, rfl, _⟩, ⟨a2, c2, rfl, _⟩, ⟨a3, c3, rfl, _⟩, ⟨a4, c4, rfl, _⟩⟩ := hv
  simp only at HDr
  clear hf
  have hB : Below w.heap.size w ((w.alloc (.cells #[.int .i64 st, .slice a1 xs.length c1, .slice a2 ys.length c2, .slice a3 bs.length c3, .slice a4 ps.length c4] 27)).alloc (.cells #[.int .i64 0, .slice none 0 0, .slice none 0 0, .slice none 0 0, .slice none 0 0] 27)) := ((Below.refl _ _).alloc (Nat.le_refl _) _).alloc (by simp) _
  have HB := Lib.hid hB
  have hR : Blk ((w.alloc (.cells #[.int .i64 st, .slice a1 xs.length c1, .slice a2 ys.length c2, .slice a3 bs.length c3, .slice a4 ps.length c4] 27)).alloc (.cells #[.int .i64 0, .slice none 0 0, .slice none 0 0, .slice none 0 0, .slice none 0 0] 27)) (w.heap.size + 1) #[.int .i64 0, .slice none 0 0, .slice none 0 0, .slice none 0 0, .slice none 0 0] 27 := by
    have := Blk.new (w.alloc (.cells #[.int .i64 st, .slice a1 xs.length c1, .slice a2 ys.length c2, .slice a3 bs.length c3, .slice a4 ps.length c4] 27)) #[.int .i64 0, .slice none 0 0, .slice none 0 0, .slice none 0 0, .slice none 0 0] 27
    rw [World.size_alloc] at this
    exact this
  have HR := Lib.hid hR
  have hs2 : ((w.alloc (.cells #[.int .i64 st, .slice a1 xs.length c1, .slice a2 ys.length c2, .slice a3 bs.length c3, .slice a4 ps.length c4] 27)).alloc (.cells #[.int .i64 0, .slice none 0 0, .slice none 0 0, .slice none 0 0, .slice none 0 0] 27)).heap.size = w.heap.size + 2 := by simp
  have Hs2 := Lib.hid hs2
  clear hB hR hs2
  go_enter Try.func14, Try.ntmps14
  go_wp2_with fail
  generalize ((w.alloc (.cells #[.int .i64 st, .slice a1 xs.length c1, .slice a2 ys.length c2, .slice a3 bs.length c3, .slice a4 ps.length c4] 27)).alloc (.cells #[.int .i64 0, .slice none 0 0, .slice none 0 0, .slice none 0 0, .slice none 0 0] 27)) = W at HB HR Hs2 ⊢
  refine (HDr.out _ HB.out).mono ?_
  rintro e w1 ⟨DD, ids, rfl, _, hB1⟩
  have KR := Lib.hid (HR.out.below hB1 HR.out.lt)
  have B1 := Lib.hid (below_trans HB.out hB1 HB.out.size)
  obtain ⟨y0, y1, y2, y3, y4⟩ : w1.cell? ⟨w.heap.size + 1, 0, none⟩ = some (.int .i64 0) ∧ w1.cell? ⟨w.heap.size + 1, 1, none⟩ = some (.slice none 0 0) ∧ w1.cell? ⟨w.heap.size + 1, 2, none⟩ = some (.slice none 0 0) ∧ w1.cell? ⟨w.heap.size + 1, 3, none⟩ = some (.slice none 0 0) ∧ w1.cell? ⟨w.heap.size + 1, 4, none⟩ = some (.slice none 0 0) := ⟨(KR.out.cell 0), (KR.out.cell 1), (KR.out.cell 2), (KR.out.cell 3), (KR.out.cell 4)⟩
  have f0 := KR.out.frozen 0
  have f1 := KR.out.frozen 1
  have f2 := KR.out.frozen 2
  have f3 := KR.out.frozen 3
  have f4 := KR.out.frozen 4
  clear hB1
  have HIs := Lib.hid (fun W => isSlot_any z W)
  rw [tt_true hz] at HIs
  clear hz
  go_wp2_with fail
  refine (HIs.out _).mono ?_
  rintro e w1' ⟨rfl, rfl⟩
  rcases hbad with hbad | hbad | hbad | hbad
  · have d1 : decide (y < 0) = true := decide_eq_true (by omega)
    clear hbad
    go_wp2
    refine bodyPost_ret (v := .agg #[.int .i64 0, .slice none 0 0, .slice none 0 0, .slice none 0 0, .slice none 0 0]) (by simp [results, Try.results14, go_sem, y0, y1, y2, y3, y4]) rfl ⟨_, rfl, ?_, ?_⟩
    · exact ⟨_, _, _, _, rfl, ⟨rfl, .inl ⟨rfl, rfl⟩⟩, ⟨rfl, .inl ⟨rfl, rfl⟩⟩, ⟨rfl, .inl ⟨rfl, rfl⟩⟩, ⟨rfl, .inl ⟨rfl, rfl⟩⟩, fun i h => by cases h⟩
    · exact ((((B1.out.setCell (p := ⟨w.heap.size + 1, 0, none⟩) (by simp) _).setCell (p := ⟨w.heap.size + 1, 1, none⟩) (by simp) _).setCell (p := ⟨w.heap.size + 1, 2, none⟩) (by simp) _).setCell (p := ⟨w.heap.size + 1, 3, none⟩) (by simp) _).setCell (p := ⟨w.heap.size + 1, 4, none⟩) (by simp) _
  · have d1 : decide (y < 0) = false := decide_eq_false (by omega)
    have d2 : decide (3 ≤ y) = true := decide_eq_true (by omega)
    clear hbad
    go_wp2
    refine bodyPost_ret (v := .agg #[.int .i64 0, .slice none 0 0, .slice none 0 0, .slice none 0 0, .slice none 0 0]) (by simp [results, Try.results14, go_sem, y0, y1, y2, y3, y4]) rfl ⟨_, rfl, ?_, ?_⟩
    · exact ⟨_, _, _, _, rfl, ⟨rfl, .inl ⟨rfl, rfl⟩⟩, ⟨rfl, .inl ⟨rfl, rfl⟩⟩, ⟨rfl, .inl ⟨rfl, rfl⟩⟩, ⟨rfl, .inl ⟨rfl, rfl⟩⟩, fun i h => by cases h⟩
    · exact ((((B1.out.setCell (p := ⟨w.heap.size + 1, 0, none⟩) (by simp) _).setCell (p := ⟨w.heap.size + 1, 1, none⟩) (by simp) _).setCell (p := ⟨w.heap.size + 1, 2, none⟩) (by simp) _).setCell (p := ⟨w.heap.size + 1, 3, none⟩) (by simp) _).setCell (p := ⟨w.heap.size + 1, 4, none⟩) (by simp) _
  · have d1 : decide (y < 0) = false := decide_eq_false (by omega)
    have d2 : decide (3 ≤ y) = false := decide_eq_false (by omega)
    have d3 : decide (c < 1) = true := decide_eq_true (by omega)
    clear hbad
    go_wp2
    refine bodyPost_ret (v := .agg #[.int .i64 0, .slice none 0 0, .slice none 0 0, .slice none 0 0, .slice none 0 0]) (by simp [results, Try.results14, go_sem, y0, y1, y2, y3, y4]) rfl ⟨_, rfl, ?_, ?_⟩
    · exact ⟨_, _, _, _, rfl, ⟨rfl, .inl ⟨rfl, rfl⟩⟩, ⟨rfl, .inl ⟨rfl, rfl⟩⟩, ⟨rfl, .inl ⟨rfl, rfl⟩⟩, ⟨rfl, .inl ⟨rfl, rfl⟩⟩, fun i h => by cases h⟩
    · exact ((((B1.out.setCell (p := ⟨w.heap.size + 1, 0, none⟩) (by simp) _).setCell (p := ⟨w.heap.size + 1, 1, none⟩) (by simp) _).setCell (p := ⟨w.heap.size + 1, 2, none⟩) (by simp) _).setCell (p := ⟨w.heap.size + 1, 3, none⟩) (by simp) _).setCell (p := ⟨w.heap.size + 1, 4, none⟩) (by simp) _
  · have d1 : decide (y < 0) = false := decide_eq_false (by omega)
    have d2 : decide (3 ≤ y) = false := decide_eq_false (by omega)
    have d3 : decide (c < 1) = false := decide_eq_false (by omega)
    have d4 : decide (255 < c) = true := decide_eq_true (by omega)
    clear hbad
    go_wp2
    refine bodyPost_ret (v := .agg #[.int .i64 0, .slice none 0 0, .slice none 0 0, .slice none 0 0, .slice none 0 0]) (by simp [results, Try.results14, go_sem, y0, y1, y2, y3, y4]) rfl ⟨_, rfl, ?_, ?_⟩
    · exact ⟨_, _, _, _, rfl, ⟨rfl, .inl ⟨rfl, rfl⟩⟩, ⟨rfl, .inl ⟨rfl, rfl⟩⟩, ⟨rfl, .inl ⟨rfl, rfl⟩⟩, ⟨rfl, .inl ⟨rfl, rfl⟩⟩, fun i h => by cases h⟩
    · exact ((((B1.out.setCell (p := ⟨w.heap.size + 1, 0, none⟩) (by simp) _).setCell (p := ⟨w.heap.size + 1, 1, none⟩) (by simp) _).setCell (p := ⟨w.heap.size + 1, 2, none⟩) (by simp) _).setCell (p := ⟨w.heap.size + 1, 3, none⟩) (by simp) _).setCell (p := ⟨w.heap.size + 1, 4, none⟩) (by simp) _

/-- WHETHER a byte can be spoilt at all. -/
def SpoilOk (d : DiskD) (z y c : Int) : Prop := DiskFine d ∧ SlotOk z ∧ (0 ≤ y ∧ y ≤ 2) ∧ 1 ≤ c ∧ c ≤ 255
theorem implSpoil_no (v : Value) (d : DiskD) (z y c : Int) (w : World) (h : ¬SpoilOk d z y c) (hv : DiskV w v d) :
    Calls Try.prog 14 #[v, .int .i64 z, .int .i64 y, .int .i64 c] w (NewDisk disk0 w) := by
  by_cases h1 : DiskFine d
  · by_cases h2 : SlotOk z
    · refine implSpoil_no3 v d z y c w h1 h2 ?_ hv
      have : ¬((0 ≤ y ∧ y ≤ 2) ∧ 1 ≤ c ∧ c ≤ 255) := fun k => h ⟨h1, h2, k⟩
      omega
    · exact implSpoil_no2 v d z y c w h1 h2 hv
  · exact implSpoil_no1 v d z y c w h1 hv

end Go.Proofs.Ytifgoanicbaohaa

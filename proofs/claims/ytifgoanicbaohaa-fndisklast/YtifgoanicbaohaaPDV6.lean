/- DiskPut of the specification. Conditions: none. -/
import Derived.Test.YtifgoanicbaohaaPDV5
namespace Go.Proofs.Ytifgoanicbaohaa
open Go.RowKit Go.Sort Go.Shelf

set_option maxRecDepth 100000 in
set_option maxHeartbeats 4000000 in
theorem specPut_ok (v : Value) (d : DiskD) (p : PutD) (w : World) (hf : DiskFine d) (hp : PutOk p) (hv : DiskV w v d) :
    Calls Try.prog 19 #[v, .agg #[.bool p.ring, .int .i64 p.pos, .string p.text]] w (NewDisk (putD d p) w) := by
  obtain ⟨z0, z1, _⟩ := fine_sizes hf
  have HOk := Lib.hid (fun W (h : Below w.heap.size w W) => specOk_any v d W (hv.below h))
  rw [tt_true hf] at HOk
  have HIp := Lib.hid (fun W => l3Put_any p.ring p.pos p.text W)
  rw [tt_true hp] at HIp
  have HCo := Lib.hid (fun W (h : Below w.heap.size w W) => l3Copy_ok v d W hf (hv.below h))
  have HWr := Lib.hid (fun base v1 v2 v3 v4 W h1 ho => l3Write_any base v1 v2 v3 v4 d p W h1 z0 hf.2.2.2.2.1 z1 ho)
  generalize putD d p = de at HWr
  obtain ⟨st, xs, ys, bs, ps⟩ := d
  obtain ⟨v1, v2, v3, v4, rfl, ⟨a1, c1, rfl, _⟩, ⟨a2, c2, rfl, _⟩, ⟨a3, c3, rfl, _⟩, ⟨a4, c4, rfl, _⟩⟩ := hv
  simp only at HOk HCo HWr
  clear hf z0 z1 hp
  have hB : Below w.heap.size w (((w.alloc (.cells #[.int .i64 st, .slice a1 xs.length c1, .slice a2 ys.length c2, .slice a3 bs.length c3, .slice a4 ps.length c4] 27)).alloc (.cells #[.bool p.ring, .int .i64 p.pos, .string p.text] 33)).alloc (.cells #[.int .i64 0, .slice none 0 0, .slice none 0 0, .slice none 0 0, .slice none 0 0] 27)) := (((Below.refl _ _).alloc (Nat.le_refl _) _).alloc (by simp) _).alloc (by simp; omega) _
  have HB := Lib.hid hB
  have hR : Blk (((w.alloc (.cells #[.int .i64 st, .slice a1 xs.length c1, .slice a2 ys.length c2, .slice a3 bs.length c3, .slice a4 ps.length c4] 27)).alloc (.cells #[.bool p.ring, .int .i64 p.pos, .string p.text] 33)).alloc (.cells #[.int .i64 0, .slice none 0 0, .slice none 0 0, .slice none 0 0, .slice none 0 0] 27)) (w.heap.size + 2) #[.int .i64 0, .slice none 0 0, .slice none 0 0, .slice none 0 0, .slice none 0 0] 27 := by
    have := Blk.new ((w.alloc (.cells #[.int .i64 st, .slice a1 xs.length c1, .slice a2 ys.length c2, .slice a3 bs.length c3, .slice a4 ps.length c4] 27)).alloc (.cells #[.bool p.ring, .int .i64 p.pos, .string p.text] 33)) #[.int .i64 0, .slice none 0 0, .slice none 0 0, .slice none 0 0, .slice none 0 0] 27
    rw [World.size_alloc, World.size_alloc] at this
    exact this
  have HR := Lib.hid hR
  have hP : Blk (((w.alloc (.cells #[.int .i64 st, .slice a1 xs.length c1, .slice a2 ys.length c2, .slice a3 bs.length c3, .slice a4 ps.length c4] 27)).alloc (.cells #[.bool p.ring, .int .i64 p.pos, .string p.text] 33)).alloc (.cells #[.int .i64 0, .slice none 0 0, .slice none 0 0, .slice none 0 0, .slice none 0 0] 27)) (w.heap.size + 1) #[.bool p.ring, .int .i64 p.pos, .string p.text] 33 := by
    have := Blk.new (w.alloc (.cells #[.int .i64 st, .slice a1 xs.length c1, .slice a2 ys.length c2, .slice a3 bs.length c3, .slice a4 ps.length c4] 27)) #[.bool p.ring, .int .i64 p.pos, .string p.text] 33
    rw [World.size_alloc] at this
    exact this.below (n := w.heap.size + 2) ((Below.refl _ _).alloc (by simp) _) (by omega)
  have HP := Lib.hid hP
  have hs2 : (((w.alloc (.cells #[.int .i64 st, .slice a1 xs.length c1, .slice a2 ys.length c2, .slice a3 bs.length c3, .slice a4 ps.length c4] 27)).alloc (.cells #[.bool p.ring, .int .i64 p.pos, .string p.text] 33)).alloc (.cells #[.int .i64 0, .slice none 0 0, .slice none 0 0, .slice none 0 0, .slice none 0 0] 27)).heap.size = w.heap.size + 3 := by simp
  have Hs2 := Lib.hid hs2
  clear hB hR hs2 hP
  have HKd := Lib.hid (show Blk (((w.alloc (.cells #[.int .i64 st, .slice a1 xs.length c1, .slice a2 ys.length c2, .slice a3 bs.length c3, .slice a4 ps.length c4] 27)).alloc (.cells #[.bool p.ring, .int .i64 p.pos, .string p.text] 33)).alloc (.cells #[.int .i64 0, .slice none 0 0, .slice none 0 0, .slice none 0 0, .slice none 0 0] 27)) w.heap.size #[.int .i64 st, .slice a1 xs.length c1, .slice a2 ys.length c2, .slice a3 bs.length c3, .slice a4 ps.length c4] 27 from ((Blk.new w _ _).below (n := w.heap.size + 1) ((Below.refl _ _).alloc (by simp) _) (by omega)).below (n := w.heap.size + 1) ((Below.refl _ _).alloc (by simp) _) (by omega))
  go_enter Try.func19, Try.ntmps19
  go_wp2_with fail
  generalize (((w.alloc (.cells #[.int .i64 st, .slice a1 xs.length c1, .slice a2 ys.length c2, .slice a3 bs.length c3, .slice a4 ps.length c4] 27)).alloc (.cells #[.bool p.ring, .int .i64 p.pos, .string p.text] 33)).alloc (.cells #[.int .i64 0, .slice none 0 0, .slice none 0 0, .slice none 0 0, .slice none 0 0] 27)) = W at HB HR HP Hs2 HKd ⊢
  refine (HOk.out _ HB.out).mono ?_
  rintro e w0 ⟨rfl, hB0⟩
  have K0 := Lib.hid (HKd.out.below hB0 HKd.out.lt)
  have P0 := Lib.hid (HP.out.below hB0 HP.out.lt)
  have R0 := Lib.hid (HR.out.below hB0 HR.out.lt)
  have B0 := Lib.hid (below_trans HB.out hB0 HB.out.size)
  have s0 : w.heap.size + 3 ≤ w0.heap.size := by have := Hs2.out; have := hB0.size; omega
  clear hB0
  obtain ⟨q0, q1, q2⟩ : w0.cell? ⟨w.heap.size + 1, 0, none⟩ = some (.bool p.ring) ∧ w0.cell? ⟨w.heap.size + 1, 1, none⟩ = some (.int .i64 p.pos) ∧ w0.cell? ⟨w.heap.size + 1, 2, none⟩ = some (.string p.text) := ⟨P0.out.cell 0, P0.out.cell 1, P0.out.cell 2⟩
  go_wp2_with fail
  refine (HIp.out _).mono ?_
  rintro e w1 ⟨rfl, hB1⟩
  have K1 := Lib.hid (K0.out.below hB1 K0.out.lt)
  have P1 := Lib.hid (P0.out.below hB1 P0.out.lt)
  have R1 := Lib.hid (R0.out.below hB1 R0.out.lt)
  have B1 := Lib.hid (below_trans B0.out hB1 B0.out.size)
  have s1 := Nat.le_trans s0 hB1.size
  clear hB1 q0 q1 q2
  obtain ⟨x0, x1, x2, x3, x4⟩ : w1.cell? ⟨w.heap.size, 0, none⟩ = some (.int .i64 st) ∧ w1.cell? ⟨w.heap.size, 1, none⟩ = some (.slice a1 xs.length c1) ∧ w1.cell? ⟨w.heap.size, 2, none⟩ = some (.slice a2 ys.length c2) ∧ w1.cell? ⟨w.heap.size, 3, none⟩ = some (.slice a3 bs.length c3) ∧ w1.cell? ⟨w.heap.size, 4, none⟩ = some (.slice a4 ps.length c4) := ⟨(K1.out.cell 0), (K1.out.cell 1), (K1.out.cell 2), (K1.out.cell 3), (K1.out.cell 4)⟩
  have g0 := K1.out.frozen 0
  have g1 := K1.out.frozen 1
  have g2 := K1.out.frozen 2
  have g3 := K1.out.frozen 3
  have g4 := K1.out.frozen 4
  obtain ⟨q0, q1, q2⟩ : w1.cell? ⟨w.heap.size + 1, 0, none⟩ = some (.bool p.ring) ∧ w1.cell? ⟨w.heap.size + 1, 1, none⟩ = some (.int .i64 p.pos) ∧ w1.cell? ⟨w.heap.size + 1, 2, none⟩ = some (.string p.text) := ⟨P1.out.cell 0, P1.out.cell 1, P1.out.cell 2⟩
  obtain ⟨y0, y1, y2, y3, y4⟩ : w1.cell? ⟨w.heap.size + 2, 0, none⟩ = some (.int .i64 0) ∧ w1.cell? ⟨w.heap.size + 2, 1, none⟩ = some (.slice none 0 0) ∧ w1.cell? ⟨w.heap.size + 2, 2, none⟩ = some (.slice none 0 0) ∧ w1.cell? ⟨w.heap.size + 2, 3, none⟩ = some (.slice none 0 0) ∧ w1.cell? ⟨w.heap.size + 2, 4, none⟩ = some (.slice none 0 0) := ⟨(R1.out.cell 0), (R1.out.cell 1), (R1.out.cell 2), (R1.out.cell 3), (R1.out.cell 4)⟩
  have f0 := R1.out.frozen 0
  have f1 := R1.out.frozen 1
  have f2 := R1.out.frozen 2
  have f3 := R1.out.frozen 3
  have f4 := R1.out.frozen 4
  have Bd : Hid (Below w.heap.size w w1.drew) := B1.out.drew
  have Kd := Lib.hid (K1.out.below (Below.refl _ _).drew K1.out.lt)
  have Pd := Lib.hid (P1.out.below (Below.refl _ _).drew P1.out.lt)
  have Rd := Lib.hid (R1.out.below (Below.refl _ _).drew R1.out.lt)
  have hne : w.heap.size + 2 ≠ w.heap.size := by omega
  have hne' : w.heap.size + 2 ≠ w.heap.size + 1 := by omega
  go_wp2_with fail
  go_region_held3 (fun w' => w'.cell? ⟨w.heap.size, 0, none⟩ = some (.int .i64 st) ∧ w'.cell? ⟨w.heap.size, 1, none⟩ = some (.slice a1 xs.length c1) ∧ w'.cell? ⟨w.heap.size, 2, none⟩ = some (.slice a2 ys.length c2) ∧ w'.cell? ⟨w.heap.size, 3, none⟩ = some (.slice a3 bs.length c3) ∧ w'.cell? ⟨w.heap.size, 4, none⟩ = some (.slice a4 ps.length c4) ∧ w'.cell? ⟨w.heap.size + 1, 0, none⟩ = some (.bool p.ring) ∧ w'.cell? ⟨w.heap.size + 1, 1, none⟩ = some (.int .i64 p.pos) ∧ w'.cell? ⟨w.heap.size + 1, 2, none⟩ = some (.string p.text)) (first | with_reducible exact mm | go_keep)
    (first
      | (go_at_call 29; refine (HCo.out _ Bd.out).mono ?_; rintro e w2 ⟨vc, rfl, hoc, hB2⟩; obtain ⟨y1', y2', y3', y4', rfl, ho⟩ := hoc; have HO1 := Lib.hid ho; obtain ⟨r1, t1, rfl, _⟩ := OwnTx.reads ho.1; obtain ⟨r2, t2, rfl, _⟩ := OwnTx.reads ho.2.1; obtain ⟨r3, t3, rfl, _⟩ := OwnBo.reads ho.2.2.1; obtain ⟨r4, t4, rfl, _⟩ := OwnPu.reads ho.2.2.2.1; have KX := Lib.hid (Kd.out.below hB2 Kd.out.lt); have PX := Lib.hid (Pd.out.below hB2 Pd.out.lt); have RX := Lib.hid (Rd.out.below hB2 Rd.out.lt); have B2 := Lib.hid (below_trans Bd.out hB2 Bd.out.size); have z2 := Lib.hid hB2.size; have mm := (⟨KX.out.cell 0, KX.out.cell 1, KX.out.cell 2, KX.out.cell 3, KX.out.cell 4, PX.out.cell 0, PX.out.cell 1, PX.out.cell 2⟩ : w2.cell? ⟨w.heap.size, 0, none⟩ = some (.int .i64 st) ∧ w2.cell? ⟨w.heap.size, 1, none⟩ = some (.slice a1 xs.length c1) ∧ w2.cell? ⟨w.heap.size, 2, none⟩ = some (.slice a2 ys.length c2) ∧ w2.cell? ⟨w.heap.size, 3, none⟩ = some (.slice a3 bs.length c3) ∧ w2.cell? ⟨w.heap.size, 4, none⟩ = some (.slice a4 ps.length c4) ∧ w2.cell? ⟨w.heap.size + 1, 0, none⟩ = some (.bool p.ring) ∧ w2.cell? ⟨w.heap.size + 1, 1, none⟩ = some (.int .i64 p.pos) ∧ w2.cell? ⟨w.heap.size + 1, 2, none⟩ = some (.string p.text)); clear ho hB2)
      | (go_at_call 45; refine (HWr.out w1.drew.heap.size _ _ _ _ _ z2.out HO1.out).mono ?_; rintro e w3 ⟨v3, rfl, ho, hB3, hot⟩; have HO := Lib.hid (ho.mono (show w.heap.size + 3 ≤ w1.drew.heap.size from s1)); have KX := Lib.hid (hot _ _ _ (by decide) (by decide) (by decide) KX.out); have PX := Lib.hid (PX.out.below hB3 (show w.heap.size + 1 < w1.heap.size by omega)); have KR3 := Lib.hid (RX.out.below hB3 (show w.heap.size + 2 < w1.heap.size by omega)); have B3 := Lib.hid (B2.out.trans (hB3.mono (show w.heap.size ≤ w1.heap.size by omega))); obtain ⟨r1', r2', r3', r4', rfl, ho4⟩ := HO.out; obtain ⟨b1, e1, rfl, _⟩ := OwnTx.reads ho4.1; obtain ⟨b2, e2, rfl, _⟩ := OwnTx.reads ho4.2.1; obtain ⟨b3, e3, rfl, _⟩ := OwnBo.reads ho4.2.2.1; obtain ⟨b4, e4, rfl, _⟩ := OwnPu.reads ho4.2.2.2.1; have HO4 := Lib.hid ho4; have mm := (⟨KX.out.cell 0, KX.out.cell 1, KX.out.cell 2, KX.out.cell 3, KX.out.cell 4, PX.out.cell 0, PX.out.cell 1, PX.out.cell 2⟩ : w3.cell? ⟨w.heap.size, 0, none⟩ = some (.int .i64 st) ∧ w3.cell? ⟨w.heap.size, 1, none⟩ = some (.slice a1 xs.length c1) ∧ w3.cell? ⟨w.heap.size, 2, none⟩ = some (.slice a2 ys.length c2) ∧ w3.cell? ⟨w.heap.size, 3, none⟩ = some (.slice a3 bs.length c3) ∧ w3.cell? ⟨w.heap.size, 4, none⟩ = some (.slice a4 ps.length c4) ∧ w3.cell? ⟨w.heap.size + 1, 0, none⟩ = some (.bool p.ring) ∧ w3.cell? ⟨w.heap.size + 1, 1, none⟩ = some (.int .i64 p.pos) ∧ w3.cell? ⟨w.heap.size + 1, 2, none⟩ = some (.string p.text)); obtain ⟨y0, y1, y2, y3, y4⟩ : w3.cell? ⟨w.heap.size + 2, 0, none⟩ = some (.int .i64 0) ∧ w3.cell? ⟨w.heap.size + 2, 1, none⟩ = some (.slice none 0 0) ∧ w3.cell? ⟨w.heap.size + 2, 2, none⟩ = some (.slice none 0 0) ∧ w3.cell? ⟨w.heap.size + 2, 3, none⟩ = some (.slice none 0 0) ∧ w3.cell? ⟨w.heap.size + 2, 4, none⟩ = some (.slice none 0 0) := ⟨(KR3.out.cell 0), (KR3.out.cell 1), (KR3.out.cell 2), (KR3.out.cell 3), (KR3.out.cell 4)⟩; have f0 := KR3.out.frozen 0; have f1 := KR3.out.frozen 1; have f2 := KR3.out.frozen 2; have f3 := KR3.out.frozen 3; have f4 := KR3.out.frozen 4; clear ho ho4 hB3 hot))
  all_goals
    go_wp2
    refine bodyPost_ret (v := .agg #[.int .i64 de.state, .slice b1 de.slots.length e1, .slice b2 de.rings.length e2, .slice b3 de.spoilt.length e3, .slice b4 de.wait.length e4]) (by simp [results, Try.results19, go_sem, y0, y1, y2, y3, y4]) rfl ⟨_, rfl, ⟨_, _, _, _, rfl, ?_⟩, ?_⟩
    · exact (((((HO4.out.far _ _ _ (by omega)).far _ _ _ (by omega)).far _ _ _ (by omega)).far _ _ _ (by omega)).far _ _ _ (by omega)).mono (by omega)
    · exact sets_below B3.out (by omega)

set_option maxRecDepth 100000 in
set_option maxHeartbeats 2000000 in
theorem specPut_no (v : Value) (d : DiskD) (p : PutD) (w : World) (hf : ¬(DiskFine d ∧ PutOk p)) (hv : DiskV w v d) :
    Calls Try.prog 19 #[v, .agg #[.bool p.ring, .int .i64 p.pos, .string p.text]] w (NewDisk disk0 w) := by
  have HIp := Lib.hid (fun W => l3Put_any p.ring p.pos p.text W)
  have HOk := Lib.hid (fun W (h : Below w.heap.size w W) => specOk_any v d W (hv.below h))
  by_cases h : DiskFine d
  · have hz : ¬PutOk p := fun k => hf ⟨h, k⟩
    rw [tt_false hz] at HIp
    rw [tt_true h] at HOk
    obtain ⟨st, xs, ys, bs, ps⟩ := d
    obtain ⟨v1, v2, v3, v4, rfl, ⟨a1, c1, rfl, _⟩, ⟨a2, c2, rfl, _⟩, ⟨a3, c3, rfl, _⟩, ⟨a4, c4, rfl, _⟩⟩ := hv
    simp only at HOk
    clear hf h hz
    have hB : Below w.heap.size w (((w.alloc (.cells #[.int .i64 st, .slice a1 xs.length c1, .slice a2 ys.length c2, .slice a3 bs.length c3, .slice a4 ps.length c4] 27)).alloc (.cells #[.bool p.ring, .int .i64 p.pos, .string p.text] 33)).alloc (.cells #[.int .i64 0, .slice none 0 0, .slice none 0 0, .slice none 0 0, .slice none 0 0] 27)) := (((Below.refl _ _).alloc (Nat.le_refl _) _).alloc (by simp) _).alloc (by simp; omega) _
    have HB := Lib.hid hB
    have hR : Blk (((w.alloc (.cells #[.int .i64 st, .slice a1 xs.length c1, .slice a2 ys.length c2, .slice a3 bs.length c3, .slice a4 ps.length c4] 27)).alloc (.cells #[.bool p.ring, .int .i64 p.pos, .string p.text] 33)).alloc (.cells #[.int .i64 0, .slice none 0 0, .slice none 0 0, .slice none 0 0, .slice none 0 0] 27)) (w.heap.size + 2) #[.int .i64 0, .slice none 0 0, .slice none 0 0, .slice none 0 0, .slice none 0 0] 27 := by
      have := Blk.new ((w.alloc (.cells #[.int .i64 st, .slice a1 xs.length c1, .slice a2 ys.length c2, .slice a3 bs.length c3, .slice a4 ps.length c4] 27)).alloc (.cells #[.bool p.ring, .int .i64 p.pos, .string p.text] 33)) #[.int .i64 0, .slice none 0 0, .slice none 0 0, .slice none 0 0, .slice none 0 0] 27
      rw [World.size_alloc, World.size_alloc] at this
      exact this
    have HR := Lib.hid hR
    have hP : Blk (((w.alloc (.cells #[.int .i64 st, .slice a1 xs.length c1, .slice a2 ys.length c2, .slice a3 bs.length c3, .slice a4 ps.length c4] 27)).alloc (.cells #[.bool p.ring, .int .i64 p.pos, .string p.text] 33)).alloc (.cells #[.int .i64 0, .slice none 0 0, .slice none 0 0, .slice none 0 0, .slice none 0 0] 27)) (w.heap.size + 1) #[.bool p.ring, .int .i64 p.pos, .string p.text] 33 := by
      have := Blk.new (w.alloc (.cells #[.int .i64 st, .slice a1 xs.length c1, .slice a2 ys.length c2, .slice a3 bs.length c3, .slice a4 ps.length c4] 27)) #[.bool p.ring, .int .i64 p.pos, .string p.text] 33
      rw [World.size_alloc] at this
      exact this.below (n := w.heap.size + 2) ((Below.refl _ _).alloc (by simp) _) (by omega)
    have HP := Lib.hid hP
    have hs2 : (((w.alloc (.cells #[.int .i64 st, .slice a1 xs.length c1, .slice a2 ys.length c2, .slice a3 bs.length c3, .slice a4 ps.length c4] 27)).alloc (.cells #[.bool p.ring, .int .i64 p.pos, .string p.text] 33)).alloc (.cells #[.int .i64 0, .slice none 0 0, .slice none 0 0, .slice none 0 0, .slice none 0 0] 27)).heap.size = w.heap.size + 3 := by simp
    have Hs2 := Lib.hid hs2
    clear hB hR hs2 hP
    go_enter Try.func19, Try.ntmps19
    go_wp2_with fail
    generalize (((w.alloc (.cells #[.int .i64 st, .slice a1 xs.length c1, .slice a2 ys.length c2, .slice a3 bs.length c3, .slice a4 ps.length c4] 27)).alloc (.cells #[.bool p.ring, .int .i64 p.pos, .string p.text] 33)).alloc (.cells #[.int .i64 0, .slice none 0 0, .slice none 0 0, .slice none 0 0, .slice none 0 0] 27)) = W at HB HR HP Hs2 ⊢
    refine (HOk.out _ HB.out).mono ?_
    rintro e w0 ⟨rfl, hB0⟩
    have KR0 := Lib.hid (HR.out.below hB0 HR.out.lt)
    have KP := Lib.hid (HP.out.below hB0 HP.out.lt)
    have B0 := Lib.hid (below_trans HB.out hB0 HB.out.size)
    clear hB0
    obtain ⟨q0, q1, q2⟩ : w0.cell? ⟨w.heap.size + 1, 0, none⟩ = some (.bool p.ring) ∧ w0.cell? ⟨w.heap.size + 1, 1, none⟩ = some (.int .i64 p.pos) ∧ w0.cell? ⟨w.heap.size + 1, 2, none⟩ = some (.string p.text) := ⟨KP.out.cell 0, KP.out.cell 1, KP.out.cell 2⟩
    go_wp2_with fail
    refine (HIp.out _).mono ?_
    rintro e w1 ⟨rfl, hB1⟩
    have KR := Lib.hid (KR0.out.below hB1 KR0.out.lt)
    have B1 := Lib.hid (below_trans B0.out hB1 B0.out.size)
    obtain ⟨y0, y1, y2, y3, y4⟩ : w1.cell? ⟨w.heap.size + 2, 0, none⟩ = some (.int .i64 0) ∧ w1.cell? ⟨w.heap.size + 2, 1, none⟩ = some (.slice none 0 0) ∧ w1.cell? ⟨w.heap.size + 2, 2, none⟩ = some (.slice none 0 0) ∧ w1.cell? ⟨w.heap.size + 2, 3, none⟩ = some (.slice none 0 0) ∧ w1.cell? ⟨w.heap.size + 2, 4, none⟩ = some (.slice none 0 0) := ⟨(KR.out.cell 0), (KR.out.cell 1), (KR.out.cell 2), (KR.out.cell 3), (KR.out.cell 4)⟩
    have f0 := KR.out.frozen 0
    have f1 := KR.out.frozen 1
    have f2 := KR.out.frozen 2
    have f3 := KR.out.frozen 3
    have f4 := KR.out.frozen 4
    clear hB1
    go_wp2
    refine bodyPost_ret (v := .agg #[.int .i64 0, .slice none 0 0, .slice none 0 0, .slice none 0 0, .slice none 0 0]) (by simp [results, Try.results19, go_sem, y0, y1, y2, y3, y4]) rfl ⟨_, rfl, ?_, ?_⟩
    · exact ⟨_, _, _, _, rfl, ⟨rfl, .inl ⟨rfl, rfl⟩⟩, ⟨rfl, .inl ⟨rfl, rfl⟩⟩, ⟨rfl, .inl ⟨rfl, rfl⟩⟩, ⟨rfl, .inl ⟨rfl, rfl⟩⟩, fun i h => by cases h⟩
    · exact ((((B1.out.setCell (p := ⟨w.heap.size + 2, 0, none⟩) (by simp <;> omega) _).setCell (p := ⟨w.heap.size + 2, 1, none⟩) (by simp <;> omega) _).setCell (p := ⟨w.heap.size + 2, 2, none⟩) (by simp <;> omega) _).setCell (p := ⟨w.heap.size + 2, 3, none⟩) (by simp <;> omega) _).setCell (p := ⟨w.heap.size + 2, 4, none⟩) (by simp <;> omega) _

  · rw [tt_false h] at HOk
    obtain ⟨st, xs, ys, bs, ps⟩ := d
    obtain ⟨v1, v2, v3, v4, rfl, ⟨a1, c1, rfl, _⟩, ⟨a2, c2, rfl, _⟩, ⟨a3, c3, rfl, _⟩, ⟨a4, c4, rfl, _⟩⟩ := hv
    simp only at HOk
    clear hf h
    have hB : Below w.heap.size w (((w.alloc (.cells #[.int .i64 st, .slice a1 xs.length c1, .slice a2 ys.length c2, .slice a3 bs.length c3, .slice a4 ps.length c4] 27)).alloc (.cells #[.bool p.ring, .int .i64 p.pos, .string p.text] 33)).alloc (.cells #[.int .i64 0, .slice none 0 0, .slice none 0 0, .slice none 0 0, .slice none 0 0] 27)) := (((Below.refl _ _).alloc (Nat.le_refl _) _).alloc (by simp) _).alloc (by simp; omega) _
    have HB := Lib.hid hB
    have hR : Blk (((w.alloc (.cells #[.int .i64 st, .slice a1 xs.length c1, .slice a2 ys.length c2, .slice a3 bs.length c3, .slice a4 ps.length c4] 27)).alloc (.cells #[.bool p.ring, .int .i64 p.pos, .string p.text] 33)).alloc (.cells #[.int .i64 0, .slice none 0 0, .slice none 0 0, .slice none 0 0, .slice none 0 0] 27)) (w.heap.size + 2) #[.int .i64 0, .slice none 0 0, .slice none 0 0, .slice none 0 0, .slice none 0 0] 27 := by
      have := Blk.new ((w.alloc (.cells #[.int .i64 st, .slice a1 xs.length c1, .slice a2 ys.length c2, .slice a3 bs.length c3, .slice a4 ps.length c4] 27)).alloc (.cells #[.bool p.ring, .int .i64 p.pos, .string p.text] 33)) #[.int .i64 0, .slice none 0 0, .slice none 0 0, .slice none 0 0, .slice none 0 0] 27
      rw [World.size_alloc, World.size_alloc] at this
      exact this
    have HR := Lib.hid hR
    have hP : Blk (((w.alloc (.cells #[.int .i64 st, .slice a1 xs.length c1, .slice a2 ys.length c2, .slice a3 bs.length c3, .slice a4 ps.length c4] 27)).alloc (.cells #[.bool p.ring, .int .i64 p.pos, .string p.text] 33)).alloc (.cells #[.int .i64 0, .slice none 0 0, .slice none 0 0, .slice none 0 0, .slice none 0 0] 27)) (w.heap.size + 1) #[.bool p.ring, .int .i64 p.pos, .string p.text] 33 := by
      have := Blk.new (w.alloc (.cells #[.int .i64 st, .slice a1 xs.length c1, .slice a2 ys.length c2, .slice a3 bs.length c3, .slice a4 ps.length c4] 27)) #[.bool p.ring, .int .i64 p.pos, .string p.text] 33
      rw [World.size_alloc] at this
      exact this.below (n := w.heap.size + 2) ((Below.refl _ _).alloc (by simp) _) (by omega)
    have HP := Lib.hid hP
    have hs2 : (((w.alloc (.cells #[.int .i64 st, .slice a1 xs.length c1, .slice a2 ys.length c2, .slice a3 bs.length c3, .slice a4 ps.length c4] 27)).alloc (.cells #[.bool p.ring, .int .i64 p.pos, .string p.text] 33)).alloc (.cells #[.int .i64 0, .slice none 0 0, .slice none 0 0, .slice none 0 0, .slice none 0 0] 27)).heap.size = w.heap.size + 3 := by simp
    have Hs2 := Lib.hid hs2
    clear hB hR hs2 hP
    go_enter Try.func19, Try.ntmps19
    go_wp2_with fail
    generalize (((w.alloc (.cells #[.int .i64 st, .slice a1 xs.length c1, .slice a2 ys.length c2, .slice a3 bs.length c3, .slice a4 ps.length c4] 27)).alloc (.cells #[.bool p.ring, .int .i64 p.pos, .string p.text] 33)).alloc (.cells #[.int .i64 0, .slice none 0 0, .slice none 0 0, .slice none 0 0, .slice none 0 0] 27)) = W at HB HR HP Hs2 ⊢
    refine (HOk.out _ HB.out).mono ?_
    rintro e w1 ⟨rfl, hB1⟩
    have KR := Lib.hid (HR.out.below hB1 HR.out.lt)
    have B1 := Lib.hid (below_trans HB.out hB1 HB.out.size)
    obtain ⟨y0, y1, y2, y3, y4⟩ : w1.cell? ⟨w.heap.size + 2, 0, none⟩ = some (.int .i64 0) ∧ w1.cell? ⟨w.heap.size + 2, 1, none⟩ = some (.slice none 0 0) ∧ w1.cell? ⟨w.heap.size + 2, 2, none⟩ = some (.slice none 0 0) ∧ w1.cell? ⟨w.heap.size + 2, 3, none⟩ = some (.slice none 0 0) ∧ w1.cell? ⟨w.heap.size + 2, 4, none⟩ = some (.slice none 0 0) := ⟨(KR.out.cell 0), (KR.out.cell 1), (KR.out.cell 2), (KR.out.cell 3), (KR.out.cell 4)⟩
    have f0 := KR.out.frozen 0
    have f1 := KR.out.frozen 1
    have f2 := KR.out.frozen 2
    have f3 := KR.out.frozen 3
    have f4 := KR.out.frozen 4
    clear hB1
    go_wp2
    refine bodyPost_ret (v := .agg #[.int .i64 0, .slice none 0 0, .slice none 0 0, .slice none 0 0, .slice none 0 0]) (by simp [results, Try.results19, go_sem, y0, y1, y2, y3, y4]) rfl ⟨_, rfl, ?_, ?_⟩
    · exact ⟨_, _, _, _, rfl, ⟨rfl, .inl ⟨rfl, rfl⟩⟩, ⟨rfl, .inl ⟨rfl, rfl⟩⟩, ⟨rfl, .inl ⟨rfl, rfl⟩⟩, ⟨rfl, .inl ⟨rfl, rfl⟩⟩, fun i h => by cases h⟩
    · exact ((((B1.out.setCell (p := ⟨w.heap.size + 2, 0, none⟩) (by simp <;> omega) _).setCell (p := ⟨w.heap.size + 2, 1, none⟩) (by simp <;> omega) _).setCell (p := ⟨w.heap.size + 2, 2, none⟩) (by simp <;> omega) _).setCell (p := ⟨w.heap.size + 2, 3, none⟩) (by simp <;> omega) _).setCell (p := ⟨w.heap.size + 2, 4, none⟩) (by simp <;> omega) _


end Go.Proofs.Ytifgoanicbaohaa

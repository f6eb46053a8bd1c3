/- The exact laws' own copy of a disk: it owns all its memory. Conditions: sizes of at most 2^20. -/
import Derived.Test.YtcdiengbmjkglaaGreatPKG3
namespace Go.Proofs.YtcdiengbmjkglaaGreat
open Go.RowKit Go.Sort

set_option maxRecDepth 100000 in
set_option maxHeartbeats 1000000 in
theorem toDisk_any (v : Value) (d : DiskD) (w : World) (hs : Hid (DiskSmall d)) (hv : DiskV w v d) :
    Calls Tryz.prog 26 #[v] w (NewDisk d w) := by
  obtain ⟨st, xs, ys, bs, ps⟩ := d
  obtain ⟨v1, v2, v3, v4, rfl, ⟨a1, c1, rfl, l1, m1, x1⟩, ⟨a2, c2, rfl, l2, m2, x2⟩, ⟨a3, c3, rfl, l3, m3, x3⟩, ⟨a4, c4, rfl, l4, m4, x4⟩⟩ := hv
  simp only at x1 x2 x3 x4 l1 l2 l3 l4 ⊢
  have X1 := Lib.hid x1
  have X2 := Lib.hid x2
  have X3 := Lib.hid x3
  have X4 := Lib.hid x4
  clear x1 x2 x3 x4 l1 l2 l3 l4 m1 m2 m3 m4
  have n1 : xs.length ≤ 1048576 := hs.out.1.1
  have n2 : ys.length ≤ 1048576 := hs.out.2.1.1
  have n3 : bs.length ≤ 1048576 := hs.out.2.2.1
  have n4 : ps.length ≤ 1048576 := hs.out.2.2.2.1
  go_enter Tryz.func26, Tryz.ntmps26
  go_wp2_with fail
  have hB0 : Below w.heap.size w (((w.alloc (.cells #[.int .i64 st, .slice a1 xs.length c1, .slice a2 ys.length c2, .slice a3 bs.length c3, .slice a4 ps.length c4] 58)).alloc (.cells #[.int .i64 0, .slice none 0 0, .slice none 0 0, .slice none 0 0, .slice none 0 0] 50)).alloc (.cells #[.int .i64 st, .slice none 0 0, .slice none 0 0, .slice none 0 0, .slice none 0 0] 50)) := (((Below.refl _ w).alloc (Nat.le_refl _) _).alloc (by simp) _).alloc (by simp; omega) _
  have hA0 : Blk (((w.alloc (.cells #[.int .i64 st, .slice a1 xs.length c1, .slice a2 ys.length c2, .slice a3 bs.length c3, .slice a4 ps.length c4] 58)).alloc (.cells #[.int .i64 0, .slice none 0 0, .slice none 0 0, .slice none 0 0, .slice none 0 0] 50)).alloc (.cells #[.int .i64 st, .slice none 0 0, .slice none 0 0, .slice none 0 0, .slice none 0 0] 50)) w.heap.size #[.int .i64 st, .slice a1 xs.length c1, .slice a2 ys.length c2, .slice a3 bs.length c3, .slice a4 ps.length c4] 58 :=
    ((Blk.new w _ _).below (n := w.heap.size + 1) ((Below.refl _ _).alloc (by simp) _) (by omega)).below (n := w.heap.size + 1) ((Below.refl _ _).alloc (by simp) _) (by omega)
  have hR0 : Blk (((w.alloc (.cells #[.int .i64 st, .slice a1 xs.length c1, .slice a2 ys.length c2, .slice a3 bs.length c3, .slice a4 ps.length c4] 58)).alloc (.cells #[.int .i64 0, .slice none 0 0, .slice none 0 0, .slice none 0 0, .slice none 0 0] 50)).alloc (.cells #[.int .i64 st, .slice none 0 0, .slice none 0 0, .slice none 0 0, .slice none 0 0] 50)) (w.heap.size + 1) #[.int .i64 0, .slice none 0 0, .slice none 0 0, .slice none 0 0, .slice none 0 0] 50 := by
    have := Blk.new (w.alloc (.cells #[.int .i64 st, .slice a1 xs.length c1, .slice a2 ys.length c2, .slice a3 bs.length c3, .slice a4 ps.length c4] 58)) #[.int .i64 0, .slice none 0 0, .slice none 0 0, .slice none 0 0, .slice none 0 0] 50
    rw [World.size_alloc] at this
    exact this.below (n := w.heap.size + 2) ((Below.refl _ _).alloc (by simp) _) (by omega)
  have hD0 : Blk (((w.alloc (.cells #[.int .i64 st, .slice a1 xs.length c1, .slice a2 ys.length c2, .slice a3 bs.length c3, .slice a4 ps.length c4] 58)).alloc (.cells #[.int .i64 0, .slice none 0 0, .slice none 0 0, .slice none 0 0, .slice none 0 0] 50)).alloc (.cells #[.int .i64 st, .slice none 0 0, .slice none 0 0, .slice none 0 0, .slice none 0 0] 50)) (w.heap.size + 1 + 1) #[.int .i64 st, .slice none 0 0, .slice none 0 0, .slice none 0 0, .slice none 0 0] 50 := by
    have := Blk.new ((w.alloc (.cells #[.int .i64 st, .slice a1 xs.length c1, .slice a2 ys.length c2, .slice a3 bs.length c3, .slice a4 ps.length c4] 58)).alloc (.cells #[.int .i64 0, .slice none 0 0, .slice none 0 0, .slice none 0 0, .slice none 0 0] 50)) #[.int .i64 st, .slice none 0 0, .slice none 0 0, .slice none 0 0, .slice none 0 0] 50
    rw [World.size_alloc, World.size_alloc] at this
    exact this
  have hz0 : (((w.alloc (.cells #[.int .i64 st, .slice a1 xs.length c1, .slice a2 ys.length c2, .slice a3 bs.length c3, .slice a4 ps.length c4] 58)).alloc (.cells #[.int .i64 0, .slice none 0 0, .slice none 0 0, .slice none 0 0, .slice none 0 0] 50)).alloc (.cells #[.int .i64 st, .slice none 0 0, .slice none 0 0, .slice none 0 0, .slice none 0 0] 50)).heap.size = w.heap.size + 3 := by simp
  generalize (((w.alloc (.cells #[.int .i64 st, .slice a1 xs.length c1, .slice a2 ys.length c2, .slice a3 bs.length c3, .slice a4 ps.length c4] 58)).alloc (.cells #[.int .i64 0, .slice none 0 0, .slice none 0 0, .slice none 0 0, .slice none 0 0] 50)).alloc (.cells #[.int .i64 st, .slice none 0 0, .slice none 0 0, .slice none 0 0, .slice none 0 0] 50)) = W0 at hB0 hA0 hR0 hD0 hz0 ⊢
  have HB0 := Lib.hid hB0
  have HA0 := Lib.hid hA0
  have HR0 := Lib.hid hR0
  have HD0 := Lib.hid hD0
  have Hz0 := Lib.hid hz0
  generalize hn : w.heap.size = n at *
  have Hn := Lib.hid hn
  clear hB0 hA0 hR0 hD0 hz0 hn
  refine (toTx_any a1 c1 xs _ n1 (X1.out.below (by rw [Hn.out]; exact HB0.out))).mono ?_
  rintro e w1 ⟨v1, rfl, o1, hB1⟩
  rw [Hz0.out] at o1 hB1
  have z1 := hB1.size
  rw [Hz0.out] at z1
  have A1 := Lib.hid (HA0.out.below hB1 (by omega))
  have R1 := Lib.hid (HR0.out.below hB1 (by omega))
  have D1 := Lib.hid (HD0.out.below hB1 (by omega))
  have B1 := Lib.hid (HB0.out.trans (hB1.mono (by omega)))
  obtain ⟨g1, e1, rfl, _⟩ := o1.reads
  have O1 := Lib.hid o1
  have f1 := D1.out.frozen 1
  have p1 : w1.cell? ⟨n + 1 + 1, 1, none⟩ = some (.slice none 0 0) := D1.out.cell 1
  have p2 : w1.cell? ⟨n, 2, none⟩ = some (.slice a2 ys.length c2) := A1.out.cell 2
  clear o1 hB1
  have hA1 : Blk (w1.setCell ⟨n + 1 + 1, 1, none⟩ (.slice g1 xs.length e1)) n _ _ := A1.out.other _ _ _ (by omega)
  have hR1 : Blk (w1.setCell ⟨n + 1 + 1, 1, none⟩ (.slice g1 xs.length e1)) (n + 1) _ _ := R1.out.other _ _ _ (by omega)
  have hD1 : Blk (w1.setCell ⟨n + 1 + 1, 1, none⟩ (.slice g1 xs.length e1)) (n + 1 + 1) #[.int .i64 st, .slice g1 xs.length e1, .slice none 0 0, .slice none 0 0, .slice none 0 0] 50 := D1.out.set 1 _
  have hB1 : Below n w (w1.setCell ⟨n + 1 + 1, 1, none⟩ (.slice g1 xs.length e1)) := B1.out.setCell (p := ⟨n + 1 + 1, 1, none⟩) (by simp; omega) _
  have hO1 : OwnTx (w1.setCell ⟨n + 1 + 1, 1, none⟩ (.slice g1 xs.length e1)) (n + 3) (.slice g1 xs.length e1) xs := own_far O1.out _ _ _ (by omega)
  have hZ1 : n + 3 ≤ (w1.setCell ⟨n + 1 + 1, 1, none⟩ (.slice g1 xs.length e1)).heap.size := by simpa using z1
  go_wp2_with fail
  generalize w1.setCell ⟨n + 1 + 1, 1, none⟩ (.slice g1 xs.length e1) = W1 at hA1 hR1 hD1 hB1 hO1 hZ1 ⊢
  have HA1 := Lib.hid hA1
  have HR1 := Lib.hid hR1
  have HD1 := Lib.hid hD1
  have HB1 := Lib.hid hB1
  have HO1 := Lib.hid hO1
  clear hA1 hR1 hD1 hB1 hO1 f1 p1 p2 z1 A1 R1 D1 B1 O1
  refine (toTx_any a2 c2 ys _ n2 (X2.out.below (by rw [Hn.out]; exact HB1.out))).mono ?_
  rintro e w2 ⟨v2, rfl, o2, hB2⟩
  have z2 : n + 3 ≤ w2.heap.size := Nat.le_trans hZ1 hB2.size
  have A2 := Lib.hid (HA1.out.below hB2 (by omega))
  have R2 := Lib.hid (HR1.out.below hB2 (by omega))
  have D2 := Lib.hid (HD1.out.below hB2 (by omega))
  have B2 := Lib.hid (HB1.out.trans (hB2.mono (by omega)))
  have O21 := Lib.hid (show OwnTx w2 (n + 3) _ _ from own_below HO1.out hB2)
  have N2 := Lib.hid (show ∀ i, (Value.slice g1 xs.length e1).ownBlock = some i → v2.ownBlock ≠ some i from fun i h1 h2 => by have := (HO1.out.lt i h1).2; have := (o2.lt i h2).1; omega)
  have O22 := Lib.hid (show OwnTx w2 (n + 3) v2 ys from own_mono o2 hZ1)
  obtain ⟨g2, e2, rfl, _⟩ := o2.reads
  have f1 := D2.out.frozen 2
  have p1 : w2.cell? ⟨n + 1 + 1, 2, none⟩ = some (.slice none 0 0) := D2.out.cell 2
  have p2 : w2.cell? ⟨n, 3, none⟩ = some (.slice a3 bs.length c3) := A2.out.cell 3
  clear o2 hB2 hZ1 HA1 HR1 HD1 HB1 HO1
  have hA2 : Blk (w2.setCell ⟨n + 1 + 1, 2, none⟩ (.slice g2 ys.length e2)) n _ _ := A2.out.other _ _ _ (by omega)
  have hR2 : Blk (w2.setCell ⟨n + 1 + 1, 2, none⟩ (.slice g2 ys.length e2)) (n + 1) _ _ := R2.out.other _ _ _ (by omega)
  have hD2 : Blk (w2.setCell ⟨n + 1 + 1, 2, none⟩ (.slice g2 ys.length e2)) (n + 1 + 1) #[.int .i64 st, .slice g1 xs.length e1, .slice g2 ys.length e2, .slice none 0 0, .slice none 0 0] 50 := D2.out.set 2 _
  have hB2 : Below n w (w2.setCell ⟨n + 1 + 1, 2, none⟩ (.slice g2 ys.length e2)) := B2.out.setCell (p := ⟨n + 1 + 1, 2, none⟩) (by simp; omega) _
  have hO21 : OwnTx (w2.setCell ⟨n + 1 + 1, 2, none⟩ (.slice g2 ys.length e2)) (n + 3) (.slice g1 xs.length e1) xs := own_far O21.out _ _ _ (by omega)
  have hO22 : OwnTx (w2.setCell ⟨n + 1 + 1, 2, none⟩ (.slice g2 ys.length e2)) (n + 3) (.slice g2 ys.length e2) ys := own_far O22.out _ _ _ (by omega)
  have hZ2 : n + 3 ≤ (w2.setCell ⟨n + 1 + 1, 2, none⟩ (.slice g2 ys.length e2)).heap.size := by simpa using z2
  go_wp2_with fail
  generalize w2.setCell ⟨n + 1 + 1, 2, none⟩ (.slice g2 ys.length e2) = W2 at hA2 hR2 hD2 hB2 hO21 hO22 hZ2 ⊢
  have HA2 := Lib.hid hA2
  have HR2 := Lib.hid hR2
  have HD2 := Lib.hid hD2
  have HB2 := Lib.hid hB2
  have HO21 := Lib.hid hO21
  have HO22 := Lib.hid hO22
  clear hA2 hR2 hD2 hB2 hO21 hO22 f1 p1 p2 z2 A2 R2 D2 B2 O21 O22
  refine (toBo_any a3 c3 bs _ n3 (X3.out.below (by rw [Hn.out]; exact HB2.out))).mono ?_
  rintro e w3 ⟨v3, rfl, o3, hB3⟩
  have z3 : n + 3 ≤ w3.heap.size := Nat.le_trans hZ2 hB3.size
  have A3 := Lib.hid (HA2.out.below hB3 (by omega))
  have R3 := Lib.hid (HR2.out.below hB3 (by omega))
  have D3 := Lib.hid (HD2.out.below hB3 (by omega))
  have B3 := Lib.hid (HB2.out.trans (hB3.mono (by omega)))
  have O31 := Lib.hid (show OwnTx w3 (n + 3) _ _ from own_below HO21.out hB3)
  have O32 := Lib.hid (show OwnTx w3 (n + 3) _ _ from own_below HO22.out hB3)
  have O33 := Lib.hid (show OwnBo w3 (n + 3) v3 bs from own_mono o3 hZ2)
  obtain ⟨g3, e3, rfl, _⟩ := o3.reads
  have f1 := D3.out.frozen 3
  have p1 : w3.cell? ⟨n + 1 + 1, 3, none⟩ = some (.slice none 0 0) := D3.out.cell 3
  have p2 : w3.cell? ⟨n, 4, none⟩ = some (.slice a4 ps.length c4) := A3.out.cell 4
  clear o3 hB3 hZ2 HA2 HR2 HD2 HB2 HO21 HO22
  have hR3 : Blk (w3.setCell ⟨n + 1 + 1, 3, none⟩ (.slice g3 bs.length e3)) (n + 1) _ _ := R3.out.other _ _ _ (by omega)
  have hD3 : Blk (w3.setCell ⟨n + 1 + 1, 3, none⟩ (.slice g3 bs.length e3)) (n + 1 + 1) #[.int .i64 st, .slice g1 xs.length e1, .slice g2 ys.length e2, .slice g3 bs.length e3, .slice none 0 0] 50 := D3.out.set 3 _
  have hB3 : Below n w (w3.setCell ⟨n + 1 + 1, 3, none⟩ (.slice g3 bs.length e3)) := B3.out.setCell (p := ⟨n + 1 + 1, 3, none⟩) (by simp; omega) _
  have hO31 : OwnTx (w3.setCell ⟨n + 1 + 1, 3, none⟩ (.slice g3 bs.length e3)) (n + 3) (.slice g1 xs.length e1) xs := own_far O31.out _ _ _ (by omega)
  have hO32 : OwnTx (w3.setCell ⟨n + 1 + 1, 3, none⟩ (.slice g3 bs.length e3)) (n + 3) (.slice g2 ys.length e2) ys := own_far O32.out _ _ _ (by omega)
  have hO33 : OwnBo (w3.setCell ⟨n + 1 + 1, 3, none⟩ (.slice g3 bs.length e3)) (n + 3) (.slice g3 bs.length e3) bs := own_far O33.out _ _ _ (by omega)
  have hZ3 : n + 3 ≤ (w3.setCell ⟨n + 1 + 1, 3, none⟩ (.slice g3 bs.length e3)).heap.size := by simpa using z3
  go_wp2_with fail
  generalize w3.setCell ⟨n + 1 + 1, 3, none⟩ (.slice g3 bs.length e3) = W3 at hR3 hD3 hB3 hO31 hO32 hO33 hZ3 ⊢
  have HR3 := Lib.hid hR3
  have HD3 := Lib.hid hD3
  have HB3 := Lib.hid hB3
  have HO31 := Lib.hid hO31
  have HO32 := Lib.hid hO32
  have HO33 := Lib.hid hO33
  clear hR3 hD3 hB3 hO31 hO32 hO33 f1 p1 p2 z3 A3 R3 D3 B3 O31 O32 O33
  refine (toPutS_any a4 c4 ps _ n4 (X4.out.below (by rw [Hn.out]; exact HB3.out))).mono ?_
  rintro e w4 ⟨v4, rfl, o4, hB4⟩
  have z4 : n + 3 ≤ w4.heap.size := Nat.le_trans hZ3 hB4.size
  have R4 := Lib.hid (HR3.out.below hB4 (by omega))
  have D4 := Lib.hid (HD3.out.below hB4 (by omega))
  have B4 := Lib.hid (HB3.out.trans (hB4.mono (by omega)))
  have O41 := Lib.hid (show OwnTx w4 (n + 3) _ _ from own_below HO31.out hB4)
  have O42 := Lib.hid (show OwnTx w4 (n + 3) _ _ from own_below HO32.out hB4)
  have O43 := Lib.hid (show OwnBo w4 (n + 3) _ _ from own_below HO33.out hB4)
  have O44 := Lib.hid (show OwnPu w4 (n + 3) v4 ps from own_mono o4 hZ3)
  obtain ⟨g4, e4, rfl, _⟩ := o4.reads
  have f1 := D4.out.frozen 4
  have p0 : w4.cell? ⟨n + 1 + 1, 0, none⟩ = some (.int .i64 st) := D4.out.cell 0
  have p1 : w4.cell? ⟨n + 1 + 1, 1, none⟩ = some (.slice g1 xs.length e1) := D4.out.cell 1
  have p2 : w4.cell? ⟨n + 1 + 1, 2, none⟩ = some (.slice g2 ys.length e2) := D4.out.cell 2
  have p3 : w4.cell? ⟨n + 1 + 1, 3, none⟩ = some (.slice g3 bs.length e3) := D4.out.cell 3
  have p4 : w4.cell? ⟨n + 1 + 1, 4, none⟩ = some (.slice none 0 0) := D4.out.cell 4
  have r0 : w4.cell? ⟨n + 1, 0, none⟩ = some (.int .i64 0) := R4.out.cell 0
  have r1 : w4.cell? ⟨n + 1, 1, none⟩ = some (.slice none 0 0) := R4.out.cell 1
  have r2 : w4.cell? ⟨n + 1, 2, none⟩ = some (.slice none 0 0) := R4.out.cell 2
  have r3 : w4.cell? ⟨n + 1, 3, none⟩ = some (.slice none 0 0) := R4.out.cell 3
  have r4 : w4.cell? ⟨n + 1, 4, none⟩ = some (.slice none 0 0) := R4.out.cell 4
  have q0 := R4.out.frozen 0
  have q1 := R4.out.frozen 1
  have q2 := R4.out.frozen 2
  have q3 := R4.out.frozen 3
  have q4 := R4.out.frozen 4
  clear o4 hB4 hZ3 HR3 HD3 HB3 HO31 HO32 HO33
  go_wp2
  refine bodyPost_ret (v := .agg #[.int .i64 st, .slice g1 xs.length e1, .slice g2 ys.length e2, .slice g3 bs.length e3, .slice g4 ps.length e4]) (by simp [results, Tryz.results26, go_sem, r0, r1, r2, r3, r4]) rfl ⟨_, rfl, ⟨_, _, _, _, rfl, ?_⟩, ?_⟩
  · have h : Own4 w4 (n + 3) (.slice g1 xs.length e1) (.slice g2 ys.length e2) (.slice g3 bs.length e3) (.slice g4 ps.length e4) ⟨st, xs, ys, bs, ps⟩ := ⟨O41.out, O42.out, O43.out, O44.out, N2.out⟩
    exact ((((((h.far _ _ _ (by omega)).far _ _ _ (by omega)).far _ _ _ (by omega)).far _ _ _ (by omega)).far _ _ _ (by omega)).far _ _ _ (by omega)).mono (by have := Hn.out; omega)
  · rw [Hn.out]
    exact (((((B4.out.setCell (p := ⟨n + 1 + 1, 4, none⟩) (by simp; omega) _).setCell (p := ⟨n + 1, 0, none⟩) (by simp) _).setCell (p := ⟨n + 1, 1, none⟩) (by simp) _).setCell (p := ⟨n + 1, 2, none⟩) (by simp) _).setCell (p := ⟨n + 1, 3, none⟩) (by simp) _).setCell (p := ⟨n + 1, 4, none⟩) (by simp) _

end Go.Proofs.YtcdiengbmjkglaaGreat

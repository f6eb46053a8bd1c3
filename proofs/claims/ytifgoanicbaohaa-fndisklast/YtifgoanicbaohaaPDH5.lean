/- The disk of a drive. Conditions: at most a thousand writes. -/
import Derived.Test.YtifgoanicbaohaaPDH4
namespace Go.Proofs.Ytifgoanicbaohaa
open Go.RowKit Go.Sort Go.Shelf

set_option maxRecDepth 100000 in
set_option maxHeartbeats 2000000 in
theorem disk_any (base D : Nat) (d : DiskD) (ids : List Nat) (w : World) (hb : base ≤ w.heap.size) (hlen : d.wait.length ≤ 1000) (hD : Drive w base D d ids) :
    Calls Try.prog 26 #[.pointer (some ⟨D, 0, none⟩)] w fun e w' => ∃ v, e = .returned v ∧ OwnDisk w' base v d ∧ Below w.heap.size w w' := by
  have HP := Lib.hid (fun W (h : Below w.heap.size w W) => puts_any base D d ids W hlen (hD.below h))
  obtain ⟨st, xs, ys, bs, ps⟩ := d
  obtain ⟨v1, v2, v3, hbD, hk, h3, hc⟩ := hD
  simp only at hlen h3 hc HP ⊢
  have hDl := hk.lt
  have HR := Lib.hid h3
  obtain ⟨a1, c1, rfl, _⟩ := OwnTx.reads h3.1
  obtain ⟨a2, c2, rfl, _⟩ := OwnTx.reads h3.2.1
  obtain ⟨a3, c3, rfl, _⟩ := OwnBo.reads h3.2.2.1
  simp only at HR hk
  have hB0 : Below w.heap.size w (w.alloc (.cells #[.int .i64 0, .slice none 0 0, .slice none 0 0, .slice none 0 0, .slice none 0 0] 27)) := (Below.refl _ _).alloc (Nat.le_refl _) _
  have HB0 := Lib.hid hB0
  have K0 := Lib.hid (hk.below hB0 hDl)
  have Z0 := Lib.hid (Blk.new w #[.int .i64 0, .slice none 0 0, .slice none 0 0, .slice none 0 0, .slice none 0 0] 27)
  clear hk h3 hc hB0
  go_enter Try.func26, Try.ntmps26
  go_wp2_with fail
  generalize w.alloc (.cells #[.int .i64 0, .slice none 0 0, .slice none 0 0, .slice none 0 0, .slice none 0 0] 27) = W at HB0 K0 Z0 ⊢
  have HBd : Hid (Below w.heap.size w W.drew) := HB0.out.drew
  have k0 : W.cell? ⟨D, 0, none⟩ = some (.int .i64 st) := K0.out.cell 0
  have k1 : W.cell? ⟨D, 1, none⟩ = some (.slice a3 bs.length c3) := K0.out.cell 1
  have k2 : W.cell? ⟨D, 2, none⟩ = some (.slice a1 xs.length c1) := K0.out.cell 2
  have k3 : W.cell? ⟨D, 3, none⟩ = some (.slice a2 ys.length c2) := K0.out.cell 3
  have z0 : W.cell? ⟨w.heap.size, 0, none⟩ = some (.int .i64 0) := Z0.out.cell 0
  have z1 : W.cell? ⟨w.heap.size, 1, none⟩ = some (.slice none 0 0) := Z0.out.cell 1
  have z2 : W.cell? ⟨w.heap.size, 2, none⟩ = some (.slice none 0 0) := Z0.out.cell 2
  have z3 : W.cell? ⟨w.heap.size, 3, none⟩ = some (.slice none 0 0) := Z0.out.cell 3
  have z4 : W.cell? ⟨w.heap.size, 4, none⟩ = some (.slice none 0 0) := Z0.out.cell 4
  have hWl := Z0.out.lt
  have hne1 : D ≠ w.heap.size := by omega
  have hne2 : w.heap.size ≠ D := by omega
  have Zd := Lib.hid (Z0.out.below (Below.refl _ _).drew Z0.out.lt)
  go_region_held3 (fun w' => w'.cell? ⟨D, 0, none⟩ = some (.int .i64 st) ∧ w'.cell? ⟨D, 1, none⟩ = some (.slice a3 bs.length c3) ∧ w'.cell? ⟨D, 2, none⟩ = some (.slice a1 xs.length c1) ∧ w'.cell? ⟨D, 3, none⟩ = some (.slice a2 ys.length c2)) (first | go_keep | with_reducible exact hc7)
    (first
      | (go_at_call 53; refine (HP.out _ HBd.out).mono ?_; rintro e w7 ⟨v7, rfl, ho7, hB7⟩; obtain ⟨a4, c4, rfl, _⟩ := OwnPu.reads ho7; have hc7 := (⟨cell_below hB7 k0, cell_below hB7 k1, cell_below hB7 k2, cell_below hB7 k3⟩ : w7.cell? ⟨D, 0, none⟩ = some (.int .i64 st) ∧ w7.cell? ⟨D, 1, none⟩ = some (.slice a3 bs.length c3) ∧ w7.cell? ⟨D, 2, none⟩ = some (.slice a1 xs.length c1) ∧ w7.cell? ⟨D, 3, none⟩ = some (.slice a2 ys.length c2)); have HO7 := Lib.hid ho7; have HB7 := Lib.hid hB7; have y0 := cell_below hB7 z0; have y1 := cell_below hB7 z1; have y2 := cell_below hB7 z2; have y3 := cell_below hB7 z3; have y4 := cell_below hB7 z4; have ZZ := Lib.hid (Zd.out.below hB7 Zd.out.lt); have f0 := ZZ.out.frozen 0; have f1 := ZZ.out.frozen 1; have f2 := ZZ.out.frozen 2; have f3 := ZZ.out.frozen 3; have f4 := ZZ.out.frozen 4; clear ho7 hB7))
  all_goals
    go_wp2
    refine bodyPost_ret (v := .agg #[.int .i64 st, .slice a1 xs.length c1, .slice a2 ys.length c2, .slice a3 bs.length c3, .slice a4 ps.length c4]) (by simp [results, Try.results26, go_sem, y0, y1, y2, y3, y4]) rfl ⟨_, rfl, ⟨_, _, _, _, rfl, ?_⟩, ?_⟩
    · have hr := HR.out.below (below_trans HBd.out HB7.out HBd.out.size)
      have h4 : Own4 w7 base _ _ _ _ ⟨st, xs, ys, bs, ps⟩ := ⟨hr.1, hr.2.1, hr.2.2.1, own_mono HO7.out (Nat.le_trans hb HBd.out.size), hr.2.2.2⟩
      have f4' : ∀ o u (w8 : World) cs, Blk w8 w.heap.size cs 27 → Own4 w8 base (.slice a1 xs.length c1) (.slice a2 ys.length c2) (.slice a3 bs.length c3) (.slice a4 ps.length c4) ⟨st, xs, ys, bs, ps⟩ → Own4 (w8.setCell ⟨w.heap.size, o, none⟩ u) base (.slice a1 xs.length c1) (.slice a2 ys.length c2) (.slice a3 bs.length c3) (.slice a4 ps.length c4) ⟨st, xs, ys, bs, ps⟩ := fun o u w8 cs hbk h =>
        ⟨own_other h.1 _ _ _ (own_blk_ne h.1 hbk (by decide)), own_other h.2.1 _ _ _ (own_blk_ne h.2.1 hbk (by decide)), own_other h.2.2.1 _ _ _ (own_blk_ne h.2.2.1 hbk (by decide)), own_other h.2.2.2.1 _ _ _ (own_blk_ne h.2.2.2.1 hbk (by decide)), h.2.2.2.2⟩
      have b0 := ZZ.out.set 0 (.int .i64 st)
      have b1 := b0.set 1 (.slice a1 xs.length c1)
      have b2 := b1.set 2 (.slice a2 ys.length c2)
      have b3 := b2.set 3 (.slice a3 bs.length c3)
      exact f4' _ _ _ _ b3 (f4' _ _ _ _ b2 (f4' _ _ _ _ b1 (f4' _ _ _ _ b0 (f4' _ _ _ _ ZZ.out h4))))
    · have hB := below_trans HBd.out HB7.out HBd.out.size
      exact ((((hB.setCell (p := ⟨w.heap.size, 0, none⟩) (Nat.le_refl _) _).setCell (p := ⟨w.heap.size, 1, none⟩) (Nat.le_refl _) _).setCell (p := ⟨w.heap.size, 2, none⟩) (Nat.le_refl _) _).setCell (p := ⟨w.heap.size, 3, none⟩) (Nat.le_refl _) _).setCell (p := ⟨w.heap.size, 4, none⟩) (Nat.le_refl _) _

end Go.Proofs.Ytifgoanicbaohaa

/- 'laws.FnExactDiskRead' returns true at every disk and number: DiskRead of the program answers as DiskRead of the specification, and changes no argument. Conditions: none. -/
import Derived.Test.YthhmpimnagnjfaaK
import Derived.Test.YthhmpimnagnjfaaG4
import Derived.Test.YthhmpimnagnjfaaHA
namespace Go.Proofs.Ythhmpimnagnjfaa
open Go.ChangeShapes Go.WideShapes Go.ChangeAt Go.RowKit Go.Sort
namespace FnExactDiskRead
set_option linter.unusedVariables false

set_option maxRecDepth 100000 in
set_option maxHeartbeats 2000000 in
theorem walk (v : Value) (d : DiskD) (at0 : Int) (w : World) (hv : DiskV w v d) (hb : DiskBd d) (hat : (Lit.int .i64 at0).wf = true) :
    Calls Try.prog 13 #[v, .int .i64 at0] w fun e w' => e = .returned (.bool true) ∧ Below w.heap.size w w' := by
  clear hat
  have HV := Lib.hid hv
  have Hb := Lib.hid hb
  obtain ⟨st, xs, ys, bs, ps⟩ := d
  obtain ⟨v1, v2, v3, v4, rfl, ⟨a1, c1, rfl, l1, m1, x1⟩, ⟨a2, c2, rfl, l2, m2, x2⟩, ⟨a3, c3, rfl, l3, m3, x3⟩, ⟨a4, c4, rfl, l4, m4, x4⟩⟩ := hv
  simp only at HV ⊢
  clear hb x1 x2 x3 x4 l1 l2 l3 l4 m1 m2 m3 m4
  have HBa : Hid (Below w.heap.size w (w.alloc (.cells #[.int .i64 st, .slice a1 xs.length c1, .slice a2 ys.length c2, .slice a3 bs.length c3, .slice a4 ps.length c4] 55))) := (Below.refl _ _).alloc (Nat.le_refl _) _
  have HKa := Lib.hid (Blk.new w #[.int .i64 st, .slice a1 xs.length c1, .slice a2 ys.length c2, .slice a3 bs.length c3, .slice a4 ps.length c4] 55)
  go_enter Try.func13, Try.ntmps13
  go_wp2_with fail
  refine (szDisk_any _ _ 1048576 _ (HV.out.below HBa.out) Hb.out (Nat.le_refl _)).mono ?_
  rintro e w1 ⟨he, hB1⟩
  have K1 := Lib.hid (HKa.out.below hB1 HKa.out.lt)
  have HB1 := Lib.hid (below_trans HBa.out hB1 HBa.out.size)
  obtain ⟨p0, p1, p2, p3, p4⟩ : w1.cell? ⟨w.heap.size, 0, none⟩ = some (.int .i64 st) ∧ w1.cell? ⟨w.heap.size, 1, none⟩ = some (.slice a1 xs.length c1) ∧ w1.cell? ⟨w.heap.size, 2, none⟩ = some (.slice a2 ys.length c2) ∧ w1.cell? ⟨w.heap.size, 3, none⟩ = some (.slice a3 bs.length c3) ∧ w1.cell? ⟨w.heap.size, 4, none⟩ = some (.slice a4 ps.length c4) := ⟨(K1.out.cell 0), (K1.out.cell 1), (K1.out.cell 2), (K1.out.cell 3), (K1.out.cell 4)⟩
  clear hB1
  rcases he with rfl | ⟨r, rfl, hr, hsm⟩
  · go_wp2
    go_ret
    exact ⟨rfl, HB1.out⟩
  · have d0 : decide ((r : Int) < 0) = false := by simp
    have HS := Lib.hid hsm
    clear hr hsm
    go_wp2_with fail
    refine (toDisk_any _ _ _ HS (HV.out.below HB1.out)).mono ?_
    rintro e w2 ⟨v2, rfl, ho2, hB2⟩
    have HV2 := Lib.hid ho2.reads
    have K2 := Lib.hid (K1.out.below hB2 K1.out.lt)
    have HB2 := Lib.hid (below_trans HB1.out hB2 HB1.out.size)
    clear ho2 hB2 p0 p1 p2 p3 p4
    go_wp2_with fail
    refine (specRead_any _ _ at0 _ HV2.out).mono ?_
    rintro e w3 ⟨rfl, hB3⟩
    have K3 := Lib.hid (K2.out.below hB3 K2.out.lt)
    have HB3 := Lib.hid (below_trans HB2.out hB3 HB2.out.size)
    obtain ⟨p0, p1, p2, p3, p4⟩ : w3.cell? ⟨w.heap.size, 0, none⟩ = some (.int .i64 st) ∧ w3.cell? ⟨w.heap.size, 1, none⟩ = some (.slice a1 xs.length c1) ∧ w3.cell? ⟨w.heap.size, 2, none⟩ = some (.slice a2 ys.length c2) ∧ w3.cell? ⟨w.heap.size, 3, none⟩ = some (.slice a3 bs.length c3) ∧ w3.cell? ⟨w.heap.size, 4, none⟩ = some (.slice a4 ps.length c4) := ⟨(K3.out.cell 0), (K3.out.cell 1), (K3.out.cell 2), (K3.out.cell 3), (K3.out.cell 4)⟩
    clear hB3
    go_wp2_with fail
    refine (toDisk_any _ _ _ HS (HV.out.below HB3.out)).mono ?_
    rintro e w4 ⟨v4, rfl, ho4, hB4⟩
    have HV4 := Lib.hid ho4.reads
    have K4 := Lib.hid (K3.out.below hB4 K3.out.lt)
    have HB4 := Lib.hid (below_trans HB3.out hB4 HB3.out.size)
    have hx := ho4.reads
    obtain ⟨u1, u2, u3, u4, rfl, ⟨b1, e1, rfl, _⟩, ⟨b2, e2, rfl, _⟩, ⟨b3, e3, rfl, _⟩, ⟨b4, e4, rfl, _⟩⟩ := hx
    simp only at HV4
    have HBb : Hid (Below w4.heap.size w4 (w4.alloc (.cells #[.int .i64 st, .slice b1 xs.length e1, .slice b2 ys.length e2, .slice b3 bs.length e3, .slice b4 ps.length e4] 28))) := (Below.refl _ _).alloc (Nat.le_refl _) _
    have Kb := Lib.hid (Blk.new w4 #[.int .i64 st, .slice b1 xs.length e1, .slice b2 ys.length e2, .slice b3 bs.length e3, .slice b4 ps.length e4] 28)
    clear ho4 hB4 p0 p1 p2 p3 p4
    go_wp2_with fail
    refine (implRead_any _ ⟨st, xs, ys, bs, ps⟩ at0 _ (HV4.out.below HBb.out)).mono ?_
    rintro e w5 ⟨rfl, hB5⟩
    have hB45 : Below w4.heap.size w4 w5 := below_trans HBb.out hB5 HBb.out.size
    have K5 := Lib.hid (K4.out.below hB45 K4.out.lt)
    have Kb5 := Lib.hid (Kb.out.below hB5 Kb.out.lt)
    have HB5 := Lib.hid (below_trans HB4.out hB45 HB4.out.size)
    have HV5 := Lib.hid (HV4.out.below hB45)
    have HS5 : (w5.cell? ⟨w.heap.size, 0, none⟩ = some (.int .i64 st) ∧ w5.cell? ⟨w.heap.size, 1, none⟩ = some (.slice a1 xs.length c1) ∧ w5.cell? ⟨w.heap.size, 2, none⟩ = some (.slice a2 ys.length c2) ∧ w5.cell? ⟨w.heap.size, 3, none⟩ = some (.slice a3 bs.length c3) ∧ w5.cell? ⟨w.heap.size, 4, none⟩ = some (.slice a4 ps.length c4)) ∧ (w5.cell? ⟨w4.heap.size, 0, none⟩ = some (.int .i64 st) ∧ w5.cell? ⟨w4.heap.size, 1, none⟩ = some (.slice b1 xs.length e1) ∧ w5.cell? ⟨w4.heap.size, 2, none⟩ = some (.slice b2 ys.length e2) ∧ w5.cell? ⟨w4.heap.size, 3, none⟩ = some (.slice b3 bs.length e3) ∧ w5.cell? ⟨w4.heap.size, 4, none⟩ = some (.slice b4 ps.length e4)) := ⟨⟨(K5.out.cell 0), (K5.out.cell 1), (K5.out.cell 2), (K5.out.cell 3), (K5.out.cell 4)⟩, ⟨(Kb5.out.cell 0), (Kb5.out.cell 1), (Kb5.out.cell 2), (Kb5.out.cell 3), (Kb5.out.cell 4)⟩⟩
    obtain ⟨⟨p0, p1, p2, p3, p4⟩, q0, q1, q2, q3, q4⟩ := HS5
    clear hB5 hB45
    generalize isThere (readD ⟨st, xs, ys, bs, ps⟩ at0) = bb
    generalize readD ⟨st, xs, ys, bs, ps⟩ at0 = tx
    have e2' : (bb != bb) = false := by simp
    have HBd : Hid (Below w.heap.size w w5.drew) := HB5.out.drew
    have HVd : Hid (DiskV w5.drew (.agg #[.int .i64 st, .slice b1 xs.length e1, .slice b2 ys.length e2, .slice b3 bs.length e3, .slice b4 ps.length e4]) ⟨st, xs, ys, bs, ps⟩) := HV5.out.below ((Below.refl _ _).drew)
    go_wp2_with fail
    go_region_held3 (fun w' => (w'.cell? ⟨w.heap.size, 0, none⟩ = some (.int .i64 st) ∧ w'.cell? ⟨w.heap.size, 1, none⟩ = some (.slice a1 xs.length c1) ∧ w'.cell? ⟨w.heap.size, 2, none⟩ = some (.slice a2 ys.length c2) ∧ w'.cell? ⟨w.heap.size, 3, none⟩ = some (.slice a3 bs.length c3) ∧ w'.cell? ⟨w.heap.size, 4, none⟩ = some (.slice a4 ps.length c4)) ∧ (w'.cell? ⟨w4.heap.size, 0, none⟩ = some (.int .i64 st) ∧ w'.cell? ⟨w4.heap.size, 1, none⟩ = some (.slice b1 xs.length e1) ∧ w'.cell? ⟨w4.heap.size, 2, none⟩ = some (.slice b2 ys.length e2) ∧ w'.cell? ⟨w4.heap.size, 3, none⟩ = some (.slice b3 bs.length e3) ∧ w'.cell? ⟨w4.heap.size, 4, none⟩ = some (.slice b4 ps.length e4))) (first | go_keep | exact hc7 | exact hc6)
      (first
        | (go_at_call 43; refine (toDisk_any _ _ _ HS (HV.out.below HBd.out)).mono ?_; rintro e w6 ⟨v6, rfl, ho6, hB6⟩; have HV6 := Lib.hid ho6.reads; have hx := ho6.reads; obtain ⟨u1, u2, u3, u4, rfl, ⟨g1, f1, rfl, _⟩, ⟨g2, f2, rfl, _⟩, ⟨g3, f3, rfl, _⟩, ⟨g4, f4, rfl, _⟩⟩ := hx; simp only at HV6; have HV56 := Lib.hid (HVd.out.below hB6); have HB6 := Lib.hid (below_trans HBd.out hB6 HBd.out.size); have hc6 := (⟨⟨cell_below hB6 p0, cell_below hB6 p1, cell_below hB6 p2, cell_below hB6 p3, cell_below hB6 p4⟩, cell_below hB6 q0, cell_below hB6 q1, cell_below hB6 q2, cell_below hB6 q3, cell_below hB6 q4⟩ : (w6.cell? ⟨w.heap.size, 0, none⟩ = some (.int .i64 st) ∧ w6.cell? ⟨w.heap.size, 1, none⟩ = some (.slice a1 xs.length c1) ∧ w6.cell? ⟨w.heap.size, 2, none⟩ = some (.slice a2 ys.length c2) ∧ w6.cell? ⟨w.heap.size, 3, none⟩ = some (.slice a3 bs.length c3) ∧ w6.cell? ⟨w.heap.size, 4, none⟩ = some (.slice a4 ps.length c4)) ∧ (w6.cell? ⟨w4.heap.size, 0, none⟩ = some (.int .i64 st) ∧ w6.cell? ⟨w4.heap.size, 1, none⟩ = some (.slice b1 xs.length e1) ∧ w6.cell? ⟨w4.heap.size, 2, none⟩ = some (.slice b2 ys.length e2) ∧ w6.cell? ⟨w4.heap.size, 3, none⟩ = some (.slice b3 bs.length e3) ∧ w6.cell? ⟨w4.heap.size, 4, none⟩ = some (.slice b4 ps.length e4))); clear ho6 hB6)
        | (go_at_call 38; refine (eqDisk_same _ _ _ _ HV56.out HV6.out).mono ?_; rintro e w7 ⟨rfl, hB7⟩; obtain ⟨⟨k0, k1, k2, k3, k4⟩, j0, j1, j2, j3, j4⟩ := hc6; have hc7 := (⟨⟨cell_below hB7 k0, cell_below hB7 k1, cell_below hB7 k2, cell_below hB7 k3, cell_below hB7 k4⟩, cell_below hB7 j0, cell_below hB7 j1, cell_below hB7 j2, cell_below hB7 j3, cell_below hB7 j4⟩ : (w7.cell? ⟨w.heap.size, 0, none⟩ = some (.int .i64 st) ∧ w7.cell? ⟨w.heap.size, 1, none⟩ = some (.slice a1 xs.length c1) ∧ w7.cell? ⟨w.heap.size, 2, none⟩ = some (.slice a2 ys.length c2) ∧ w7.cell? ⟨w.heap.size, 3, none⟩ = some (.slice a3 bs.length c3) ∧ w7.cell? ⟨w.heap.size, 4, none⟩ = some (.slice a4 ps.length c4)) ∧ (w7.cell? ⟨w4.heap.size, 0, none⟩ = some (.int .i64 st) ∧ w7.cell? ⟨w4.heap.size, 1, none⟩ = some (.slice b1 xs.length e1) ∧ w7.cell? ⟨w4.heap.size, 2, none⟩ = some (.slice b2 ys.length e2) ∧ w7.cell? ⟨w4.heap.size, 3, none⟩ = some (.slice b3 bs.length e3) ∧ w7.cell? ⟨w4.heap.size, 4, none⟩ = some (.slice b4 ps.length e4))); have HB7 := Lib.hid (below_trans HB6.out hB7 HB6.out.size); clear hB7))
    all_goals
      go_wp2
      go_ret
      exact ⟨rfl, HB7.out⟩

set_option maxRecDepth 100000 in
theorem lifted (os : Os) (started : os.Started) (H : Type) (enc : TypeId × Value → H) :
    ReturnsInHanded {} Try.checked os 13 .any (Rows.fnExactDiskReadSpec.pre6 enc Try.prog Try.f13 Rows.fnExactDiskReadRow.domain false) (Rows.fnExactDiskReadSpec.post enc Try.prog Try.f13 false true false false) := by
  refine returnsInHanded_of_change (C := Try.checked) own started (by kernel_rfl) Try.func13
    (ChangeSpec.witness6 (enc := enc) (C := Try.checked) false ⟨#[], #[.agg #[.int .i64 0, .slice none 0 0, .slice none 0 0, .slice none 0 0, .slice none 0 0], .int .i64 0], []⟩ 8 (by kernel_rfl) (by kernel_rfl) (by kernel_rfl) (by kernel_rfl)) ?_
  intro W base args ds gs before hval0 hW hcnd _
  have hval : ∀ (j : Nat) t v, Try.f13.params[j]? = some t → args[j]? = some v → Value.okWide Try.prog W .any base t v := hval0
  have hW' := hW
  obtain ⟨p, q, hA0, hV, rfl, hfz, hnd⟩ := hW
  have hA : DataW.TrodAll enc Try.prog W 0 (fun _ => true) true Try.f13.params.toList args.toList ds p := hA0
  rw [Try.params13] at hA hval
  obtain ⟨v0, vs0, d0, ds0, p0, q0, hargs, rfl, rfl, h0, r0⟩ := trodAll_cons hA
  obtain ⟨v1, vs1, d1, ds1, p1, q1, rfl, rfl, rfl, h1, r1⟩ := trodAll_cons r0
  obtain ⟨rfl, rfl, rfl⟩ := trodAll_nil r1
  obtain rfl : args = #[v0, v1] := by cases args; simp_all
  obtain ⟨rfl, rfl⟩ := trodVars_none hV
  have k0 := h0
  have lt0 : ∀ x ∈ p0, x.block < W.heap.size := by obtain ⟨m, hm⟩ := k0; exact DataW.trod_lt m _ _ _ hm
  obtain ⟨x0, w0, wn0⟩ := in_disk (hval 0 55 v0 rfl rfl) h0
  have k1 := h1
  have lt1 : ∀ x ∈ p1, x.block < W.heap.size := by obtain ⟨m, hm⟩ := k1; exact DataW.trod_lt m _ _ _ hm
  obtain ⟨a1, rfl, rfl, e1, w1⟩ := open_int Try.underlying3 (hval 1 3 v1 rfl rfl) h1
  clear hA0 hval0
  refine (walk v0 x0 a1 W w0 wn0 w1).mono fun e W' ⟨he, bel⟩ => ?_
  subst he
  exact ⟨_, rfl, _, _, _, [], _, [], hW', trodAll_mk1 (shut_bool Try.underlying4 _), (trodAll_cons_mk (Below.trod laidOut (by kernel_rfl) (of_decide_eq_true (by kernel_rfl)) k0 bel lt0) (trodAll_cons_mk (Below.trod laidOut (by kernel_rfl) (of_decide_eq_true (by kernel_rfl)) k1 bel lt1) trodAll_mk0)), rfl, bel.frame _, fun h => by cases h⟩

theorem over : Rows.fnExactDiskReadRow.holds Try.pinned (OpenSpec.ofChange Rows.fnExactDiskReadSpec) :=
  OpenClaim.holds_of_wide 13 Try.f13 rfl rfl rfl rfl rfl rfl rfl ⟨rfl, rfl, rfl, rfl, rfl⟩ rfl rfl rfl rfl rfl (by kernel_rfl) Try.func13 (by kernel_rfl)
    (of_decide_eq_true (by kernel_rfl)) (by unfold Func.isWrapper; first | (rw [if_pos (by decide +kernel)]; kernel_rfl) | (rw [if_neg (by decide +kernel)]; exact ⟨rfl, rfl⟩))
    (fun os started H enc _ => lifted os started H enc)

end FnExactDiskRead

theorem FnExactDiskRead_holds : Rows.FnExactDiskReadSaid := FnExactDiskRead.over

end Go.Proofs.Ythhmpimnagnjfaa

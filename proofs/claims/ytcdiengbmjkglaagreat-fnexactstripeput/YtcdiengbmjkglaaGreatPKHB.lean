/- DiskPut of the program. Conditions: none. -/
import Derived.Test.YtcdiengbmjkglaaGreatPKH8
import Derived.Test.YtcdiengbmjkglaaGreatPKHX
namespace Go.Proofs.YtcdiengbmjkglaaGreat
open Go.RowKit Go.Sort Go.Shelf

/-- **DiskPut**, on plain data: the write waits; if as many wait as may, those come first. -/
def putBase (d : DiskD) : DiskD := if d.wait.length = 40 then crashD d (-1) else d
def putD (d : DiskD) (p : PutD) : DiskD := if d.state = 1 then d else ⟨(putBase d).state, (putBase d).slots, (putBase d).rings, (putBase d).spoilt, (putBase d).wait ++ [p]⟩
theorem putD_wait {d : DiskD} (h : d.wait.length ≤ 40) (p : PutD) : (putD d p).wait.length ≤ 40 := by
  unfold putD
  split
  · exact h
  · show ((putBase d).wait ++ [p]).length ≤ 40
    unfold putBase
    split
    · simp [crashD]
    · simp; omega
theorem put_text {p : PutD} (h : PutOk p) : p.text.size ≤ 1000 := by
  unfold PutOk at h
  split at h <;> omega

set_option maxHeartbeats 400000 in
theorem isGone_any (st : Int) (u : Value) (a : Option Addr) (n c : Nat) (hu : u = .slice a n c) (w : World) :
    Calls Tryz.prog 130 #[.agg #[.int .i64 st, u]] w fun e w' => e = .returned (.bool (st == 1)) ∧ Below w.heap.size w w' := by
  subst hu
  go_enter Tryz.func130, Tryz.ntmps130
  go_wp2
  go_ret
  exact ⟨rfl, (Below.refl _ _).alloc (Nat.le_refl _) _⟩

set_option maxRecDepth 100000 in
set_option maxHeartbeats 2000000 in
theorem put_any (base DD : Nat) (d : DiskD) (ids : List Nat) (p : PutD) (w : World) (hb : base ≤ w.heap.size) (hr : HasRows d) (hps : AllPu PutOk d.wait) (hlen : d.wait.length ≤ 40) (hp : p.text.size ≤ 1000) (hD : Drive w base DD d ids) :
    Calls Tryz.prog 111 #[.pointer (some ⟨DD, 0, none⟩), .agg #[.bool p.ring, .int .i64 p.pos, .string p.text]] w fun e w' => (∃ v, e = .returned v) ∧ ∃ ids', Drive w' base DD (putD d p) ids' ∧ Below base w w' := by
  have HB0 := Lib.hid (show Below w.heap.size w (w.alloc (.cells #[.bool p.ring, .int .i64 p.pos, .string p.text] 101)) from (Below.refl _ _).alloc (Nat.le_refl _) _)
  have KP := Lib.hid (Blk.new w #[.bool p.ring, .int .i64 p.pos, .string p.text] 101)
  have HD := Lib.hid (hD.below HB0.out)
  have hDD : DD < w.heap.size := by obtain ⟨_, _, _, _, hk, _⟩ := hD; exact hk.lt
  have hbD : base ≤ DD := by obtain ⟨_, _, _, h, _⟩ := hD; exact h
  have HSe := Lib.hid (fun W h1 hD => settle_k base DD d ids (-1) W h1 (by omega) (by omega) hr hps hD)
  have HAd := Lib.hid (fun e ids W h1 h2 hD => add_any base DD e ids p W h1 hp h2 hD)
  obtain ⟨v1, v2, v3, _, hk, h3, hc⟩ := hD
  obtain ⟨a3, c3, rfl, _⟩ := OwnBo.reads h3.2.2.1
  have hk0 := hk.below HB0.out hk.lt
  have k0 : (w.alloc (.cells #[.bool p.ring, .int .i64 p.pos, .string p.text] 101)).cell? ⟨DD, 0, none⟩ = some (.int .i64 d.state) := hk0.cell 0
  have k1 : (w.alloc (.cells #[.bool p.ring, .int .i64 p.pos, .string p.text] 101)).cell? ⟨DD, 1, none⟩ = some (.slice a3 d.spoilt.length c3) := hk0.cell 1
  have k6 : (w.alloc (.cells #[.bool p.ring, .int .i64 p.pos, .string p.text] 101)).cell? ⟨DD, 6, none⟩ = some (.int .i64 (d.wait.length : Int)) := hk0.cell 6
  clear hk h3 hc hk0 hr hps
  have HPD := Lib.hid (show putD d p = if d.state = 1 then d else ⟨(putBase d).state, (putBase d).slots, (putBase d).rings, (putBase d).spoilt, (putBase d).wait ++ [p]⟩ from rfl)
  have HPB := Lib.hid (show putBase d = if d.wait.length = 40 then crashD d (-1) else d from rfl)
  go_enter Tryz.func111, Tryz.ntmps111
  go_wp2_with fail
  generalize w.alloc (.cells #[.bool p.ring, .int .i64 p.pos, .string p.text] 101) = W at HB0 KP HD k0 k1 k6 ⊢
  refine (isGone_any d.state _ a3 d.spoilt.length c3 rfl _).mono ?_
  rintro e w1 ⟨rfl, hB1⟩
  have HD1 := Lib.hid (HD.out.below hB1)
  have KP1 := Lib.hid (KP.out.below hB1 KP.out.lt)
  have B1 := Lib.hid ((HB0.out.mono hb).trans (hB1.mono (Nat.le_trans hb HB0.out.size)))
  have k6 := cell_below hB1 k6
  have z1 : w.heap.size < w1.heap.size := KP1.out.lt
  clear hB1 k0 k1 HD KP
  by_cases hs : d.state = 1
  · have es : (d.state == 1) = true := beq_iff_eq.2 hs
    rw [if_pos hs] at HPD
    clear hs
    go_wp2
    refine bodyPost_ret (results_none rfl _ _ _) rfl ?_
    exact ⟨⟨_, rfl⟩, ids, by rw [HPD.out]; exact HD1.out, B1.out⟩
  · have es : (d.state == 1) = false := beq_eq_false_iff_ne.2 hs
    rw [if_neg hs] at HPD
    clear hs
    by_cases h40 : d.wait.length = 40
    · have e40 : ((d.wait.length : Int) == 40) = true := beq_iff_eq.2 (by omega)
      rw [if_pos h40] at HPB
      rw [HPB.out] at HPD
      have H0 := Lib.hid (show (crashD d (-1)).wait = [] from rfl)
      generalize crashD d (-1) = de at HPD HSe H0
      clear h40
      go_wp2_with fail
      refine (HSe.out _ (by omega) HD1.out).mono ?_
      rintro e w2 ⟨⟨vv, rfl⟩, hD2, hB2, hot2⟩
      have KP2 := Lib.hid (hot2 _ _ _ (by decide) (by decide) (by decide) KP1.out)
      have HD2 := Lib.hid hD2
      have B2 := Lib.hid (B1.out.trans hB2)
      have z2 := hB2.size
      clear hD2 hB2 hot2
      obtain ⟨q0, q1, q2⟩ : w2.cell? ⟨w.heap.size, 0, none⟩ = some (.bool p.ring) ∧ w2.cell? ⟨w.heap.size, 1, none⟩ = some (.int .i64 p.pos) ∧ w2.cell? ⟨w.heap.size, 2, none⟩ = some (.string p.text) := ⟨KP2.out.cell 0, KP2.out.cell 1, KP2.out.cell 2⟩
      have HA := Lib.hid (HAd.out de [] w2.drew (show base ≤ w2.heap.size by omega) (by rw [H0.out]; simp) (HD2.out.below (Below.refl _ _).drew))
      have Bd : Hid (Below base w w2.drew) := B2.out.drew
      go_wp2_with fail
      go_region_with (go_at_call 91; refine HA.out.mono ?_; rintro e wX ⟨⟨v, rfl⟩, ids', hd', hBX⟩; have HD' := Lib.hid hd'; have HBX := Lib.hid (Bd.out.trans hBX); clear hd' hBX)
      all_goals
        go_end0
        exact ⟨⟨_, rfl⟩, ids', by rw [HPD.out]; exact HD'.out, HBX.out⟩
    · have e40 : ((d.wait.length : Int) == 40) = false := beq_eq_false_iff_ne.2 (by omega)
      rw [if_neg h40] at HPB
      rw [HPB.out] at HPD
      have hl : d.wait.length ≤ 1000 := by omega
      clear h40
      obtain ⟨q0, q1, q2⟩ : w1.cell? ⟨w.heap.size, 0, none⟩ = some (.bool p.ring) ∧ w1.cell? ⟨w.heap.size, 1, none⟩ = some (.int .i64 p.pos) ∧ w1.cell? ⟨w.heap.size, 2, none⟩ = some (.string p.text) := ⟨KP1.out.cell 0, KP1.out.cell 1, KP1.out.cell 2⟩
      have HA := Lib.hid (HAd.out d ids w1.drew (show base ≤ w1.heap.size by omega) hl (HD1.out.below (Below.refl _ _).drew))
      have Bd : Hid (Below base w w1.drew) := B1.out.drew
      go_wp2_with fail
      go_region_with (go_at_call 91; refine HA.out.mono ?_; rintro e wX ⟨⟨v, rfl⟩, ids', hd', hBX⟩; have HD' := Lib.hid hd'; have HBX := Lib.hid (Bd.out.trans hBX); clear hd' hBX)
      all_goals
        go_end0
        exact ⟨⟨_, rfl⟩, ids', by rw [HPD.out]; exact HD'.out, HBX.out⟩

set_option maxRecDepth 100000 in
set_option maxHeartbeats 2000000 in
theorem implPut_ok (v : Value) (d : DiskD) (p : PutD) (w : World) (hf : DiskFine d) (hp : PutOk p) (hv : DiskV w v d) :
    Calls Tryz.prog 75 #[v, .agg #[.bool p.ring, .int .i64 p.pos, .string p.text]] w (NewDisk (putD d p) w) := by
  obtain ⟨z0, z1, _⟩ := fine_sizes hf
  have HDr := Lib.hid (fun W (h : Below w.heap.size w W) => driveOf_ok v d W hf (hv.below h))
  have HIp := Lib.hid (fun W => isPut_any p.ring p.pos p.text W)
  rw [tt_true hp] at HIp
  have HPu := Lib.hid (fun base DD ids W h1 hD => put_any base DD d ids p W h1 z0 hf.2.2.2.2.1 z1 (put_text hp) hD)
  have HDi := Lib.hid (fun base DD ids W h1 hD => disk_any base DD (putD d p) ids W h1 (by have := putD_wait z1 p; omega) hD)
  generalize putD d p = de at HPu HDi
  obtain ⟨st, xs, ys, bs, ps⟩ := d
  obtain ⟨v1, v2, v3, v4, rfl, ⟨a1, c1, rfl, _⟩, ⟨a2, c2, rfl, _⟩, ⟨a3, c3, rfl, _⟩, ⟨a4, c4, rfl, _⟩⟩ := hv
  simp only at HDr HPu
  clear hf z0 z1 hp
  have hB : Below w.heap.size w (((w.alloc (.cells #[.int .i64 st, .slice a1 xs.length c1, .slice a2 ys.length c2, .slice a3 bs.length c3, .slice a4 ps.length c4] 50)).alloc (.cells #[.bool p.ring, .int .i64 p.pos, .string p.text] 101)).alloc (.cells #[.int .i64 0, .slice none 0 0, .slice none 0 0, .slice none 0 0, .slice none 0 0] 50)) := (((Below.refl _ _).alloc (Nat.le_refl _) _).alloc (by simp) _).alloc (by simp; omega) _
  have HB := Lib.hid hB
  have hR : Blk (((w.alloc (.cells #[.int .i64 st, .slice a1 xs.length c1, .slice a2 ys.length c2, .slice a3 bs.length c3, .slice a4 ps.length c4] 50)).alloc (.cells #[.bool p.ring, .int .i64 p.pos, .string p.text] 101)).alloc (.cells #[.int .i64 0, .slice none 0 0, .slice none 0 0, .slice none 0 0, .slice none 0 0] 50)) (w.heap.size + 2) #[.int .i64 0, .slice none 0 0, .slice none 0 0, .slice none 0 0, .slice none 0 0] 50 := by
    have := Blk.new ((w.alloc (.cells #[.int .i64 st, .slice a1 xs.length c1, .slice a2 ys.length c2, .slice a3 bs.length c3, .slice a4 ps.length c4] 50)).alloc (.cells #[.bool p.ring, .int .i64 p.pos, .string p.text] 101)) #[.int .i64 0, .slice none 0 0, .slice none 0 0, .slice none 0 0, .slice none 0 0] 50
    rw [World.size_alloc, World.size_alloc] at this
    exact this
  have HR := Lib.hid hR
  have hP : Blk (((w.alloc (.cells #[.int .i64 st, .slice a1 xs.length c1, .slice a2 ys.length c2, .slice a3 bs.length c3, .slice a4 ps.length c4] 50)).alloc (.cells #[.bool p.ring, .int .i64 p.pos, .string p.text] 101)).alloc (.cells #[.int .i64 0, .slice none 0 0, .slice none 0 0, .slice none 0 0, .slice none 0 0] 50)) (w.heap.size + 1) #[.bool p.ring, .int .i64 p.pos, .string p.text] 101 := by
    have := Blk.new (w.alloc (.cells #[.int .i64 st, .slice a1 xs.length c1, .slice a2 ys.length c2, .slice a3 bs.length c3, .slice a4 ps.length c4] 50)) #[.bool p.ring, .int .i64 p.pos, .string p.text] 101
    rw [World.size_alloc] at this
    exact this.below (n := w.heap.size + 2) ((Below.refl _ _).alloc (by simp) _) (by omega)
  have HP := Lib.hid hP
  have hs2 : (((w.alloc (.cells #[.int .i64 st, .slice a1 xs.length c1, .slice a2 ys.length c2, .slice a3 bs.length c3, .slice a4 ps.length c4] 50)).alloc (.cells #[.bool p.ring, .int .i64 p.pos, .string p.text] 101)).alloc (.cells #[.int .i64 0, .slice none 0 0, .slice none 0 0, .slice none 0 0, .slice none 0 0] 50)).heap.size = w.heap.size + 3 := by simp
  have Hs2 := Lib.hid hs2
  clear hB hR hs2 hP
  go_enter Tryz.func75, Tryz.ntmps75
  go_wp2_with fail
  generalize (((w.alloc (.cells #[.int .i64 st, .slice a1 xs.length c1, .slice a2 ys.length c2, .slice a3 bs.length c3, .slice a4 ps.length c4] 50)).alloc (.cells #[.bool p.ring, .int .i64 p.pos, .string p.text] 101)).alloc (.cells #[.int .i64 0, .slice none 0 0, .slice none 0 0, .slice none 0 0, .slice none 0 0] 50)) = W at HB HR HP Hs2 ⊢
  refine (HDr.out _ HB.out).mono ?_
  rintro e w1 ⟨DD, ids, rfl, hD1, hB1⟩
  rw [Hs2.out] at hD1 hB1
  have KR := Lib.hid (HR.out.below hB1 (by omega))
  have KP := Lib.hid (HP.out.below hB1 (by omega))
  have B1 := Lib.hid (HB.out.trans (hB1.mono (by omega)))
  have z1 := hB1.size
  rw [Hs2.out] at z1
  have HD1 := Lib.hid hD1
  clear hD1 hB1
  obtain ⟨q0, q1, q2⟩ : w1.cell? ⟨w.heap.size + 1, 0, none⟩ = some (.bool p.ring) ∧ w1.cell? ⟨w.heap.size + 1, 1, none⟩ = some (.int .i64 p.pos) ∧ w1.cell? ⟨w.heap.size + 1, 2, none⟩ = some (.string p.text) := ⟨KP.out.cell 0, KP.out.cell 1, KP.out.cell 2⟩
  go_wp2_with fail
  refine (HIp.out _).mono ?_
  rintro e w2 ⟨rfl, hB2⟩
  have KR2 := Lib.hid (KR.out.below hB2 KR.out.lt)
  have KP2 := Lib.hid (KP.out.below hB2 KP.out.lt)
  have B2 := Lib.hid (below_trans B1.out hB2 B1.out.size)
  have HD2 := Lib.hid (HD1.out.below hB2)
  have z2 := Nat.le_trans z1 hB2.size
  clear hB2 q0 q1 q2
  obtain ⟨q0, q1, q2⟩ : w2.cell? ⟨w.heap.size + 1, 0, none⟩ = some (.bool p.ring) ∧ w2.cell? ⟨w.heap.size + 1, 1, none⟩ = some (.int .i64 p.pos) ∧ w2.cell? ⟨w.heap.size + 1, 2, none⟩ = some (.string p.text) := ⟨KP2.out.cell 0, KP2.out.cell 1, KP2.out.cell 2⟩
  go_wp2_with fail
  refine (HPu.out _ _ _ _ z2 HD2.out).mono ?_
  rintro e w3' ⟨⟨vv, rfl⟩, ids', hD3, hB3⟩
  have KR3 := Lib.hid (KR2.out.below hB3 (by omega))
  have B3' := Lib.hid (B2.out.trans (hB3.mono (by omega)))
  have z3 := Nat.le_trans z2 hB3.size
  have HD3 := Lib.hid hD3
  clear hD3 hB3
  go_wp2_with fail
  refine (HDi.out _ _ _ _ z3 HD3.out).mono ?_
  rintro e w3 ⟨v3, rfl, ho, hB3⟩
  have HO := Lib.hid ho
  have KR4 := Lib.hid (KR3.out.below hB3 (by omega))
  have B3 := Lib.hid (below_trans B3'.out hB3 B3'.out.size)
  clear ho hB3
  obtain ⟨y0, y1, y2, y3, y4⟩ : w3.cell? ⟨w.heap.size + 2, 0, none⟩ = some (.int .i64 0) ∧ w3.cell? ⟨w.heap.size + 2, 1, none⟩ = some (.slice none 0 0) ∧ w3.cell? ⟨w.heap.size + 2, 2, none⟩ = some (.slice none 0 0) ∧ w3.cell? ⟨w.heap.size + 2, 3, none⟩ = some (.slice none 0 0) ∧ w3.cell? ⟨w.heap.size + 2, 4, none⟩ = some (.slice none 0 0) := ⟨(KR4.out.cell 0), (KR4.out.cell 1), (KR4.out.cell 2), (KR4.out.cell 3), (KR4.out.cell 4)⟩
  have f0 := KR4.out.frozen 0
  have f1 := KR4.out.frozen 1
  have f2 := KR4.out.frozen 2
  have f3 := KR4.out.frozen 3
  have f4 := KR4.out.frozen 4
  obtain ⟨r1, r2, r3, r4, rfl, ho4⟩ := HO.out
  obtain ⟨b1, e1, rfl, _⟩ := OwnTx.reads ho4.1
  obtain ⟨b2, e2, rfl, _⟩ := OwnTx.reads ho4.2.1
  obtain ⟨b3, e3, rfl, _⟩ := OwnBo.reads ho4.2.2.1
  obtain ⟨b4, e4, rfl, _⟩ := OwnPu.reads ho4.2.2.2.1
  go_wp2
  refine bodyPost_ret (v := .agg #[.int .i64 de.state, .slice b1 de.slots.length e1, .slice b2 de.rings.length e2, .slice b3 de.spoilt.length e3, .slice b4 de.wait.length e4]) (by simp [results, Tryz.results75, go_sem, y0, y1, y2, y3, y4]) rfl ⟨_, rfl, ⟨_, _, _, _, rfl, ?_⟩, ?_⟩
  · exact (((((ho4.far _ _ _ (by omega)).far _ _ _ (by omega)).far _ _ _ (by omega)).far _ _ _ (by omega)).far _ _ _ (by omega)).mono (by omega)
  · exact ((((B3.out.setCell (p := ⟨w.heap.size + 2, 0, none⟩) (by simp <;> omega) _).setCell (p := ⟨w.heap.size + 2, 1, none⟩) (by simp <;> omega) _).setCell (p := ⟨w.heap.size + 2, 2, none⟩) (by simp <;> omega) _).setCell (p := ⟨w.heap.size + 2, 3, none⟩) (by simp <;> omega) _).setCell (p := ⟨w.heap.size + 2, 4, none⟩) (by simp <;> omega) _

set_option maxRecDepth 100000 in
set_option maxHeartbeats 2000000 in
theorem implPut_no (v : Value) (d : DiskD) (p : PutD) (w : World) (hf : ¬(DiskFine d ∧ PutOk p)) (hv : DiskV w v d) :
    Calls Tryz.prog 75 #[v, .agg #[.bool p.ring, .int .i64 p.pos, .string p.text]] w (NewDisk disk0 w) := by
  have HIp := Lib.hid (fun W => isPut_any p.ring p.pos p.text W)
  by_cases h : DiskFine d
  · have hz : ¬PutOk p := fun k => hf ⟨h, k⟩
    rw [tt_false hz] at HIp
    have HDr := Lib.hid (fun W (hh : Below w.heap.size w W) => driveOf_ok v d W h (hv.below hh))
    obtain ⟨st, xs, ys, bs, ps⟩ := d
    obtain ⟨v1, v2, v3, v4, rfl, ⟨a1, c1, rfl, _⟩, ⟨a2, c2, rfl, _⟩, ⟨a3, c3, rfl, _⟩, ⟨a4, c4, rfl, _⟩⟩ := hv
    simp only at HDr
    clear hf h hz
    have hB : Below w.heap.size w (((w.alloc (.cells #[.int .i64 st, .slice a1 xs.length c1, .slice a2 ys.length c2, .slice a3 bs.length c3, .slice a4 ps.length c4] 50)).alloc (.cells #[.bool p.ring, .int .i64 p.pos, .string p.text] 101)).alloc (.cells #[.int .i64 0, .slice none 0 0, .slice none 0 0, .slice none 0 0, .slice none 0 0] 50)) := (((Below.refl _ _).alloc (Nat.le_refl _) _).alloc (by simp) _).alloc (by simp; omega) _
    have HB := Lib.hid hB
    have hR : Blk (((w.alloc (.cells #[.int .i64 st, .slice a1 xs.length c1, .slice a2 ys.length c2, .slice a3 bs.length c3, .slice a4 ps.length c4] 50)).alloc (.cells #[.bool p.ring, .int .i64 p.pos, .string p.text] 101)).alloc (.cells #[.int .i64 0, .slice none 0 0, .slice none 0 0, .slice none 0 0, .slice none 0 0] 50)) (w.heap.size + 2) #[.int .i64 0, .slice none 0 0, .slice none 0 0, .slice none 0 0, .slice none 0 0] 50 := by
      have := Blk.new ((w.alloc (.cells #[.int .i64 st, .slice a1 xs.length c1, .slice a2 ys.length c2, .slice a3 bs.length c3, .slice a4 ps.length c4] 50)).alloc (.cells #[.bool p.ring, .int .i64 p.pos, .string p.text] 101)) #[.int .i64 0, .slice none 0 0, .slice none 0 0, .slice none 0 0, .slice none 0 0] 50
      rw [World.size_alloc, World.size_alloc] at this
      exact this
    have HR := Lib.hid hR
    have hP : Blk (((w.alloc (.cells #[.int .i64 st, .slice a1 xs.length c1, .slice a2 ys.length c2, .slice a3 bs.length c3, .slice a4 ps.length c4] 50)).alloc (.cells #[.bool p.ring, .int .i64 p.pos, .string p.text] 101)).alloc (.cells #[.int .i64 0, .slice none 0 0, .slice none 0 0, .slice none 0 0, .slice none 0 0] 50)) (w.heap.size + 1) #[.bool p.ring, .int .i64 p.pos, .string p.text] 101 := by
      have := Blk.new (w.alloc (.cells #[.int .i64 st, .slice a1 xs.length c1, .slice a2 ys.length c2, .slice a3 bs.length c3, .slice a4 ps.length c4] 50)) #[.bool p.ring, .int .i64 p.pos, .string p.text] 101
      rw [World.size_alloc] at this
      exact this.below (n := w.heap.size + 2) ((Below.refl _ _).alloc (by simp) _) (by omega)
    have HP := Lib.hid hP
    have hs2 : (((w.alloc (.cells #[.int .i64 st, .slice a1 xs.length c1, .slice a2 ys.length c2, .slice a3 bs.length c3, .slice a4 ps.length c4] 50)).alloc (.cells #[.bool p.ring, .int .i64 p.pos, .string p.text] 101)).alloc (.cells #[.int .i64 0, .slice none 0 0, .slice none 0 0, .slice none 0 0, .slice none 0 0] 50)).heap.size = w.heap.size + 3 := by simp
    have Hs2 := Lib.hid hs2
    clear hB hR hs2 hP
    go_enter Tryz.func75, Tryz.ntmps75
    go_wp2_with fail
    generalize (((w.alloc (.cells #[.int .i64 st, .slice a1 xs.length c1, .slice a2 ys.length c2, .slice a3 bs.length c3, .slice a4 ps.length c4] 50)).alloc (.cells #[.bool p.ring, .int .i64 p.pos, .string p.text] 101)).alloc (.cells #[.int .i64 0, .slice none 0 0, .slice none 0 0, .slice none 0 0, .slice none 0 0] 50)) = W at HB HR HP Hs2 ⊢
    refine (HDr.out _ HB.out).mono ?_
    rintro e w0 ⟨DD, ids, rfl, _, hB0⟩
    have KR0 := Lib.hid (HR.out.below hB0 HR.out.lt)
    have KP := Lib.hid (HP.out.below hB0 HP.out.lt)
    have B0 := Lib.hid (below_trans HB.out hB0 HB.out.size)
    clear hB0
    obtain ⟨q0, q1, q2⟩ : w0.cell? ⟨w.heap.size + 1, 0, none⟩ = some (.bool p.ring) ∧ w0.cell? ⟨w.heap.size + 1, 1, none⟩ = some (.int .i64 p.pos) ∧ w0.cell? ⟨w.heap.size + 1, 2, none⟩ = some (.string p.text) := ⟨KP.out.cell 0, KP.out.cell 1, KP.out.cell 2⟩
    go_wp2_with fail
    refine (HIp.out _).mono ?_
    rintro e w1 ⟨rfl, hB1⟩
    have KR := Lib.hid (KR0.out.below hB1 KR0.out.lt)
    have B1 := Lib.hid (below_trans B0.out hB1 B0.out.size)
    obtain ⟨y0, y1, y2, y3, y4⟩ : w1.cell? ⟨w.heap.size + 2, 0, none⟩ = some (.int .i64 0) ∧ w1.cell? ⟨w.heap.size + 2, 1, none⟩ = some (.slice none 0 0) ∧ w1.cell? ⟨w.heap.size + 2, 2, none⟩ = some (.slice none 0 0) ∧ w1.cell? ⟨w.heap.size + 2, 3, none⟩ = some (.slice none 0 0) ∧ w1.cell? ⟨w.heap.size + 2, 4, none⟩ = some (.slice none 0 0) := ⟨(KR.out.cell 0), (KR.out.cell 1), (KR.out.cell 2), (KR.out.cell 3), (KR.out.cell 4)⟩
    have f0 := KR.out.frozen 0
    have f1 := KR.out.frozen 1
    have f2 := KR.out.frozen 2
    have f3 := KR.out.frozen 3
    have f4 := KR.out.frozen 4
    clear hB1
    go_wp2
    refine bodyPost_ret (v := .agg #[.int .i64 0, .slice none 0 0, .slice none 0 0, .slice none 0 0, .slice none 0 0]) (by simp [results, Tryz.results75, go_sem, y0, y1, y2, y3, y4]) rfl ⟨_, rfl, ?_, ?_⟩
    · exact ⟨_, _, _, _, rfl, ⟨rfl, .inl ⟨rfl, rfl⟩⟩, ⟨rfl, .inl ⟨rfl, rfl⟩⟩, ⟨rfl, .inl ⟨rfl, rfl⟩⟩, ⟨rfl, .inl ⟨rfl, rfl⟩⟩, fun i h => by cases h⟩
    · exact ((((B1.out.setCell (p := ⟨w.heap.size + 2, 0, none⟩) (by simp <;> omega) _).setCell (p := ⟨w.heap.size + 2, 1, none⟩) (by simp <;> omega) _).setCell (p := ⟨w.heap.size + 2, 2, none⟩) (by simp <;> omega) _).setCell (p := ⟨w.heap.size + 2, 3, none⟩) (by simp <;> omega) _).setCell (p := ⟨w.heap.size + 2, 4, none⟩) (by simp <;> omega) _

  · have HDr := Lib.hid (fun W (hh : Below w.heap.size w W) => driveOf_no v d W h (hv.below hh))
    obtain ⟨st, xs, ys, bs, ps⟩ := d
    obtain ⟨v1, v2, v3, v4, rfl, ⟨a1, c1, rfl, _⟩, ⟨a2, c2, rfl, _⟩, ⟨a3, c3, rfl, _⟩, ⟨a4, c4, rfl, _⟩⟩ := hv
    simp only at HDr
    clear hf h
    have hB : Below w.heap.size w (((w.alloc (.cells #[.int .i64 st, .slice a1 xs.length c1, .slice a2 ys.length c2, .slice a3 bs.length c3, .slice a4 ps.length c4] 50)).alloc (.cells #[.bool p.ring, .int .i64 p.pos, .string p.text] 101)).alloc (.cells #[.int .i64 0, .slice none 0 0, .slice none 0 0, .slice none 0 0, .slice none 0 0] 50)) := (((Below.refl _ _).alloc (Nat.le_refl _) _).alloc (by simp) _).alloc (by simp; omega) _
    have HB := Lib.hid hB
    have hR : Blk (((w.alloc (.cells #[.int .i64 st, .slice a1 xs.length c1, .slice a2 ys.length c2, .slice a3 bs.length c3, .slice a4 ps.length c4] 50)).alloc (.cells #[.bool p.ring, .int .i64 p.pos, .string p.text] 101)).alloc (.cells #[.int .i64 0, .slice none 0 0, .slice none 0 0, .slice none 0 0, .slice none 0 0] 50)) (w.heap.size + 2) #[.int .i64 0, .slice none 0 0, .slice none 0 0, .slice none 0 0, .slice none 0 0] 50 := by
      have := Blk.new ((w.alloc (.cells #[.int .i64 st, .slice a1 xs.length c1, .slice a2 ys.length c2, .slice a3 bs.length c3, .slice a4 ps.length c4] 50)).alloc (.cells #[.bool p.ring, .int .i64 p.pos, .string p.text] 101)) #[.int .i64 0, .slice none 0 0, .slice none 0 0, .slice none 0 0, .slice none 0 0] 50
      rw [World.size_alloc, World.size_alloc] at this
      exact this
    have HR := Lib.hid hR
    have hP : Blk (((w.alloc (.cells #[.int .i64 st, .slice a1 xs.length c1, .slice a2 ys.length c2, .slice a3 bs.length c3, .slice a4 ps.length c4] 50)).alloc (.cells #[.bool p.ring, .int .i64 p.pos, .string p.text] 101)).alloc (.cells #[.int .i64 0, .slice none 0 0, .slice none 0 0, .slice none 0 0, .slice none 0 0] 50)) (w.heap.size + 1) #[.bool p.ring, .int .i64 p.pos, .string p.text] 101 := by
      have := Blk.new (w.alloc (.cells #[.int .i64 st, .slice a1 xs.length c1, .slice a2 ys.length c2, .slice a3 bs.length c3, .slice a4 ps.length c4] 50)) #[.bool p.ring, .int .i64 p.pos, .string p.text] 101
      rw [World.size_alloc] at this
      exact this.below (n := w.heap.size + 2) ((Below.refl _ _).alloc (by simp) _) (by omega)
    have HP := Lib.hid hP
    have hs2 : (((w.alloc (.cells #[.int .i64 st, .slice a1 xs.length c1, .slice a2 ys.length c2, .slice a3 bs.length c3, .slice a4 ps.length c4] 50)).alloc (.cells #[.bool p.ring, .int .i64 p.pos, .string p.text] 101)).alloc (.cells #[.int .i64 0, .slice none 0 0, .slice none 0 0, .slice none 0 0, .slice none 0 0] 50)).heap.size = w.heap.size + 3 := by simp
    have Hs2 := Lib.hid hs2
    clear hB hR hs2 hP
    go_enter Tryz.func75, Tryz.ntmps75
    go_wp2_with fail
    generalize (((w.alloc (.cells #[.int .i64 st, .slice a1 xs.length c1, .slice a2 ys.length c2, .slice a3 bs.length c3, .slice a4 ps.length c4] 50)).alloc (.cells #[.bool p.ring, .int .i64 p.pos, .string p.text] 101)).alloc (.cells #[.int .i64 0, .slice none 0 0, .slice none 0 0, .slice none 0 0, .slice none 0 0] 50)) = W at HB HR HP Hs2 ⊢
    refine (HDr.out _ HB.out).mono ?_
    rintro e w1 ⟨rfl, hB1⟩
    have KR := Lib.hid (HR.out.below hB1 HR.out.lt)
    have B1 := Lib.hid (below_trans HB.out hB1 HB.out.size)
    obtain ⟨y0, y1, y2, y3, y4⟩ : w1.cell? ⟨w.heap.size + 2, 0, none⟩ = some (.int .i64 0) ∧ w1.cell? ⟨w.heap.size + 2, 1, none⟩ = some (.slice none 0 0) ∧ w1.cell? ⟨w.heap.size + 2, 2, none⟩ = some (.slice none 0 0) ∧ w1.cell? ⟨w.heap.size + 2, 3, none⟩ = some (.slice none 0 0) ∧ w1.cell? ⟨w.heap.size + 2, 4, none⟩ = some (.slice none 0 0) := ⟨(KR.out.cell 0), (KR.out.cell 1), (KR.out.cell 2), (KR.out.cell 3), (KR.out.cell 4)⟩
    have f0 := KR.out.frozen 0
    have f1 := KR.out.frozen 1
    have f2 := KR.out.frozen 2
    have f3 := KR.out.frozen 3
    have f4 := KR.out.frozen 4
    clear hB1
    go_wp2
    refine bodyPost_ret (v := .agg #[.int .i64 0, .slice none 0 0, .slice none 0 0, .slice none 0 0, .slice none 0 0]) (by simp [results, Tryz.results75, go_sem, y0, y1, y2, y3, y4]) rfl ⟨_, rfl, ?_, ?_⟩
    · exact ⟨_, _, _, _, rfl, ⟨rfl, .inl ⟨rfl, rfl⟩⟩, ⟨rfl, .inl ⟨rfl, rfl⟩⟩, ⟨rfl, .inl ⟨rfl, rfl⟩⟩, ⟨rfl, .inl ⟨rfl, rfl⟩⟩, fun i h => by cases h⟩
    · exact ((((B1.out.setCell (p := ⟨w.heap.size + 2, 0, none⟩) (by simp <;> omega) _).setCell (p := ⟨w.heap.size + 2, 1, none⟩) (by simp <;> omega) _).setCell (p := ⟨w.heap.size + 2, 2, none⟩) (by simp <;> omega) _).setCell (p := ⟨w.heap.size + 2, 3, none⟩) (by simp <;> omega) _).setCell (p := ⟨w.heap.size + 2, 4, none⟩) (by simp <;> omega) _


end Go.Proofs.YtcdiengbmjkglaaGreat

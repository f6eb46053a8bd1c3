/- 'laws.FnExactDiskPut' returns true at every argument: DiskPut of the program answers as DiskPut of the specification, field by field; it writes into no argument and keeps nothing of one; its answer owns its memory, behind another call too. Conditions: none. -/
import Derived.Test.YthhmpimnagnjfaaK
import Derived.Test.YthhmpimnagnjfaaG4
import Derived.Test.YthhmpimnagnjfaaGX
import Derived.Test.YthhmpimnagnjfaaHB
import Derived.Test.YthhmpimnagnjfaaV6
namespace Go.Proofs.Ythhmpimnagnjfaa
open Go.ChangeShapes Go.WideShapes Go.ChangeAt Go.RowKit Go.Sort
namespace FnExactDiskPut
set_option linter.unusedVariables false

def After (w wx : World) (s : Value) (r : DiskD) : Prop :=
  ∃ D cs, s = .pointer (some ⟨D, 0, none⟩) ∧ Hid (Blk wx D cs 28) ∧ Hid (OwnDisk wx w.heap.size (.agg cs) r) ∧ Hid (Below w.heap.size w wx)
theorem after_new {w w3 : World} {r : DiskD} {cs : Array Value} {base : Nat} (o : OwnDisk w3 base (.agg cs) r) (hb : w.heap.size ≤ base) (B : Below w.heap.size w w3) :
    After w (w3.alloc (.cells cs 28)) (.pointer (some ⟨w3.heap.size, 0, none⟩)) r :=
  ⟨_, cs, rfl, Blk.new _ _ _, (o.mono hb).below ((Below.refl _ _).alloc (Nat.le_refl _) _), below_trans B ((Below.refl _ _).alloc (Nat.le_refl _) _) B.size⟩
theorem below_set {n : Nat} {w w3 : World} (B : Below n w w3) (D j : Nat) (u : Value) (h : n ≤ D) : Below n w (w3.setCell ⟨D, j, none⟩ u) := by
  first
    | exact B.setCell h _
    | exact B.setCell _ _ h
    | exact B.trans (Below.setCell (Below.refl _ _) h _)
    | exact ⟨B.os, B.tape, B.output, by simpa using B.size, fun b hb => (Below.heap_setCell _ _ _ _ (by omega)).trans (B.block b hb)⟩
theorem after_set {w w3 : World} {r : DiskD} {x0 x1 x2 x3 x4 z0 z1 z2 z3 z4 : Value} {base D : Nat} (o : OwnDisk w3 base (.agg #[x0, x1, x2, x3, x4]) r) (hb : w.heap.size ≤ base) (B : Below w.heap.size w w3)
    (K : Blk w3 D #[z0, z1, z2, z3, z4] 28) (hD : w.heap.size ≤ D) (hDb : D < base) :
    After w (((((w3.setCell ⟨D, 0, none⟩ x0).setCell ⟨D, 1, none⟩ x1).setCell ⟨D, 2, none⟩ x2).setCell ⟨D, 3, none⟩ x3).setCell ⟨D, 4, none⟩ x4) (.pointer (some ⟨D, 0, none⟩)) r :=
  ⟨D, #[x0, x1, x2, x3, x4], rfl, ((((K.set 0 x0).set 1 x1).set 2 x2).set 3 x3).set 4 x4, (((((o.far D 0 x0 hDb).far D 1 x1 hDb).far D 2 x2 hDb).far D 3 x3 hDb).far D 4 x4 hDb).mono hb,
    below_set (below_set (below_set (below_set (below_set B D 0 x0 hD) D 1 x1 hD) D 2 x2 hD) D 3 x3 hD) D 4 x4 hD⟩
theorem blk5 {w : World} {D : Nat} {z0 z1 z2 z3 z4 : Value} {t : TypeId} (K : Blk w D #[z0, z1, z2, z3, z4] t) :
    w.cell? ⟨D, 0, none⟩ = some z0 ∧ w.cell? ⟨D, 1, none⟩ = some z1 ∧ w.cell? ⟨D, 2, none⟩ = some z2 ∧ w.cell? ⟨D, 3, none⟩ = some z3 ∧ w.cell? ⟨D, 4, none⟩ = some z4 ∧
      w.frozen? ⟨D, 0, none⟩ = false ∧ w.frozen? ⟨D, 1, none⟩ = false ∧ w.frozen? ⟨D, 2, none⟩ = false ∧ w.frozen? ⟨D, 3, none⟩ = false ∧ w.frozen? ⟨D, 4, none⟩ = false :=
  ⟨K.cell 0, K.cell 1, K.cell 2, K.cell 3, K.cell 4, K.frozen 0, K.frozen 1, K.frozen 2, K.frozen 3, K.frozen 4⟩
theorem st5 {w3 : World} {D : Nat} {cs : Array Value} {t : TypeId} (K : Blk w3 D cs t) (x0 x1 x2 x3 x4 : Value) :
    Below D w3 (((((w3.setCell ⟨D, 0, none⟩ x0).setCell ⟨D, 1, none⟩ x1).setCell ⟨D, 2, none⟩ x2).setCell ⟨D, 3, none⟩ x3).setCell ⟨D, 4, none⟩ x4) :=
  below_set (below_set (below_set (below_set (below_set (Below.refl _ _) D 0 x0 (Nat.le_refl _)) D 1 x1 (Nat.le_refl _)) D 2 x2 (Nat.le_refl _)) D 3 x3 (Nat.le_refl _)) D 4 x4 (Nat.le_refl _)
theorem blk5c {w : World} {D : Nat} {z0 z1 z2 z3 z4 : Value} {t : TypeId} (K : Blk w D #[z0, z1, z2, z3, z4] t) :
    w.cell? ⟨D, 0, none⟩ = some z0 ∧ w.cell? ⟨D, 1, none⟩ = some z1 ∧ w.cell? ⟨D, 2, none⟩ = some z2 ∧ w.cell? ⟨D, 3, none⟩ = some z3 ∧ w.cell? ⟨D, 4, none⟩ = some z4 :=
  ⟨K.cell 0, K.cell 1, K.cell 2, K.cell 3, K.cell 4⟩
theorem blk3c {w : World} {D : Nat} {z0 z1 z2 : Value} {t : TypeId} (K : Blk w D #[z0, z1, z2] t) :
    w.cell? ⟨D, 0, none⟩ = some z0 ∧ w.cell? ⟨D, 1, none⟩ = some z1 ∧ w.cell? ⟨D, 2, none⟩ = some z2 :=
  ⟨K.cell 0, K.cell 1, K.cell 2⟩
theorem al_step {n : Nat} {w W : World} (h : Below n w W) (o : Obj) : Below W.heap.size W (W.alloc o) := (Below.refl _ _).alloc (Nat.le_refl _) o
theorem al_new {n : Nat} {w W : World} (h : Below n w W) (cs : Array Value) (t : TypeId) : Blk (W.alloc (.cells cs t)) W.heap.size cs t := Blk.new W cs t

theorem small_marks {d : DiskD} (h : DiskSmall d) : 1 + mkN d ≤ 100000000 := by
  have h1 := h.1.1
  have h2 := h.2.1.1
  have h3 := h.2.2.1
  have h4 := h.2.2.2.1
  unfold mkN
  omega

set_option maxRecDepth 100000 in
set_option maxHeartbeats 4000000 in
theorem main (v : Value) (d r : DiskD) (p : PutD) (w : World) (hv : DiskV w v d) (hb : DiskBd d) (hpz : p.text.size ≤ maxLen) (hr : 1 + mkN r ≤ 1000)
    (HS : Hid (∀ (u : Value) (W : World), DiskV W u d → Calls Try.prog 26 #[u, .agg #[.bool p.ring, .int .i64 p.pos, .string p.text]] W (NewDisk r W)))
    (HI : Hid (∀ (u : Value) (W : World), DiskV W u d → Calls Try.prog 25 #[u, .agg #[.bool p.ring, .int .i64 p.pos, .string p.text]] W (NewDisk r W))) :
    Calls Try.prog 14 #[v, .agg #[.bool p.ring, .int .i64 p.pos, .string p.text]] w fun e w' => e = .returned (.bool true) ∧ Below w.heap.size w w' := by
  have HV := Lib.hid hv
  have Hb := Lib.hid hb
  obtain ⟨_, _, _, _, rfl, ⟨o1, c1, rfl, _⟩, ⟨o2, c2, rfl, _⟩, ⟨o3, c3, rfl, _⟩, ⟨o4, c4, rfl, _⟩⟩ := hv
  have hAl := Lib.hid (show Below w.heap.size w ((w.alloc (.cells #[.int .i64 d.state, .slice o1 d.slots.length c1, .slice o2 d.rings.length c2, .slice o3 d.spoilt.length c3, .slice o4 d.wait.length c4] 55)).alloc (.cells #[.bool p.ring, .int .i64 p.pos, .string p.text] 60)) from ((Below.refl _ _).alloc (Nat.le_refl _) _).alloc (by simp) _)
  have KO := Lib.hid (show Blk ((w.alloc (.cells #[.int .i64 d.state, .slice o1 d.slots.length c1, .slice o2 d.rings.length c2, .slice o3 d.spoilt.length c3, .slice o4 d.wait.length c4] 55)).alloc (.cells #[.bool p.ring, .int .i64 p.pos, .string p.text] 60)) w.heap.size #[.int .i64 d.state, .slice o1 d.slots.length c1, .slice o2 d.rings.length c2, .slice o3 d.spoilt.length c3, .slice o4 d.wait.length c4] 55 from (Blk.new w _ _).below (n := w.heap.size + 1) ((Below.refl _ _).alloc (by simp) _) (by omega))
  have KQ := Lib.hid (show Blk ((w.alloc (.cells #[.int .i64 d.state, .slice o1 d.slots.length c1, .slice o2 d.rings.length c2, .slice o3 d.spoilt.length c3, .slice o4 d.wait.length c4] 55)).alloc (.cells #[.bool p.ring, .int .i64 p.pos, .string p.text] 60)) (w.heap.size + 1) #[.bool p.ring, .int .i64 p.pos, .string p.text] 60 by
    have := Blk.new (w.alloc (.cells #[.int .i64 d.state, .slice o1 d.slots.length c1, .slice o2 d.rings.length c2, .slice o3 d.spoilt.length c3, .slice o4 d.wait.length c4] 55)) #[.bool p.ring, .int .i64 p.pos, .string p.text] 60
    rw [World.size_alloc] at this
    exact this)
  have HM := Lib.hid (fun base v W h1 ho => markDisk_any base 1 v r W h1 (by omega) (by omega) ho)
  have HH := Lib.hid (fun v W hv => heldDisk_any 1 v r W (by omega) (by omega) hv)
  have dm1 : decide (((1 + mkN r : Nat) : Int) < 0) = false := decide_eq_false (by omega)
  have dm2 : (((1 + mkN r : Nat) : Int) != ((1 + mkN r : Nat) : Int)) = false := by simp
  generalize 1 + mkN r = m at HM HH dm1 dm2
  clear hb hr
  go_enter Try.func14, Try.ntmps14
  go_wp2_with fail
  generalize ((w.alloc (.cells #[.int .i64 d.state, .slice o1 d.slots.length c1, .slice o2 d.rings.length c2, .slice o3 d.spoilt.length c3, .slice o4 d.wait.length c4] 55)).alloc (.cells #[.bool p.ring, .int .i64 p.pos, .string p.text] 60)) = W0 at hAl KO KQ ⊢
  refine (szDisk_any _ _ 1048576 _ (HV.out.below hAl.out) Hb.out (Nat.le_refl _)).mono ?_
  rintro e w1 ⟨he, hB1⟩
  have B := hAl
  have KO := Lib.hid (KO.out.below hB1 KO.out.lt)
  have KQ := Lib.hid (KQ.out.below hB1 KQ.out.lt)
  have B := Lib.hid (below_trans B.out hB1 B.out.size)
  clear hB1
  obtain ⟨p0, p1, p2, p3, p4⟩ : w1.cell? ⟨w.heap.size, 0, none⟩ = some (.int .i64 d.state) ∧ w1.cell? ⟨w.heap.size, 1, none⟩ = some (.slice o1 d.slots.length c1) ∧ w1.cell? ⟨w.heap.size, 2, none⟩ = some (.slice o2 d.rings.length c2) ∧ w1.cell? ⟨w.heap.size, 3, none⟩ = some (.slice o3 d.spoilt.length c3) ∧ w1.cell? ⟨w.heap.size, 4, none⟩ = some (.slice o4 d.wait.length c4) := ⟨(KO.out.cell 0), (KO.out.cell 1), (KO.out.cell 2), (KO.out.cell 3), (KO.out.cell 4)⟩
  rcases he with rfl | ⟨lf, rfl, hlf, hsm⟩
  · go_wp2
    go_ret
    exact ⟨rfl, B.out⟩
  · have d0 : decide ((lf : Int) < 0) = false := by simp
    have HSm := Lib.hid hsm
    have HMx := Lib.hid (fun base v W h1 ho => markDisk_keeps base 1 v d W h1 (by omega) (small_marks hsm) ho)
    have dx : decide (((1 + mkN d : Nat) : Int) < 0) = false := decide_eq_false (by omega)
    generalize 1 + mkN d = mx at HMx dx
    clear hsm
    clear p0 p1 p2 p3 p4
    obtain ⟨n0, n1, n2⟩ : w1.cell? ⟨w.heap.size + 1, 0, none⟩ = some (.bool p.ring) ∧ w1.cell? ⟨w.heap.size + 1, 1, none⟩ = some (.int .i64 p.pos) ∧ w1.cell? ⟨w.heap.size + 1, 2, none⟩ = some (.string p.text) := ⟨KQ.out.cell 0, KQ.out.cell 1, KQ.out.cell 2⟩
    go_wp2_with fail
    refine (szPut_any p.ring p.pos p.text lf _ hpz (by omega)).mono ?_
    rintro e w1b ⟨he, hB1b⟩
    have KO := Lib.hid (KO.out.below hB1b KO.out.lt)
    have KQ := Lib.hid (KQ.out.below hB1b KQ.out.lt)
    have B := Lib.hid (below_trans B.out hB1b B.out.size)
    clear hB1b n0 n1 n2
    rcases he with rfl | ⟨lf2, rfl, hlf2, hpsm⟩
    · go_wp2
      go_ret
      exact ⟨rfl, B.out⟩
    have d0b : decide ((lf2 : Int) < 0) = false := by simp
    clear hlf2 hlf hpsm
    obtain ⟨p0, p1, p2, p3, p4⟩ : w1b.cell? ⟨w.heap.size, 0, none⟩ = some (.int .i64 d.state) ∧ w1b.cell? ⟨w.heap.size, 1, none⟩ = some (.slice o1 d.slots.length c1) ∧ w1b.cell? ⟨w.heap.size, 2, none⟩ = some (.slice o2 d.rings.length c2) ∧ w1b.cell? ⟨w.heap.size, 3, none⟩ = some (.slice o3 d.spoilt.length c3) ∧ w1b.cell? ⟨w.heap.size, 4, none⟩ = some (.slice o4 d.wait.length c4) := ⟨(KO.out.cell 0), (KO.out.cell 1), (KO.out.cell 2), (KO.out.cell 3), (KO.out.cell 4)⟩
    obtain ⟨n0, n1, n2⟩ : w1b.cell? ⟨w.heap.size + 1, 0, none⟩ = some (.bool p.ring) ∧ w1b.cell? ⟨w.heap.size + 1, 1, none⟩ = some (.int .i64 p.pos) ∧ w1b.cell? ⟨w.heap.size + 1, 2, none⟩ = some (.string p.text) := ⟨KQ.out.cell 0, KQ.out.cell 1, KQ.out.cell 2⟩
    go_upto_region 8 with (fail)
    go_cut [6] (fun sx WA => After w1b WA sx r)
    case first =>
      have cur : Hid (Below w1b.heap.size w1b w1b.drew) := (Below.refl _ _).drew
      have KO := Lib.hid (KO.out.below (Below.refl _ w1b).drew KO.out.lt)
      have KQ := Lib.hid (KQ.out.below (Below.refl _ w1b).drew KQ.out.lt)
      go_region_held3 (fun w' => (w'.cell? ⟨w.heap.size, 0, none⟩ = some (.int .i64 d.state) ∧ w'.cell? ⟨w.heap.size, 1, none⟩ = some (.slice o1 d.slots.length c1) ∧ w'.cell? ⟨w.heap.size, 2, none⟩ = some (.slice o2 d.rings.length c2) ∧ w'.cell? ⟨w.heap.size, 3, none⟩ = some (.slice o3 d.spoilt.length c3) ∧ w'.cell? ⟨w.heap.size, 4, none⟩ = some (.slice o4 d.wait.length c4)) ∧ w'.cell? ⟨w.heap.size + 1, 0, none⟩ = some (.bool p.ring) ∧ w'.cell? ⟨w.heap.size + 1, 1, none⟩ = some (.int .i64 p.pos) ∧ w'.cell? ⟨w.heap.size + 1, 2, none⟩ = some (.string p.text)) (first | with_reducible exact mm | with_reducible exact ms | go_keep)
        (first
          | (go_at_call 43; have hal := al_step cur.out (.cells #[.int .i64 0, .slice none 0 0, .slice none 0 0, .slice none 0 0, .slice none 0 0] 28); (first | (have cur0 : Hid (Below w1b.heap.size w1b w1b.drew) := cur; clear cur0; have KZ := Lib.hid (show Blk (w1b.drew.alloc (.cells #[.int .i64 0, .slice none 0 0, .slice none 0 0, .slice none 0 0, .slice none 0 0] 28)) w1b.heap.size #[.int .i64 0, .slice none 0 0, .slice none 0 0, .slice none 0 0, .slice none 0 0] 28 from al_new cur.out #[.int .i64 0, .slice none 0 0, .slice none 0 0, .slice none 0 0, .slice none 0 0] 28); have hD := Lib.hid (show w1b.heap.size ≤ w1b.heap.size from Nat.le_refl _); have hDO := Lib.hid (show w.heap.size < w1b.heap.size from KO.out.lt); have hDQ := Lib.hid (show w.heap.size + 1 < w1b.heap.size from KQ.out.lt)) | (have KZ := Lib.hid (al_new cur.out #[.int .i64 0, .slice none 0 0, .slice none 0 0, .slice none 0 0, .slice none 0 0] 28); have hD := Lib.hid cur.out.size; have hDO := Lib.hid KO.out.lt; have hDQ := Lib.hid KQ.out.lt)); have KO := Lib.hid (KO.out.below hal KO.out.lt); have KQ := Lib.hid (KQ.out.below hal KQ.out.lt); (try (have V2 := Lib.hid (V2.out.below hal))); have cur := Lib.hid (below_trans cur.out hal cur.out.size); clear hal; refine (toDisk_any _ _ _ HSm (HV.out.below (below_trans B.out cur.out B.out.size))).mono ?_; rintro e wa ⟨va, rfl, ow, hBa⟩; have hx := ow.reads; obtain ⟨_, _, _, _, rfl, ⟨z1, j1, rfl, _⟩, ⟨z2, j2, rfl, _⟩, ⟨z3, j3, rfl, _⟩, ⟨z4, j4, rfl, _⟩⟩ := hx; have KO := Lib.hid (KO.out.below hBa KO.out.lt); have KQ := Lib.hid (KQ.out.below hBa KQ.out.lt); (try (have KZ := Lib.hid (KZ.out.below hBa KZ.out.lt))); (try (have V2 := Lib.hid (V2.out.below hBa))); have cur := Lib.hid (below_trans cur.out hBa cur.out.size); have V2 := Lib.hid ow.reads; have mm := (⟨⟨(KO.out.cell 0), (KO.out.cell 1), (KO.out.cell 2), (KO.out.cell 3), (KO.out.cell 4)⟩, KQ.out.cell 0, KQ.out.cell 1, KQ.out.cell 2⟩ : (wa.cell? ⟨w.heap.size, 0, none⟩ = some (.int .i64 d.state) ∧ wa.cell? ⟨w.heap.size, 1, none⟩ = some (.slice o1 d.slots.length c1) ∧ wa.cell? ⟨w.heap.size, 2, none⟩ = some (.slice o2 d.rings.length c2) ∧ wa.cell? ⟨w.heap.size, 3, none⟩ = some (.slice o3 d.spoilt.length c3) ∧ wa.cell? ⟨w.heap.size, 4, none⟩ = some (.slice o4 d.wait.length c4)) ∧ wa.cell? ⟨w.heap.size + 1, 0, none⟩ = some (.bool p.ring) ∧ wa.cell? ⟨w.heap.size + 1, 1, none⟩ = some (.int .i64 p.pos) ∧ wa.cell? ⟨w.heap.size + 1, 2, none⟩ = some (.string p.text)); clear ow hBa)
          | (go_at_call 43; refine (toDisk_any _ _ _ HSm (HV.out.below (below_trans B.out cur.out B.out.size))).mono ?_; rintro e wa ⟨va, rfl, ow, hBa⟩; have hx := ow.reads; obtain ⟨_, _, _, _, rfl, ⟨z1, j1, rfl, _⟩, ⟨z2, j2, rfl, _⟩, ⟨z3, j3, rfl, _⟩, ⟨z4, j4, rfl, _⟩⟩ := hx; have KO := Lib.hid (KO.out.below hBa KO.out.lt); have KQ := Lib.hid (KQ.out.below hBa KQ.out.lt); (try (have KZ := Lib.hid (KZ.out.below hBa KZ.out.lt))); (try (have V2 := Lib.hid (V2.out.below hBa))); have cur := Lib.hid (below_trans cur.out hBa cur.out.size); have V2 := Lib.hid ow.reads; have mm := (⟨⟨(KO.out.cell 0), (KO.out.cell 1), (KO.out.cell 2), (KO.out.cell 3), (KO.out.cell 4)⟩, KQ.out.cell 0, KQ.out.cell 1, KQ.out.cell 2⟩ : (wa.cell? ⟨w.heap.size, 0, none⟩ = some (.int .i64 d.state) ∧ wa.cell? ⟨w.heap.size, 1, none⟩ = some (.slice o1 d.slots.length c1) ∧ wa.cell? ⟨w.heap.size, 2, none⟩ = some (.slice o2 d.rings.length c2) ∧ wa.cell? ⟨w.heap.size, 3, none⟩ = some (.slice o3 d.spoilt.length c3) ∧ wa.cell? ⟨w.heap.size, 4, none⟩ = some (.slice o4 d.wait.length c4)) ∧ wa.cell? ⟨w.heap.size + 1, 0, none⟩ = some (.bool p.ring) ∧ wa.cell? ⟨w.heap.size + 1, 1, none⟩ = some (.int .i64 p.pos) ∧ wa.cell? ⟨w.heap.size + 1, 2, none⟩ = some (.string p.text)); clear ow hBa)
          | (go_at_call 46; have hal := al_step cur.out (.cells #[.int .i64 0, .slice none 0 0, .slice none 0 0, .slice none 0 0, .slice none 0 0] 28); (first | (have cur0 : Hid (Below w1b.heap.size w1b w1b.drew) := cur; clear cur0; have KZ := Lib.hid (show Blk (w1b.drew.alloc (.cells #[.int .i64 0, .slice none 0 0, .slice none 0 0, .slice none 0 0, .slice none 0 0] 28)) w1b.heap.size #[.int .i64 0, .slice none 0 0, .slice none 0 0, .slice none 0 0, .slice none 0 0] 28 from al_new cur.out #[.int .i64 0, .slice none 0 0, .slice none 0 0, .slice none 0 0, .slice none 0 0] 28); have hD := Lib.hid (show w1b.heap.size ≤ w1b.heap.size from Nat.le_refl _); have hDO := Lib.hid (show w.heap.size < w1b.heap.size from KO.out.lt); have hDQ := Lib.hid (show w.heap.size + 1 < w1b.heap.size from KQ.out.lt)) | (have KZ := Lib.hid (al_new cur.out #[.int .i64 0, .slice none 0 0, .slice none 0 0, .slice none 0 0, .slice none 0 0] 28); have hD := Lib.hid cur.out.size; have hDO := Lib.hid KO.out.lt; have hDQ := Lib.hid KQ.out.lt)); have KO := Lib.hid (KO.out.below hal KO.out.lt); have KQ := Lib.hid (KQ.out.below hal KQ.out.lt); (try (have V2 := Lib.hid (V2.out.below hal))); have cur := Lib.hid (below_trans cur.out hal cur.out.size); clear hal; refine (toPut_any p.ring p.pos p.text _).mono ?_; rintro e wb ⟨rfl, hBb⟩; have KO := Lib.hid (KO.out.below hBb KO.out.lt); have KQ := Lib.hid (KQ.out.below hBb KQ.out.lt); (try (have KZ := Lib.hid (KZ.out.below hBb KZ.out.lt))); (try (have V2 := Lib.hid (V2.out.below hBb))); have cur := Lib.hid (below_trans cur.out hBb cur.out.size); have mm := (⟨⟨(KO.out.cell 0), (KO.out.cell 1), (KO.out.cell 2), (KO.out.cell 3), (KO.out.cell 4)⟩, KQ.out.cell 0, KQ.out.cell 1, KQ.out.cell 2⟩ : (wb.cell? ⟨w.heap.size, 0, none⟩ = some (.int .i64 d.state) ∧ wb.cell? ⟨w.heap.size, 1, none⟩ = some (.slice o1 d.slots.length c1) ∧ wb.cell? ⟨w.heap.size, 2, none⟩ = some (.slice o2 d.rings.length c2) ∧ wb.cell? ⟨w.heap.size, 3, none⟩ = some (.slice o3 d.spoilt.length c3) ∧ wb.cell? ⟨w.heap.size, 4, none⟩ = some (.slice o4 d.wait.length c4)) ∧ wb.cell? ⟨w.heap.size + 1, 0, none⟩ = some (.bool p.ring) ∧ wb.cell? ⟨w.heap.size + 1, 1, none⟩ = some (.int .i64 p.pos) ∧ wb.cell? ⟨w.heap.size + 1, 2, none⟩ = some (.string p.text)); clear hBb)
          | (go_at_call 46; refine (toPut_any p.ring p.pos p.text _).mono ?_; rintro e wb ⟨rfl, hBb⟩; have KO := Lib.hid (KO.out.below hBb KO.out.lt); have KQ := Lib.hid (KQ.out.below hBb KQ.out.lt); (try (have KZ := Lib.hid (KZ.out.below hBb KZ.out.lt))); (try (have V2 := Lib.hid (V2.out.below hBb))); have cur := Lib.hid (below_trans cur.out hBb cur.out.size); have mm := (⟨⟨(KO.out.cell 0), (KO.out.cell 1), (KO.out.cell 2), (KO.out.cell 3), (KO.out.cell 4)⟩, KQ.out.cell 0, KQ.out.cell 1, KQ.out.cell 2⟩ : (wb.cell? ⟨w.heap.size, 0, none⟩ = some (.int .i64 d.state) ∧ wb.cell? ⟨w.heap.size, 1, none⟩ = some (.slice o1 d.slots.length c1) ∧ wb.cell? ⟨w.heap.size, 2, none⟩ = some (.slice o2 d.rings.length c2) ∧ wb.cell? ⟨w.heap.size, 3, none⟩ = some (.slice o3 d.spoilt.length c3) ∧ wb.cell? ⟨w.heap.size, 4, none⟩ = some (.slice o4 d.wait.length c4)) ∧ wb.cell? ⟨w.heap.size + 1, 0, none⟩ = some (.bool p.ring) ∧ wb.cell? ⟨w.heap.size + 1, 1, none⟩ = some (.int .i64 p.pos) ∧ wb.cell? ⟨w.heap.size + 1, 2, none⟩ = some (.string p.text)); clear hBb)
          | (go_at_call 26; have hal := al_step cur.out (.cells #[.int .i64 0, .slice none 0 0, .slice none 0 0, .slice none 0 0, .slice none 0 0] 28); (first | (have cur0 : Hid (Below w1b.heap.size w1b w1b.drew) := cur; clear cur0; have KZ := Lib.hid (show Blk (w1b.drew.alloc (.cells #[.int .i64 0, .slice none 0 0, .slice none 0 0, .slice none 0 0, .slice none 0 0] 28)) w1b.heap.size #[.int .i64 0, .slice none 0 0, .slice none 0 0, .slice none 0 0, .slice none 0 0] 28 from al_new cur.out #[.int .i64 0, .slice none 0 0, .slice none 0 0, .slice none 0 0, .slice none 0 0] 28); have hD := Lib.hid (show w1b.heap.size ≤ w1b.heap.size from Nat.le_refl _); have hDO := Lib.hid (show w.heap.size < w1b.heap.size from KO.out.lt); have hDQ := Lib.hid (show w.heap.size + 1 < w1b.heap.size from KQ.out.lt)) | (have KZ := Lib.hid (al_new cur.out #[.int .i64 0, .slice none 0 0, .slice none 0 0, .slice none 0 0, .slice none 0 0] 28); have hD := Lib.hid cur.out.size; have hDO := Lib.hid KO.out.lt; have hDQ := Lib.hid KQ.out.lt)); have KO := Lib.hid (KO.out.below hal KO.out.lt); have KQ := Lib.hid (KQ.out.below hal KQ.out.lt); (try (have V2 := Lib.hid (V2.out.below hal))); have cur := Lib.hid (below_trans cur.out hal cur.out.size); clear hal; refine (HS.out _ _ V2.out).mono ?_; rintro e wc ⟨vc, rfl, ow, hBc⟩; have hx := ow.reads; obtain ⟨_, _, _, _, rfl, ⟨a1, m1, rfl, _⟩, ⟨a2, m2, rfl, _⟩, ⟨a3, m3, rfl, _⟩, ⟨a4, m4, rfl, _⟩⟩ := hx; have OW := Lib.hid ow; have hbb := Lib.hid cur.out.size; (try (have hDb := Lib.hid KZ.out.lt)); have KO := Lib.hid (KO.out.below hBc KO.out.lt); have KQ := Lib.hid (KQ.out.below hBc KQ.out.lt); (try (have KZ := Lib.hid (KZ.out.below hBc KZ.out.lt))); (try (have V2 := Lib.hid (V2.out.below hBc))); have cur := Lib.hid (below_trans cur.out hBc cur.out.size); (try (have kz := KZ.out; have hst := st5 kz (.int .i64 r.state) (.slice a1 r.slots.length m1) (.slice a2 r.rings.length m2) (.slice a3 r.spoilt.length m3) (.slice a4 r.wait.length m4); have ms := And.intro (blk5c (KO.out.below hst hDO.out)) (blk3c (KQ.out.below hst hDQ.out)); obtain ⟨b0, b1, b2, b3, b4, f0, f1, f2, f3, f4⟩ := blk5 kz; clear kz hst)); have mm := (⟨⟨(KO.out.cell 0), (KO.out.cell 1), (KO.out.cell 2), (KO.out.cell 3), (KO.out.cell 4)⟩, KQ.out.cell 0, KQ.out.cell 1, KQ.out.cell 2⟩ : (wc.cell? ⟨w.heap.size, 0, none⟩ = some (.int .i64 d.state) ∧ wc.cell? ⟨w.heap.size, 1, none⟩ = some (.slice o1 d.slots.length c1) ∧ wc.cell? ⟨w.heap.size, 2, none⟩ = some (.slice o2 d.rings.length c2) ∧ wc.cell? ⟨w.heap.size, 3, none⟩ = some (.slice o3 d.spoilt.length c3) ∧ wc.cell? ⟨w.heap.size, 4, none⟩ = some (.slice o4 d.wait.length c4)) ∧ wc.cell? ⟨w.heap.size + 1, 0, none⟩ = some (.bool p.ring) ∧ wc.cell? ⟨w.heap.size + 1, 1, none⟩ = some (.int .i64 p.pos) ∧ wc.cell? ⟨w.heap.size + 1, 2, none⟩ = some (.string p.text)); clear ow hBc)
          | (go_at_call 26; refine (HS.out _ _ V2.out).mono ?_; rintro e wc ⟨vc, rfl, ow, hBc⟩; have hx := ow.reads; obtain ⟨_, _, _, _, rfl, ⟨a1, m1, rfl, _⟩, ⟨a2, m2, rfl, _⟩, ⟨a3, m3, rfl, _⟩, ⟨a4, m4, rfl, _⟩⟩ := hx; have OW := Lib.hid ow; have hbb := Lib.hid cur.out.size; (try (have hDb := Lib.hid KZ.out.lt)); have KO := Lib.hid (KO.out.below hBc KO.out.lt); have KQ := Lib.hid (KQ.out.below hBc KQ.out.lt); (try (have KZ := Lib.hid (KZ.out.below hBc KZ.out.lt))); (try (have V2 := Lib.hid (V2.out.below hBc))); have cur := Lib.hid (below_trans cur.out hBc cur.out.size); (try (have kz := KZ.out; have hst := st5 kz (.int .i64 r.state) (.slice a1 r.slots.length m1) (.slice a2 r.rings.length m2) (.slice a3 r.spoilt.length m3) (.slice a4 r.wait.length m4); have ms := And.intro (blk5c (KO.out.below hst hDO.out)) (blk3c (KQ.out.below hst hDQ.out)); obtain ⟨b0, b1, b2, b3, b4, f0, f1, f2, f3, f4⟩ := blk5 kz; clear kz hst)); have mm := (⟨⟨(KO.out.cell 0), (KO.out.cell 1), (KO.out.cell 2), (KO.out.cell 3), (KO.out.cell 4)⟩, KQ.out.cell 0, KQ.out.cell 1, KQ.out.cell 2⟩ : (wc.cell? ⟨w.heap.size, 0, none⟩ = some (.int .i64 d.state) ∧ wc.cell? ⟨w.heap.size, 1, none⟩ = some (.slice o1 d.slots.length c1) ∧ wc.cell? ⟨w.heap.size, 2, none⟩ = some (.slice o2 d.rings.length c2) ∧ wc.cell? ⟨w.heap.size, 3, none⟩ = some (.slice o3 d.spoilt.length c3) ∧ wc.cell? ⟨w.heap.size, 4, none⟩ = some (.slice o4 d.wait.length c4)) ∧ wc.cell? ⟨w.heap.size + 1, 0, none⟩ = some (.bool p.ring) ∧ wc.cell? ⟨w.heap.size + 1, 1, none⟩ = some (.int .i64 p.pos) ∧ wc.cell? ⟨w.heap.size + 1, 2, none⟩ = some (.string p.text)); clear ow hBc))
      all_goals
        go_wp2
        go_meet
        first
          | with_reducible exact after_new OW.out hbb.out cur.out
          | with_reducible exact after_set OW.out hbb.out cur.out KZ.out hD.out hDb.out
    case rest =>
    obtain ⟨WA, e0⟩ : ∃ x, x = wc := ⟨_, rfl⟩
    subst e0
    obtain ⟨D, cs, rfl, KA, HA, hB3⟩ := hcut
    have hx := HA.out.reads
    obtain ⟨_, _, _, _, ⟨⟩, ⟨a1, m1, rfl, _⟩, ⟨a2, m2, rfl, _⟩, ⟨a3, m3, rfl, _⟩, ⟨a4, m4, rfl, _⟩⟩ := hx
    have V3 := Lib.hid HA.out.reads
    clear HA p0 p1 p2 p3 p4 n0 n1 n2
    have KO := Lib.hid (KO.out.below hB3.out KO.out.lt)
    have KQ := Lib.hid (KQ.out.below hB3.out KQ.out.lt)
    have B := Lib.hid (below_trans B.out hB3.out B.out.size)
    have C : Hid (Below WA.heap.size WA WA) := Below.refl _ _
    clear hB3
    obtain ⟨p0, p1, p2, p3, p4⟩ : WA.cell? ⟨w.heap.size, 0, none⟩ = some (.int .i64 d.state) ∧ WA.cell? ⟨w.heap.size, 1, none⟩ = some (.slice o1 d.slots.length c1) ∧ WA.cell? ⟨w.heap.size, 2, none⟩ = some (.slice o2 d.rings.length c2) ∧ WA.cell? ⟨w.heap.size, 3, none⟩ = some (.slice o3 d.spoilt.length c3) ∧ WA.cell? ⟨w.heap.size, 4, none⟩ = some (.slice o4 d.wait.length c4) := ⟨(KO.out.cell 0), (KO.out.cell 1), (KO.out.cell 2), (KO.out.cell 3), (KO.out.cell 4)⟩
    go_wp2_with fail
    refine (toDisk_any _ _ _ HSm (HV.out.below B.out)).mono ?_
    rintro e w4 ⟨v4, rfl, o4, hB4⟩
    have hx := o4.reads
    obtain ⟨_, _, _, _, rfl, ⟨x1, e1, rfl, _⟩, ⟨x2, e2, rfl, _⟩, ⟨x3, e3, rfl, _⟩, ⟨x4, e4, rfl, _⟩⟩ := hx
    have HX := Lib.hid o4
    have hAlA : WA.heap.size ≤ WA.heap.size := Nat.le_refl _
    have hW3 : w.heap.size ≤ WA.heap.size := B.out.size
    have hWA4 := hB4.size
    have KO := Lib.hid (KO.out.below hB4 KO.out.lt)
    have KQ := Lib.hid (KQ.out.below hB4 KQ.out.lt)
    have KA := Lib.hid (KA.out.below hB4 KA.out.lt)
    have B := Lib.hid (below_trans B.out hB4 B.out.size)
    have C := Lib.hid (below_trans C.out hB4 C.out.size)
    clear o4 hB4
    clear p0 p1 p2 p3 p4
    have hAl := Lib.hid (show Below w4.heap.size w4 (w4.alloc (.cells #[.int .i64 d.state, .slice x1 d.slots.length e1, .slice x2 d.rings.length e2, .slice x3 d.spoilt.length e3, .slice x4 d.wait.length e4] 28)) from (Below.refl _ _).alloc (Nat.le_refl _) _)
    have KX := Lib.hid (Blk.new w4 #[.int .i64 d.state, .slice x1 d.slots.length e1, .slice x2 d.rings.length e2, .slice x3 d.spoilt.length e3, .slice x4 d.wait.length e4] 28)
    have KO := Lib.hid (KO.out.below hAl.out KO.out.lt)
    have KQ := Lib.hid (KQ.out.below hAl.out KQ.out.lt)
    have KA := Lib.hid (KA.out.below hAl.out KA.out.lt)
    have B := Lib.hid (below_trans B.out hAl.out B.out.size)
    have C := Lib.hid (below_trans C.out hAl.out C.out.size)
    have HX := Lib.hid (HX.out.below hAl.out)
    obtain ⟨s0, s1, s2, s3, s4⟩ : (w4.alloc (.cells #[.int .i64 d.state, .slice x1 d.slots.length e1, .slice x2 d.rings.length e2, .slice x3 d.spoilt.length e3, .slice x4 d.wait.length e4] 28)).cell? ⟨w4.heap.size, 0, none⟩ = some (.int .i64 d.state) ∧ (w4.alloc (.cells #[.int .i64 d.state, .slice x1 d.slots.length e1, .slice x2 d.rings.length e2, .slice x3 d.spoilt.length e3, .slice x4 d.wait.length e4] 28)).cell? ⟨w4.heap.size, 1, none⟩ = some (.slice x1 d.slots.length e1) ∧ (w4.alloc (.cells #[.int .i64 d.state, .slice x1 d.slots.length e1, .slice x2 d.rings.length e2, .slice x3 d.spoilt.length e3, .slice x4 d.wait.length e4] 28)).cell? ⟨w4.heap.size, 2, none⟩ = some (.slice x2 d.rings.length e2) ∧ (w4.alloc (.cells #[.int .i64 d.state, .slice x1 d.slots.length e1, .slice x2 d.rings.length e2, .slice x3 d.spoilt.length e3, .slice x4 d.wait.length e4] 28)).cell? ⟨w4.heap.size, 3, none⟩ = some (.slice x3 d.spoilt.length e3) ∧ (w4.alloc (.cells #[.int .i64 d.state, .slice x1 d.slots.length e1, .slice x2 d.rings.length e2, .slice x3 d.spoilt.length e3, .slice x4 d.wait.length e4] 28)).cell? ⟨w4.heap.size, 4, none⟩ = some (.slice x4 d.wait.length e4) := ⟨(KX.out.cell 0), (KX.out.cell 1), (KX.out.cell 2), (KX.out.cell 3), (KX.out.cell 4)⟩
    obtain ⟨n0, n1, n2⟩ : (w4.alloc (.cells #[.int .i64 d.state, .slice x1 d.slots.length e1, .slice x2 d.rings.length e2, .slice x3 d.spoilt.length e3, .slice x4 d.wait.length e4] 28)).cell? ⟨w.heap.size + 1, 0, none⟩ = some (.bool p.ring) ∧ (w4.alloc (.cells #[.int .i64 d.state, .slice x1 d.slots.length e1, .slice x2 d.rings.length e2, .slice x3 d.spoilt.length e3, .slice x4 d.wait.length e4] 28)).cell? ⟨w.heap.size + 1, 1, none⟩ = some (.int .i64 p.pos) ∧ (w4.alloc (.cells #[.int .i64 d.state, .slice x1 d.slots.length e1, .slice x2 d.rings.length e2, .slice x3 d.spoilt.length e3, .slice x4 d.wait.length e4] 28)).cell? ⟨w.heap.size + 1, 2, none⟩ = some (.string p.text) := ⟨KQ.out.cell 0, KQ.out.cell 1, KQ.out.cell 2⟩
    go_upto_region 10 with (fail)
    generalize hWX : w4.alloc (.cells #[.int .i64 d.state, .slice x1 d.slots.length e1, .slice x2 d.rings.length e2, .slice x3 d.spoilt.length e3, .slice x4 d.wait.length e4] 28) = WX at n0 n1 n2 hAl KA KO KQ KX B C HX s0 s1 s2 s3 s4 ⊢
    have hX4 : w4.heap.size ≤ WX.heap.size := hAl.out.size
    have HXlt := Lib.hid (show ∀ cs, (Value.agg #[.int .i64 d.state, .slice x1 d.slots.length e1, .slice x2 d.rings.length e2, .slice x3 d.spoilt.length e3, .slice x4 d.wait.length e4]) = .agg cs → ∀ u ∈ cs.toList, ∀ E, u.ownBlock = some E → WA.heap.size ≤ E ∧ E < WX.heap.size from HX.out.rows_lt)
    clear hWX
    go_cut [8] (fun sx WG => After WX WG sx r)
    case first =>
      have cur : Hid (Below WX.heap.size WX WX.drew) := (Below.refl _ _).drew
      have KX := Lib.hid (KX.out.below (Below.refl _ WX).drew KX.out.lt)
      have KQ := Lib.hid (KQ.out.below (Below.refl _ WX).drew KQ.out.lt)
      have V2 := Lib.hid (HX.out.reads.below cur.out)
      go_region_held3 (fun w' => (w'.cell? ⟨w4.heap.size, 0, none⟩ = some (.int .i64 d.state) ∧ w'.cell? ⟨w4.heap.size, 1, none⟩ = some (.slice x1 d.slots.length e1) ∧ w'.cell? ⟨w4.heap.size, 2, none⟩ = some (.slice x2 d.rings.length e2) ∧ w'.cell? ⟨w4.heap.size, 3, none⟩ = some (.slice x3 d.spoilt.length e3) ∧ w'.cell? ⟨w4.heap.size, 4, none⟩ = some (.slice x4 d.wait.length e4)) ∧ w'.cell? ⟨w.heap.size + 1, 0, none⟩ = some (.bool p.ring) ∧ w'.cell? ⟨w.heap.size + 1, 1, none⟩ = some (.int .i64 p.pos) ∧ w'.cell? ⟨w.heap.size + 1, 2, none⟩ = some (.string p.text)) (first | with_reducible exact mm | with_reducible exact ms | go_keep)
        (first
          | (go_at_call 46; have hal := al_step cur.out (.cells #[.int .i64 0, .slice none 0 0, .slice none 0 0, .slice none 0 0, .slice none 0 0] 28); (first | (have cur0 : Hid (Below WX.heap.size WX WX.drew) := cur; clear cur0; have KZ := Lib.hid (show Blk (WX.drew.alloc (.cells #[.int .i64 0, .slice none 0 0, .slice none 0 0, .slice none 0 0, .slice none 0 0] 28)) WX.heap.size #[.int .i64 0, .slice none 0 0, .slice none 0 0, .slice none 0 0, .slice none 0 0] 28 from al_new cur.out #[.int .i64 0, .slice none 0 0, .slice none 0 0, .slice none 0 0, .slice none 0 0] 28); have hD := Lib.hid (show WX.heap.size ≤ WX.heap.size from Nat.le_refl _); have hDX := Lib.hid (show w4.heap.size < WX.heap.size from KX.out.lt); have hDQ := Lib.hid (show w.heap.size + 1 < WX.heap.size from KQ.out.lt)) | (have KZ := Lib.hid (al_new cur.out #[.int .i64 0, .slice none 0 0, .slice none 0 0, .slice none 0 0, .slice none 0 0] 28); have hD := Lib.hid cur.out.size; have hDX := Lib.hid KX.out.lt; have hDQ := Lib.hid KQ.out.lt)); have KX := Lib.hid (KX.out.below hal KX.out.lt); have KQ := Lib.hid (KQ.out.below hal KQ.out.lt); (try (have V2 := Lib.hid (V2.out.below hal))); have cur := Lib.hid (below_trans cur.out hal cur.out.size); clear hal; refine (toPut_any p.ring p.pos p.text _).mono ?_; rintro e wb ⟨rfl, hBb⟩; have KX := Lib.hid (KX.out.below hBb KX.out.lt); have KQ := Lib.hid (KQ.out.below hBb KQ.out.lt); (try (have KZ := Lib.hid (KZ.out.below hBb KZ.out.lt))); (try (have V2 := Lib.hid (V2.out.below hBb))); have cur := Lib.hid (below_trans cur.out hBb cur.out.size); have mm := (⟨⟨(KX.out.cell 0), (KX.out.cell 1), (KX.out.cell 2), (KX.out.cell 3), (KX.out.cell 4)⟩, KQ.out.cell 0, KQ.out.cell 1, KQ.out.cell 2⟩ : (wb.cell? ⟨w4.heap.size, 0, none⟩ = some (.int .i64 d.state) ∧ wb.cell? ⟨w4.heap.size, 1, none⟩ = some (.slice x1 d.slots.length e1) ∧ wb.cell? ⟨w4.heap.size, 2, none⟩ = some (.slice x2 d.rings.length e2) ∧ wb.cell? ⟨w4.heap.size, 3, none⟩ = some (.slice x3 d.spoilt.length e3) ∧ wb.cell? ⟨w4.heap.size, 4, none⟩ = some (.slice x4 d.wait.length e4)) ∧ wb.cell? ⟨w.heap.size + 1, 0, none⟩ = some (.bool p.ring) ∧ wb.cell? ⟨w.heap.size + 1, 1, none⟩ = some (.int .i64 p.pos) ∧ wb.cell? ⟨w.heap.size + 1, 2, none⟩ = some (.string p.text)); clear hBb)
          | (go_at_call 46; refine (toPut_any p.ring p.pos p.text _).mono ?_; rintro e wb ⟨rfl, hBb⟩; have KX := Lib.hid (KX.out.below hBb KX.out.lt); have KQ := Lib.hid (KQ.out.below hBb KQ.out.lt); (try (have KZ := Lib.hid (KZ.out.below hBb KZ.out.lt))); (try (have V2 := Lib.hid (V2.out.below hBb))); have cur := Lib.hid (below_trans cur.out hBb cur.out.size); have mm := (⟨⟨(KX.out.cell 0), (KX.out.cell 1), (KX.out.cell 2), (KX.out.cell 3), (KX.out.cell 4)⟩, KQ.out.cell 0, KQ.out.cell 1, KQ.out.cell 2⟩ : (wb.cell? ⟨w4.heap.size, 0, none⟩ = some (.int .i64 d.state) ∧ wb.cell? ⟨w4.heap.size, 1, none⟩ = some (.slice x1 d.slots.length e1) ∧ wb.cell? ⟨w4.heap.size, 2, none⟩ = some (.slice x2 d.rings.length e2) ∧ wb.cell? ⟨w4.heap.size, 3, none⟩ = some (.slice x3 d.spoilt.length e3) ∧ wb.cell? ⟨w4.heap.size, 4, none⟩ = some (.slice x4 d.wait.length e4)) ∧ wb.cell? ⟨w.heap.size + 1, 0, none⟩ = some (.bool p.ring) ∧ wb.cell? ⟨w.heap.size + 1, 1, none⟩ = some (.int .i64 p.pos) ∧ wb.cell? ⟨w.heap.size + 1, 2, none⟩ = some (.string p.text)); clear hBb)
          | (go_at_call 25; have hal := al_step cur.out (.cells #[.int .i64 0, .slice none 0 0, .slice none 0 0, .slice none 0 0, .slice none 0 0] 28); (first | (have cur0 : Hid (Below WX.heap.size WX WX.drew) := cur; clear cur0; have KZ := Lib.hid (show Blk (WX.drew.alloc (.cells #[.int .i64 0, .slice none 0 0, .slice none 0 0, .slice none 0 0, .slice none 0 0] 28)) WX.heap.size #[.int .i64 0, .slice none 0 0, .slice none 0 0, .slice none 0 0, .slice none 0 0] 28 from al_new cur.out #[.int .i64 0, .slice none 0 0, .slice none 0 0, .slice none 0 0, .slice none 0 0] 28); have hD := Lib.hid (show WX.heap.size ≤ WX.heap.size from Nat.le_refl _); have hDX := Lib.hid (show w4.heap.size < WX.heap.size from KX.out.lt); have hDQ := Lib.hid (show w.heap.size + 1 < WX.heap.size from KQ.out.lt)) | (have KZ := Lib.hid (al_new cur.out #[.int .i64 0, .slice none 0 0, .slice none 0 0, .slice none 0 0, .slice none 0 0] 28); have hD := Lib.hid cur.out.size; have hDX := Lib.hid KX.out.lt; have hDQ := Lib.hid KQ.out.lt)); have KX := Lib.hid (KX.out.below hal KX.out.lt); have KQ := Lib.hid (KQ.out.below hal KQ.out.lt); (try (have V2 := Lib.hid (V2.out.below hal))); have cur := Lib.hid (below_trans cur.out hal cur.out.size); clear hal; refine (HI.out _ _ V2.out).mono ?_; rintro e wc ⟨vc, rfl, ow, hBc⟩; have hx := ow.reads; obtain ⟨_, _, _, _, rfl, ⟨g1, f1, rfl, _⟩, ⟨g2, f2, rfl, _⟩, ⟨g3, f3, rfl, _⟩, ⟨g4, f4, rfl, _⟩⟩ := hx; have OW := Lib.hid ow; have hbb := Lib.hid cur.out.size; (try (have hDb := Lib.hid KZ.out.lt)); have KX := Lib.hid (KX.out.below hBc KX.out.lt); have KQ := Lib.hid (KQ.out.below hBc KQ.out.lt); (try (have KZ := Lib.hid (KZ.out.below hBc KZ.out.lt))); (try (have V2 := Lib.hid (V2.out.below hBc))); have cur := Lib.hid (below_trans cur.out hBc cur.out.size); (try (have kz := KZ.out; have hst := st5 kz (.int .i64 r.state) (.slice g1 r.slots.length f1) (.slice g2 r.rings.length f2) (.slice g3 r.spoilt.length f3) (.slice g4 r.wait.length f4); have ms := And.intro (blk5c (KX.out.below hst hDX.out)) (blk3c (KQ.out.below hst hDQ.out)); obtain ⟨b0, b1, b2, b3, b4, f0, f1, f2, f3, f4⟩ := blk5 kz; clear kz hst)); have mm := (⟨⟨(KX.out.cell 0), (KX.out.cell 1), (KX.out.cell 2), (KX.out.cell 3), (KX.out.cell 4)⟩, KQ.out.cell 0, KQ.out.cell 1, KQ.out.cell 2⟩ : (wc.cell? ⟨w4.heap.size, 0, none⟩ = some (.int .i64 d.state) ∧ wc.cell? ⟨w4.heap.size, 1, none⟩ = some (.slice x1 d.slots.length e1) ∧ wc.cell? ⟨w4.heap.size, 2, none⟩ = some (.slice x2 d.rings.length e2) ∧ wc.cell? ⟨w4.heap.size, 3, none⟩ = some (.slice x3 d.spoilt.length e3) ∧ wc.cell? ⟨w4.heap.size, 4, none⟩ = some (.slice x4 d.wait.length e4)) ∧ wc.cell? ⟨w.heap.size + 1, 0, none⟩ = some (.bool p.ring) ∧ wc.cell? ⟨w.heap.size + 1, 1, none⟩ = some (.int .i64 p.pos) ∧ wc.cell? ⟨w.heap.size + 1, 2, none⟩ = some (.string p.text)); clear ow hBc)
          | (go_at_call 25; refine (HI.out _ _ V2.out).mono ?_; rintro e wc ⟨vc, rfl, ow, hBc⟩; have hx := ow.reads; obtain ⟨_, _, _, _, rfl, ⟨g1, f1, rfl, _⟩, ⟨g2, f2, rfl, _⟩, ⟨g3, f3, rfl, _⟩, ⟨g4, f4, rfl, _⟩⟩ := hx; have OW := Lib.hid ow; have hbb := Lib.hid cur.out.size; (try (have hDb := Lib.hid KZ.out.lt)); have KX := Lib.hid (KX.out.below hBc KX.out.lt); have KQ := Lib.hid (KQ.out.below hBc KQ.out.lt); (try (have KZ := Lib.hid (KZ.out.below hBc KZ.out.lt))); (try (have V2 := Lib.hid (V2.out.below hBc))); have cur := Lib.hid (below_trans cur.out hBc cur.out.size); (try (have kz := KZ.out; have hst := st5 kz (.int .i64 r.state) (.slice g1 r.slots.length f1) (.slice g2 r.rings.length f2) (.slice g3 r.spoilt.length f3) (.slice g4 r.wait.length f4); have ms := And.intro (blk5c (KX.out.below hst hDX.out)) (blk3c (KQ.out.below hst hDQ.out)); obtain ⟨b0, b1, b2, b3, b4, f0, f1, f2, f3, f4⟩ := blk5 kz; clear kz hst)); have mm := (⟨⟨(KX.out.cell 0), (KX.out.cell 1), (KX.out.cell 2), (KX.out.cell 3), (KX.out.cell 4)⟩, KQ.out.cell 0, KQ.out.cell 1, KQ.out.cell 2⟩ : (wc.cell? ⟨w4.heap.size, 0, none⟩ = some (.int .i64 d.state) ∧ wc.cell? ⟨w4.heap.size, 1, none⟩ = some (.slice x1 d.slots.length e1) ∧ wc.cell? ⟨w4.heap.size, 2, none⟩ = some (.slice x2 d.rings.length e2) ∧ wc.cell? ⟨w4.heap.size, 3, none⟩ = some (.slice x3 d.spoilt.length e3) ∧ wc.cell? ⟨w4.heap.size, 4, none⟩ = some (.slice x4 d.wait.length e4)) ∧ wc.cell? ⟨w.heap.size + 1, 0, none⟩ = some (.bool p.ring) ∧ wc.cell? ⟨w.heap.size + 1, 1, none⟩ = some (.int .i64 p.pos) ∧ wc.cell? ⟨w.heap.size + 1, 2, none⟩ = some (.string p.text)); clear ow hBc))
      all_goals
        go_wp2
        go_meet
        first
          | with_reducible exact after_new OW.out hbb.out cur.out
          | with_reducible exact after_set OW.out hbb.out cur.out KZ.out hD.out hDb.out
    case rest =>
    obtain ⟨WG, e0⟩ : ∃ x, x = wc := ⟨_, rfl⟩
    subst e0
    obtain ⟨DG, cs, rfl, KG, HG, hB5⟩ := hcut
    have hx := HG.out.reads
    obtain ⟨_, _, _, _, ⟨⟩, ⟨g1, f1, rfl, _⟩, ⟨g2, f2, rfl, _⟩, ⟨g3, f3, rfl, _⟩, ⟨g4, f4, rfl, _⟩⟩ := hx
    have hWX5 := hB5.out.size
    have hG5 : WX.heap.size ≤ WG.heap.size := hB5.out.size
    have KO := Lib.hid (KO.out.below hB5.out KO.out.lt)
    have KQ := Lib.hid (KQ.out.below hB5.out KQ.out.lt)
    have KA := Lib.hid (KA.out.below hB5.out KA.out.lt)
    have KX := Lib.hid (KX.out.below hB5.out KX.out.lt)
    have B := Lib.hid (below_trans B.out hB5.out B.out.size)
    have C := Lib.hid (below_trans C.out hB5.out C.out.size)
    have HX := Lib.hid (HX.out.below hB5.out)
    clear hB5 n0 n1 n2
    clear s0 s1 s2 s3 s4
    obtain ⟨q0, q1, q2, q3, q4⟩ : WG.cell? ⟨D, 0, none⟩ = some (.int .i64 r.state) ∧ WG.cell? ⟨D, 1, none⟩ = some (.slice a1 r.slots.length m1) ∧ WG.cell? ⟨D, 2, none⟩ = some (.slice a2 r.rings.length m2) ∧ WG.cell? ⟨D, 3, none⟩ = some (.slice a3 r.spoilt.length m3) ∧ WG.cell? ⟨D, 4, none⟩ = some (.slice a4 r.wait.length m4) := ⟨(KA.out.cell 0), (KA.out.cell 1), (KA.out.cell 2), (KA.out.cell 3), (KA.out.cell 4)⟩
    obtain ⟨t0, t1, t2, t3, t4⟩ : WG.cell? ⟨DG, 0, none⟩ = some (.int .i64 r.state) ∧ WG.cell? ⟨DG, 1, none⟩ = some (.slice g1 r.slots.length f1) ∧ WG.cell? ⟨DG, 2, none⟩ = some (.slice g2 r.rings.length f2) ∧ WG.cell? ⟨DG, 3, none⟩ = some (.slice g3 r.spoilt.length f3) ∧ WG.cell? ⟨DG, 4, none⟩ = some (.slice g4 r.wait.length f4) := ⟨(KG.out.cell 0), (KG.out.cell 1), (KG.out.cell 2), (KG.out.cell 3), (KG.out.cell 4)⟩
    go_wp2_with fail
    refine (eqDisk_same _ _ r _ HG.out.reads (V3.out.below C.out)).mono ?_
    rintro e w6 ⟨rfl, hB6⟩
    have hG6 := Nat.le_trans hG5 hB6.size
    have KO := Lib.hid (KO.out.below hB6 KO.out.lt)
    have KQ := Lib.hid (KQ.out.below hB6 KQ.out.lt)
    have KA := Lib.hid (KA.out.below hB6 KA.out.lt)
    have KX := Lib.hid (KX.out.below hB6 KX.out.lt)
    have KG := Lib.hid (KG.out.below hB6 KG.out.lt)
    have B := Lib.hid (below_trans B.out hB6 B.out.size)
    have C := Lib.hid (below_trans C.out hB6 C.out.size)
    have HX := Lib.hid (HX.out.below hB6)
    have HG := Lib.hid (HG.out.below hB6)
    clear hB6
    clear q0 q1 q2 q3 q4 t0 t1 t2 t3 t4
    obtain ⟨p0, p1, p2, p3, p4⟩ : w6.cell? ⟨w.heap.size, 0, none⟩ = some (.int .i64 d.state) ∧ w6.cell? ⟨w.heap.size, 1, none⟩ = some (.slice o1 d.slots.length c1) ∧ w6.cell? ⟨w.heap.size, 2, none⟩ = some (.slice o2 d.rings.length c2) ∧ w6.cell? ⟨w.heap.size, 3, none⟩ = some (.slice o3 d.spoilt.length c3) ∧ w6.cell? ⟨w.heap.size, 4, none⟩ = some (.slice o4 d.wait.length c4) := ⟨(KO.out.cell 0), (KO.out.cell 1), (KO.out.cell 2), (KO.out.cell 3), (KO.out.cell 4)⟩
    obtain ⟨s0, s1, s2, s3, s4⟩ : w6.cell? ⟨w4.heap.size, 0, none⟩ = some (.int .i64 d.state) ∧ w6.cell? ⟨w4.heap.size, 1, none⟩ = some (.slice x1 d.slots.length e1) ∧ w6.cell? ⟨w4.heap.size, 2, none⟩ = some (.slice x2 d.rings.length e2) ∧ w6.cell? ⟨w4.heap.size, 3, none⟩ = some (.slice x3 d.spoilt.length e3) ∧ w6.cell? ⟨w4.heap.size, 4, none⟩ = some (.slice x4 d.wait.length e4) := ⟨(KX.out.cell 0), (KX.out.cell 1), (KX.out.cell 2), (KX.out.cell 3), (KX.out.cell 4)⟩
    have cur : Hid (Below w6.heap.size w6 w6.drew) := (Below.refl _ _).drew
    go_wp2_with fail
    go_region_held3 (fun w' => (w'.cell? ⟨w.heap.size, 0, none⟩ = some (.int .i64 d.state) ∧ w'.cell? ⟨w.heap.size, 1, none⟩ = some (.slice o1 d.slots.length c1) ∧ w'.cell? ⟨w.heap.size, 2, none⟩ = some (.slice o2 d.rings.length c2) ∧ w'.cell? ⟨w.heap.size, 3, none⟩ = some (.slice o3 d.spoilt.length c3) ∧ w'.cell? ⟨w.heap.size, 4, none⟩ = some (.slice o4 d.wait.length c4)) ∧ (w'.cell? ⟨w4.heap.size, 0, none⟩ = some (.int .i64 d.state) ∧ w'.cell? ⟨w4.heap.size, 1, none⟩ = some (.slice x1 d.slots.length e1) ∧ w'.cell? ⟨w4.heap.size, 2, none⟩ = some (.slice x2 d.rings.length e2) ∧ w'.cell? ⟨w4.heap.size, 3, none⟩ = some (.slice x3 d.spoilt.length e3) ∧ w'.cell? ⟨w4.heap.size, 4, none⟩ = some (.slice x4 d.wait.length e4))) (first | with_reducible exact hc7 | with_reducible exact hc6 | go_keep)
      (first
        | (go_at_call 43; refine (toDisk_any _ _ _ HSm (HV.out.below (below_trans B.out cur.out B.out.size))).mono ?_; rintro e w7 ⟨v7, rfl, o7, hB7⟩; have V7 := Lib.hid o7.reads; have hx := o7.reads; obtain ⟨_, _, _, _, rfl, ⟨z1, j1, rfl, _⟩, ⟨z2, j2, rfl, _⟩, ⟨z3, j3, rfl, _⟩, ⟨z4, j4, rfl, _⟩⟩ := hx; have cur := Lib.hid (below_trans cur.out hB7 cur.out.size); have hc6 := (⟨⟨((KO.out.below cur.out KO.out.lt).cell 0), ((KO.out.below cur.out KO.out.lt).cell 1), ((KO.out.below cur.out KO.out.lt).cell 2), ((KO.out.below cur.out KO.out.lt).cell 3), ((KO.out.below cur.out KO.out.lt).cell 4)⟩, ⟨((KX.out.below cur.out KX.out.lt).cell 0), ((KX.out.below cur.out KX.out.lt).cell 1), ((KX.out.below cur.out KX.out.lt).cell 2), ((KX.out.below cur.out KX.out.lt).cell 3), ((KX.out.below cur.out KX.out.lt).cell 4)⟩⟩ : (w7.cell? ⟨w.heap.size, 0, none⟩ = some (.int .i64 d.state) ∧ w7.cell? ⟨w.heap.size, 1, none⟩ = some (.slice o1 d.slots.length c1) ∧ w7.cell? ⟨w.heap.size, 2, none⟩ = some (.slice o2 d.rings.length c2) ∧ w7.cell? ⟨w.heap.size, 3, none⟩ = some (.slice o3 d.spoilt.length c3) ∧ w7.cell? ⟨w.heap.size, 4, none⟩ = some (.slice o4 d.wait.length c4)) ∧ (w7.cell? ⟨w4.heap.size, 0, none⟩ = some (.int .i64 d.state) ∧ w7.cell? ⟨w4.heap.size, 1, none⟩ = some (.slice x1 d.slots.length e1) ∧ w7.cell? ⟨w4.heap.size, 2, none⟩ = some (.slice x2 d.rings.length e2) ∧ w7.cell? ⟨w4.heap.size, 3, none⟩ = some (.slice x3 d.spoilt.length e3) ∧ w7.cell? ⟨w4.heap.size, 4, none⟩ = some (.slice x4 d.wait.length e4))); clear o7 hB7)
        | (go_at_call 38; refine (eqDisk_same _ _ d _ (HX.out.reads.below cur.out) V7.out).mono ?_; rintro e w8 ⟨rfl, hB8⟩; have cur := Lib.hid (below_trans cur.out hB8 cur.out.size); have hc7 := (⟨⟨((KO.out.below cur.out KO.out.lt).cell 0), ((KO.out.below cur.out KO.out.lt).cell 1), ((KO.out.below cur.out KO.out.lt).cell 2), ((KO.out.below cur.out KO.out.lt).cell 3), ((KO.out.below cur.out KO.out.lt).cell 4)⟩, ⟨((KX.out.below cur.out KX.out.lt).cell 0), ((KX.out.below cur.out KX.out.lt).cell 1), ((KX.out.below cur.out KX.out.lt).cell 2), ((KX.out.below cur.out KX.out.lt).cell 3), ((KX.out.below cur.out KX.out.lt).cell 4)⟩⟩ : (w8.cell? ⟨w.heap.size, 0, none⟩ = some (.int .i64 d.state) ∧ w8.cell? ⟨w.heap.size, 1, none⟩ = some (.slice o1 d.slots.length c1) ∧ w8.cell? ⟨w.heap.size, 2, none⟩ = some (.slice o2 d.rings.length c2) ∧ w8.cell? ⟨w.heap.size, 3, none⟩ = some (.slice o3 d.spoilt.length c3) ∧ w8.cell? ⟨w.heap.size, 4, none⟩ = some (.slice o4 d.wait.length c4)) ∧ (w8.cell? ⟨w4.heap.size, 0, none⟩ = some (.int .i64 d.state) ∧ w8.cell? ⟨w4.heap.size, 1, none⟩ = some (.slice x1 d.slots.length e1) ∧ w8.cell? ⟨w4.heap.size, 2, none⟩ = some (.slice x2 d.rings.length e2) ∧ w8.cell? ⟨w4.heap.size, 3, none⟩ = some (.slice x3 d.spoilt.length e3) ∧ w8.cell? ⟨w4.heap.size, 4, none⟩ = some (.slice x4 d.wait.length e4))); clear hB8))
    clear p0 p1 p2 p3 p4 s0 s1 s2 s3 s4
    have hG8 := Nat.le_trans hG6 cur.out.size
    have KO := Lib.hid (KO.out.below cur.out KO.out.lt)
    have KQ := Lib.hid (KQ.out.below cur.out KQ.out.lt)
    have KA := Lib.hid (KA.out.below cur.out KA.out.lt)
    have KX := Lib.hid (KX.out.below cur.out KX.out.lt)
    have KG := Lib.hid (KG.out.below cur.out KG.out.lt)
    have B := Lib.hid (below_trans B.out cur.out B.out.size)
    have C := Lib.hid (below_trans C.out cur.out C.out.size)
    have HX := Lib.hid (HX.out.below cur.out)
    have HG := Lib.hid (HG.out.below cur.out)
    obtain ⟨s0, s1, s2, s3, s4⟩ : w8.cell? ⟨w4.heap.size, 0, none⟩ = some (.int .i64 d.state) ∧ w8.cell? ⟨w4.heap.size, 1, none⟩ = some (.slice x1 d.slots.length e1) ∧ w8.cell? ⟨w4.heap.size, 2, none⟩ = some (.slice x2 d.rings.length e2) ∧ w8.cell? ⟨w4.heap.size, 3, none⟩ = some (.slice x3 d.spoilt.length e3) ∧ w8.cell? ⟨w4.heap.size, 4, none⟩ = some (.slice x4 d.wait.length e4) := ⟨(KX.out.cell 0), (KX.out.cell 1), (KX.out.cell 2), (KX.out.cell 3), (KX.out.cell 4)⟩
    clear cur
    go_wp2_with fail
    refine (HMx.out WA.heap.size _ _ (Nat.le_trans hWA4 (Nat.le_trans hX4 hG8)) HX.out).mono ?_
    rintro e w9 ⟨rfl, hB9, _, ot9, kp9⟩
    have hG9 : WX.heap.size ≤ w9.heap.size := Nat.le_trans hG8 hB9.size
    have HG := Lib.hid (HG.out.heap (fun E h1 h2 => kp9 E h2 (fun cs e u hu hE => by have := (HXlt.out cs e u hu E hE).2; omega)))
    have KO := Lib.hid (ot9 _ _ _ (by decide) (by decide) (by decide) KO.out)
    have KQ := Lib.hid (ot9 _ _ _ (by decide) (by decide) (by decide) KQ.out)
    have KA := Lib.hid (ot9 _ _ _ (by decide) (by decide) (by decide) KA.out)
    have KG := Lib.hid (ot9 _ _ _ (by decide) (by decide) (by decide) KG.out)
    have B := Lib.hid (B.out.trans (hB9.mono (by omega)))
    have C := Lib.hid (C.out.trans (hB9.mono hAlA))
    clear hB9 ot9 kp9
    clear s0 s1 s2 s3 s4
    obtain ⟨q0, q1, q2, q3, q4⟩ : w9.cell? ⟨D, 0, none⟩ = some (.int .i64 r.state) ∧ w9.cell? ⟨D, 1, none⟩ = some (.slice a1 r.slots.length m1) ∧ w9.cell? ⟨D, 2, none⟩ = some (.slice a2 r.rings.length m2) ∧ w9.cell? ⟨D, 3, none⟩ = some (.slice a3 r.spoilt.length m3) ∧ w9.cell? ⟨D, 4, none⟩ = some (.slice a4 r.wait.length m4) := ⟨(KA.out.cell 0), (KA.out.cell 1), (KA.out.cell 2), (KA.out.cell 3), (KA.out.cell 4)⟩
    obtain ⟨t0, t1, t2, t3, t4⟩ : w9.cell? ⟨DG, 0, none⟩ = some (.int .i64 r.state) ∧ w9.cell? ⟨DG, 1, none⟩ = some (.slice g1 r.slots.length f1) ∧ w9.cell? ⟨DG, 2, none⟩ = some (.slice g2 r.rings.length f2) ∧ w9.cell? ⟨DG, 3, none⟩ = some (.slice g3 r.spoilt.length f3) ∧ w9.cell? ⟨DG, 4, none⟩ = some (.slice g4 r.wait.length f4) := ⟨(KG.out.cell 0), (KG.out.cell 1), (KG.out.cell 2), (KG.out.cell 3), (KG.out.cell 4)⟩
    go_wp2_with fail
    refine (eqDisk_same _ _ r _ HG.out.reads (V3.out.below C.out)).mono ?_
    rintro e w10 ⟨rfl, hB10⟩
    have hG10 := Nat.le_trans hG9 hB10.size
    have KO := Lib.hid (KO.out.below hB10 KO.out.lt)
    have KQ := Lib.hid (KQ.out.below hB10 KQ.out.lt)
    have KA := Lib.hid (KA.out.below hB10 KA.out.lt)
    have KG := Lib.hid (KG.out.below hB10 KG.out.lt)
    have B := Lib.hid (below_trans B.out hB10 B.out.size)
    have C := Lib.hid (below_trans C.out hB10 C.out.size)
    have HG := Lib.hid (HG.out.below hB10)
    clear hB10
    clear q0 q1 q2 q3 q4 t0 t1 t2 t3 t4
    obtain ⟨t0, t1, t2, t3, t4⟩ : w10.cell? ⟨DG, 0, none⟩ = some (.int .i64 r.state) ∧ w10.cell? ⟨DG, 1, none⟩ = some (.slice g1 r.slots.length f1) ∧ w10.cell? ⟨DG, 2, none⟩ = some (.slice g2 r.rings.length f2) ∧ w10.cell? ⟨DG, 3, none⟩ = some (.slice g3 r.spoilt.length f3) ∧ w10.cell? ⟨DG, 4, none⟩ = some (.slice g4 r.wait.length f4) := ⟨(KG.out.cell 0), (KG.out.cell 1), (KG.out.cell 2), (KG.out.cell 3), (KG.out.cell 4)⟩
    go_wp2_with fail
    refine (HM.out WX.heap.size _ _ hG10 HG.out).mono ?_
    rintro e w11 ⟨rfl, hB11, o11, ot11⟩
    have KO := Lib.hid (ot11 _ _ _ (by decide) (by decide) (by decide) KO.out)
    have KQ := Lib.hid (ot11 _ _ _ (by decide) (by decide) (by decide) KQ.out)
    have KA := Lib.hid (ot11 _ _ _ (by decide) (by decide) (by decide) KA.out)
    have KG := Lib.hid (ot11 _ _ _ (by decide) (by decide) (by decide) KG.out)
    have HG := Lib.hid o11
    have B := Lib.hid (B.out.trans (hB11.mono (by omega)))
    have C := Lib.hid (C.out.trans (hB11.mono (by omega)))
    clear hB11 o11 ot11
    clear t0 t1 t2 t3 t4
    obtain ⟨t0, t1, t2, t3, t4⟩ : w11.cell? ⟨DG, 0, none⟩ = some (.int .i64 r.state) ∧ w11.cell? ⟨DG, 1, none⟩ = some (.slice g1 r.slots.length f1) ∧ w11.cell? ⟨DG, 2, none⟩ = some (.slice g2 r.rings.length f2) ∧ w11.cell? ⟨DG, 3, none⟩ = some (.slice g3 r.spoilt.length f3) ∧ w11.cell? ⟨DG, 4, none⟩ = some (.slice g4 r.wait.length f4) := ⟨(KG.out.cell 0), (KG.out.cell 1), (KG.out.cell 2), (KG.out.cell 3), (KG.out.cell 4)⟩
    go_wp2_with fail
    refine (HH.out _ _ HG.out.reads).mono ?_
    rintro e w12 ⟨rfl, hB12⟩
    have KO := Lib.hid (KO.out.below hB12 KO.out.lt)
    have KQ := Lib.hid (KQ.out.below hB12 KQ.out.lt)
    have KA := Lib.hid (KA.out.below hB12 KA.out.lt)
    have KG := Lib.hid (KG.out.below hB12 KG.out.lt)
    have B := Lib.hid (below_trans B.out hB12 B.out.size)
    have C := Lib.hid (below_trans C.out hB12 C.out.size)
    have HG := Lib.hid (HG.out.below hB12)
    clear hB12
    clear t0 t1 t2 t3 t4
    obtain ⟨p0, p1, p2, p3, p4⟩ : w12.cell? ⟨w.heap.size, 0, none⟩ = some (.int .i64 d.state) ∧ w12.cell? ⟨w.heap.size, 1, none⟩ = some (.slice o1 d.slots.length c1) ∧ w12.cell? ⟨w.heap.size, 2, none⟩ = some (.slice o2 d.rings.length c2) ∧ w12.cell? ⟨w.heap.size, 3, none⟩ = some (.slice o3 d.spoilt.length c3) ∧ w12.cell? ⟨w.heap.size, 4, none⟩ = some (.slice o4 d.wait.length c4) := ⟨(KO.out.cell 0), (KO.out.cell 1), (KO.out.cell 2), (KO.out.cell 3), (KO.out.cell 4)⟩
    obtain ⟨n0, n1, n2⟩ : w12.cell? ⟨w.heap.size + 1, 0, none⟩ = some (.bool p.ring) ∧ w12.cell? ⟨w.heap.size + 1, 1, none⟩ = some (.int .i64 p.pos) ∧ w12.cell? ⟨w.heap.size + 1, 2, none⟩ = some (.string p.text) := ⟨KQ.out.cell 0, KQ.out.cell 1, KQ.out.cell 2⟩
    go_upto_region 27 with (fail)
    go_cut [12] (fun sx WH => After w12 WH sx r)
    case first =>
      have cur : Hid (Below w12.heap.size w12 w12.drew) := (Below.refl _ _).drew
      have KO := Lib.hid (KO.out.below (Below.refl _ w12).drew KO.out.lt)
      have KQ := Lib.hid (KQ.out.below (Below.refl _ w12).drew KQ.out.lt)
      go_region_held3 (fun w' => (w'.cell? ⟨w.heap.size, 0, none⟩ = some (.int .i64 d.state) ∧ w'.cell? ⟨w.heap.size, 1, none⟩ = some (.slice o1 d.slots.length c1) ∧ w'.cell? ⟨w.heap.size, 2, none⟩ = some (.slice o2 d.rings.length c2) ∧ w'.cell? ⟨w.heap.size, 3, none⟩ = some (.slice o3 d.spoilt.length c3) ∧ w'.cell? ⟨w.heap.size, 4, none⟩ = some (.slice o4 d.wait.length c4)) ∧ w'.cell? ⟨w.heap.size + 1, 0, none⟩ = some (.bool p.ring) ∧ w'.cell? ⟨w.heap.size + 1, 1, none⟩ = some (.int .i64 p.pos) ∧ w'.cell? ⟨w.heap.size + 1, 2, none⟩ = some (.string p.text)) (first | with_reducible exact mm | with_reducible exact ms | go_keep)
        (first
          | (go_at_call 43; have hal := al_step cur.out (.cells #[.int .i64 0, .slice none 0 0, .slice none 0 0, .slice none 0 0, .slice none 0 0] 28); (first | (have cur0 : Hid (Below w12.heap.size w12 w12.drew) := cur; clear cur0; have KZ := Lib.hid (show Blk (w12.drew.alloc (.cells #[.int .i64 0, .slice none 0 0, .slice none 0 0, .slice none 0 0, .slice none 0 0] 28)) w12.heap.size #[.int .i64 0, .slice none 0 0, .slice none 0 0, .slice none 0 0, .slice none 0 0] 28 from al_new cur.out #[.int .i64 0, .slice none 0 0, .slice none 0 0, .slice none 0 0, .slice none 0 0] 28); have hD := Lib.hid (show w12.heap.size ≤ w12.heap.size from Nat.le_refl _); have hDO := Lib.hid (show w.heap.size < w12.heap.size from KO.out.lt); have hDQ := Lib.hid (show w.heap.size + 1 < w12.heap.size from KQ.out.lt)) | (have KZ := Lib.hid (al_new cur.out #[.int .i64 0, .slice none 0 0, .slice none 0 0, .slice none 0 0, .slice none 0 0] 28); have hD := Lib.hid cur.out.size; have hDO := Lib.hid KO.out.lt; have hDQ := Lib.hid KQ.out.lt)); have KO := Lib.hid (KO.out.below hal KO.out.lt); have KQ := Lib.hid (KQ.out.below hal KQ.out.lt); (try (have V2 := Lib.hid (V2.out.below hal))); have cur := Lib.hid (below_trans cur.out hal cur.out.size); clear hal; refine (toDisk_any _ _ _ HSm (HV.out.below (below_trans B.out cur.out B.out.size))).mono ?_; rintro e wa ⟨va, rfl, ow, hBa⟩; have hx := ow.reads; obtain ⟨_, _, _, _, rfl, ⟨z1, j1, rfl, _⟩, ⟨z2, j2, rfl, _⟩, ⟨z3, j3, rfl, _⟩, ⟨z4, j4, rfl, _⟩⟩ := hx; have KO := Lib.hid (KO.out.below hBa KO.out.lt); have KQ := Lib.hid (KQ.out.below hBa KQ.out.lt); (try (have KZ := Lib.hid (KZ.out.below hBa KZ.out.lt))); (try (have V2 := Lib.hid (V2.out.below hBa))); have cur := Lib.hid (below_trans cur.out hBa cur.out.size); have V2 := Lib.hid ow.reads; have mm := (⟨⟨(KO.out.cell 0), (KO.out.cell 1), (KO.out.cell 2), (KO.out.cell 3), (KO.out.cell 4)⟩, KQ.out.cell 0, KQ.out.cell 1, KQ.out.cell 2⟩ : (wa.cell? ⟨w.heap.size, 0, none⟩ = some (.int .i64 d.state) ∧ wa.cell? ⟨w.heap.size, 1, none⟩ = some (.slice o1 d.slots.length c1) ∧ wa.cell? ⟨w.heap.size, 2, none⟩ = some (.slice o2 d.rings.length c2) ∧ wa.cell? ⟨w.heap.size, 3, none⟩ = some (.slice o3 d.spoilt.length c3) ∧ wa.cell? ⟨w.heap.size, 4, none⟩ = some (.slice o4 d.wait.length c4)) ∧ wa.cell? ⟨w.heap.size + 1, 0, none⟩ = some (.bool p.ring) ∧ wa.cell? ⟨w.heap.size + 1, 1, none⟩ = some (.int .i64 p.pos) ∧ wa.cell? ⟨w.heap.size + 1, 2, none⟩ = some (.string p.text)); clear ow hBa)
          | (go_at_call 43; refine (toDisk_any _ _ _ HSm (HV.out.below (below_trans B.out cur.out B.out.size))).mono ?_; rintro e wa ⟨va, rfl, ow, hBa⟩; have hx := ow.reads; obtain ⟨_, _, _, _, rfl, ⟨z1, j1, rfl, _⟩, ⟨z2, j2, rfl, _⟩, ⟨z3, j3, rfl, _⟩, ⟨z4, j4, rfl, _⟩⟩ := hx; have KO := Lib.hid (KO.out.below hBa KO.out.lt); have KQ := Lib.hid (KQ.out.below hBa KQ.out.lt); (try (have KZ := Lib.hid (KZ.out.below hBa KZ.out.lt))); (try (have V2 := Lib.hid (V2.out.below hBa))); have cur := Lib.hid (below_trans cur.out hBa cur.out.size); have V2 := Lib.hid ow.reads; have mm := (⟨⟨(KO.out.cell 0), (KO.out.cell 1), (KO.out.cell 2), (KO.out.cell 3), (KO.out.cell 4)⟩, KQ.out.cell 0, KQ.out.cell 1, KQ.out.cell 2⟩ : (wa.cell? ⟨w.heap.size, 0, none⟩ = some (.int .i64 d.state) ∧ wa.cell? ⟨w.heap.size, 1, none⟩ = some (.slice o1 d.slots.length c1) ∧ wa.cell? ⟨w.heap.size, 2, none⟩ = some (.slice o2 d.rings.length c2) ∧ wa.cell? ⟨w.heap.size, 3, none⟩ = some (.slice o3 d.spoilt.length c3) ∧ wa.cell? ⟨w.heap.size, 4, none⟩ = some (.slice o4 d.wait.length c4)) ∧ wa.cell? ⟨w.heap.size + 1, 0, none⟩ = some (.bool p.ring) ∧ wa.cell? ⟨w.heap.size + 1, 1, none⟩ = some (.int .i64 p.pos) ∧ wa.cell? ⟨w.heap.size + 1, 2, none⟩ = some (.string p.text)); clear ow hBa)
          | (go_at_call 46; have hal := al_step cur.out (.cells #[.int .i64 0, .slice none 0 0, .slice none 0 0, .slice none 0 0, .slice none 0 0] 28); (first | (have cur0 : Hid (Below w12.heap.size w12 w12.drew) := cur; clear cur0; have KZ := Lib.hid (show Blk (w12.drew.alloc (.cells #[.int .i64 0, .slice none 0 0, .slice none 0 0, .slice none 0 0, .slice none 0 0] 28)) w12.heap.size #[.int .i64 0, .slice none 0 0, .slice none 0 0, .slice none 0 0, .slice none 0 0] 28 from al_new cur.out #[.int .i64 0, .slice none 0 0, .slice none 0 0, .slice none 0 0, .slice none 0 0] 28); have hD := Lib.hid (show w12.heap.size ≤ w12.heap.size from Nat.le_refl _); have hDO := Lib.hid (show w.heap.size < w12.heap.size from KO.out.lt); have hDQ := Lib.hid (show w.heap.size + 1 < w12.heap.size from KQ.out.lt)) | (have KZ := Lib.hid (al_new cur.out #[.int .i64 0, .slice none 0 0, .slice none 0 0, .slice none 0 0, .slice none 0 0] 28); have hD := Lib.hid cur.out.size; have hDO := Lib.hid KO.out.lt; have hDQ := Lib.hid KQ.out.lt)); have KO := Lib.hid (KO.out.below hal KO.out.lt); have KQ := Lib.hid (KQ.out.below hal KQ.out.lt); (try (have V2 := Lib.hid (V2.out.below hal))); have cur := Lib.hid (below_trans cur.out hal cur.out.size); clear hal; refine (toPut_any p.ring p.pos p.text _).mono ?_; rintro e wb ⟨rfl, hBb⟩; have KO := Lib.hid (KO.out.below hBb KO.out.lt); have KQ := Lib.hid (KQ.out.below hBb KQ.out.lt); (try (have KZ := Lib.hid (KZ.out.below hBb KZ.out.lt))); (try (have V2 := Lib.hid (V2.out.below hBb))); have cur := Lib.hid (below_trans cur.out hBb cur.out.size); have mm := (⟨⟨(KO.out.cell 0), (KO.out.cell 1), (KO.out.cell 2), (KO.out.cell 3), (KO.out.cell 4)⟩, KQ.out.cell 0, KQ.out.cell 1, KQ.out.cell 2⟩ : (wb.cell? ⟨w.heap.size, 0, none⟩ = some (.int .i64 d.state) ∧ wb.cell? ⟨w.heap.size, 1, none⟩ = some (.slice o1 d.slots.length c1) ∧ wb.cell? ⟨w.heap.size, 2, none⟩ = some (.slice o2 d.rings.length c2) ∧ wb.cell? ⟨w.heap.size, 3, none⟩ = some (.slice o3 d.spoilt.length c3) ∧ wb.cell? ⟨w.heap.size, 4, none⟩ = some (.slice o4 d.wait.length c4)) ∧ wb.cell? ⟨w.heap.size + 1, 0, none⟩ = some (.bool p.ring) ∧ wb.cell? ⟨w.heap.size + 1, 1, none⟩ = some (.int .i64 p.pos) ∧ wb.cell? ⟨w.heap.size + 1, 2, none⟩ = some (.string p.text)); clear hBb)
          | (go_at_call 46; refine (toPut_any p.ring p.pos p.text _).mono ?_; rintro e wb ⟨rfl, hBb⟩; have KO := Lib.hid (KO.out.below hBb KO.out.lt); have KQ := Lib.hid (KQ.out.below hBb KQ.out.lt); (try (have KZ := Lib.hid (KZ.out.below hBb KZ.out.lt))); (try (have V2 := Lib.hid (V2.out.below hBb))); have cur := Lib.hid (below_trans cur.out hBb cur.out.size); have mm := (⟨⟨(KO.out.cell 0), (KO.out.cell 1), (KO.out.cell 2), (KO.out.cell 3), (KO.out.cell 4)⟩, KQ.out.cell 0, KQ.out.cell 1, KQ.out.cell 2⟩ : (wb.cell? ⟨w.heap.size, 0, none⟩ = some (.int .i64 d.state) ∧ wb.cell? ⟨w.heap.size, 1, none⟩ = some (.slice o1 d.slots.length c1) ∧ wb.cell? ⟨w.heap.size, 2, none⟩ = some (.slice o2 d.rings.length c2) ∧ wb.cell? ⟨w.heap.size, 3, none⟩ = some (.slice o3 d.spoilt.length c3) ∧ wb.cell? ⟨w.heap.size, 4, none⟩ = some (.slice o4 d.wait.length c4)) ∧ wb.cell? ⟨w.heap.size + 1, 0, none⟩ = some (.bool p.ring) ∧ wb.cell? ⟨w.heap.size + 1, 1, none⟩ = some (.int .i64 p.pos) ∧ wb.cell? ⟨w.heap.size + 1, 2, none⟩ = some (.string p.text)); clear hBb)
          | (go_at_call 25; have hal := al_step cur.out (.cells #[.int .i64 0, .slice none 0 0, .slice none 0 0, .slice none 0 0, .slice none 0 0] 28); (first | (have cur0 : Hid (Below w12.heap.size w12 w12.drew) := cur; clear cur0; have KZ := Lib.hid (show Blk (w12.drew.alloc (.cells #[.int .i64 0, .slice none 0 0, .slice none 0 0, .slice none 0 0, .slice none 0 0] 28)) w12.heap.size #[.int .i64 0, .slice none 0 0, .slice none 0 0, .slice none 0 0, .slice none 0 0] 28 from al_new cur.out #[.int .i64 0, .slice none 0 0, .slice none 0 0, .slice none 0 0, .slice none 0 0] 28); have hD := Lib.hid (show w12.heap.size ≤ w12.heap.size from Nat.le_refl _); have hDO := Lib.hid (show w.heap.size < w12.heap.size from KO.out.lt); have hDQ := Lib.hid (show w.heap.size + 1 < w12.heap.size from KQ.out.lt)) | (have KZ := Lib.hid (al_new cur.out #[.int .i64 0, .slice none 0 0, .slice none 0 0, .slice none 0 0, .slice none 0 0] 28); have hD := Lib.hid cur.out.size; have hDO := Lib.hid KO.out.lt; have hDQ := Lib.hid KQ.out.lt)); have KO := Lib.hid (KO.out.below hal KO.out.lt); have KQ := Lib.hid (KQ.out.below hal KQ.out.lt); (try (have V2 := Lib.hid (V2.out.below hal))); have cur := Lib.hid (below_trans cur.out hal cur.out.size); clear hal; refine (HI.out _ _ V2.out).mono ?_; rintro e wc ⟨vc, rfl, ow, hBc⟩; have hx := ow.reads; obtain ⟨_, _, _, _, rfl, ⟨h1, i1, rfl, _⟩, ⟨h2, i2, rfl, _⟩, ⟨h3, i3, rfl, _⟩, ⟨h4, i4, rfl, _⟩⟩ := hx; have OW := Lib.hid ow; have hbb := Lib.hid cur.out.size; (try (have hDb := Lib.hid KZ.out.lt)); have KO := Lib.hid (KO.out.below hBc KO.out.lt); have KQ := Lib.hid (KQ.out.below hBc KQ.out.lt); (try (have KZ := Lib.hid (KZ.out.below hBc KZ.out.lt))); (try (have V2 := Lib.hid (V2.out.below hBc))); have cur := Lib.hid (below_trans cur.out hBc cur.out.size); (try (have kz := KZ.out; have hst := st5 kz (.int .i64 r.state) (.slice h1 r.slots.length i1) (.slice h2 r.rings.length i2) (.slice h3 r.spoilt.length i3) (.slice h4 r.wait.length i4); have ms := And.intro (blk5c (KO.out.below hst hDO.out)) (blk3c (KQ.out.below hst hDQ.out)); obtain ⟨b0, b1, b2, b3, b4, f0, f1, f2, f3, f4⟩ := blk5 kz; clear kz hst)); have mm := (⟨⟨(KO.out.cell 0), (KO.out.cell 1), (KO.out.cell 2), (KO.out.cell 3), (KO.out.cell 4)⟩, KQ.out.cell 0, KQ.out.cell 1, KQ.out.cell 2⟩ : (wc.cell? ⟨w.heap.size, 0, none⟩ = some (.int .i64 d.state) ∧ wc.cell? ⟨w.heap.size, 1, none⟩ = some (.slice o1 d.slots.length c1) ∧ wc.cell? ⟨w.heap.size, 2, none⟩ = some (.slice o2 d.rings.length c2) ∧ wc.cell? ⟨w.heap.size, 3, none⟩ = some (.slice o3 d.spoilt.length c3) ∧ wc.cell? ⟨w.heap.size, 4, none⟩ = some (.slice o4 d.wait.length c4)) ∧ wc.cell? ⟨w.heap.size + 1, 0, none⟩ = some (.bool p.ring) ∧ wc.cell? ⟨w.heap.size + 1, 1, none⟩ = some (.int .i64 p.pos) ∧ wc.cell? ⟨w.heap.size + 1, 2, none⟩ = some (.string p.text)); clear ow hBc)
          | (go_at_call 25; refine (HI.out _ _ V2.out).mono ?_; rintro e wc ⟨vc, rfl, ow, hBc⟩; have hx := ow.reads; obtain ⟨_, _, _, _, rfl, ⟨h1, i1, rfl, _⟩, ⟨h2, i2, rfl, _⟩, ⟨h3, i3, rfl, _⟩, ⟨h4, i4, rfl, _⟩⟩ := hx; have OW := Lib.hid ow; have hbb := Lib.hid cur.out.size; (try (have hDb := Lib.hid KZ.out.lt)); have KO := Lib.hid (KO.out.below hBc KO.out.lt); have KQ := Lib.hid (KQ.out.below hBc KQ.out.lt); (try (have KZ := Lib.hid (KZ.out.below hBc KZ.out.lt))); (try (have V2 := Lib.hid (V2.out.below hBc))); have cur := Lib.hid (below_trans cur.out hBc cur.out.size); (try (have kz := KZ.out; have hst := st5 kz (.int .i64 r.state) (.slice h1 r.slots.length i1) (.slice h2 r.rings.length i2) (.slice h3 r.spoilt.length i3) (.slice h4 r.wait.length i4); have ms := And.intro (blk5c (KO.out.below hst hDO.out)) (blk3c (KQ.out.below hst hDQ.out)); obtain ⟨b0, b1, b2, b3, b4, f0, f1, f2, f3, f4⟩ := blk5 kz; clear kz hst)); have mm := (⟨⟨(KO.out.cell 0), (KO.out.cell 1), (KO.out.cell 2), (KO.out.cell 3), (KO.out.cell 4)⟩, KQ.out.cell 0, KQ.out.cell 1, KQ.out.cell 2⟩ : (wc.cell? ⟨w.heap.size, 0, none⟩ = some (.int .i64 d.state) ∧ wc.cell? ⟨w.heap.size, 1, none⟩ = some (.slice o1 d.slots.length c1) ∧ wc.cell? ⟨w.heap.size, 2, none⟩ = some (.slice o2 d.rings.length c2) ∧ wc.cell? ⟨w.heap.size, 3, none⟩ = some (.slice o3 d.spoilt.length c3) ∧ wc.cell? ⟨w.heap.size, 4, none⟩ = some (.slice o4 d.wait.length c4)) ∧ wc.cell? ⟨w.heap.size + 1, 0, none⟩ = some (.bool p.ring) ∧ wc.cell? ⟨w.heap.size + 1, 1, none⟩ = some (.int .i64 p.pos) ∧ wc.cell? ⟨w.heap.size + 1, 2, none⟩ = some (.string p.text)); clear ow hBc))
      all_goals
        go_wp2
        go_meet
        first
          | with_reducible exact after_new OW.out hbb.out cur.out
          | with_reducible exact after_set OW.out hbb.out cur.out KZ.out hD.out hDb.out
    case rest =>
    obtain ⟨WH, e0⟩ : ∃ x, x = wc := ⟨_, rfl⟩
    subst e0
    obtain ⟨DH, cs, rfl, KH, HH2, hB14⟩ := hcut
    have hx := HH2.out.reads
    obtain ⟨_, _, _, _, ⟨⟩, ⟨h1, i1, rfl, _⟩, ⟨h2, i2, rfl, _⟩, ⟨h3, i3, rfl, _⟩, ⟨h4, i4, rfl, _⟩⟩ := hx
    have V14 := Lib.hid HH2.out.reads
    clear HH2 p0 p1 p2 p3 p4 n0 n1 n2
    have KO := Lib.hid (KO.out.below hB14.out KO.out.lt)
    have KA := Lib.hid (KA.out.below hB14.out KA.out.lt)
    have KG := Lib.hid (KG.out.below hB14.out KG.out.lt)
    have B := Lib.hid (below_trans B.out hB14.out B.out.size)
    have C := Lib.hid (below_trans C.out hB14.out C.out.size)
    have HG := Lib.hid (HG.out.below hB14.out)
    clear hB14
    obtain ⟨q0, q1, q2, q3, q4⟩ : WH.cell? ⟨D, 0, none⟩ = some (.int .i64 r.state) ∧ WH.cell? ⟨D, 1, none⟩ = some (.slice a1 r.slots.length m1) ∧ WH.cell? ⟨D, 2, none⟩ = some (.slice a2 r.rings.length m2) ∧ WH.cell? ⟨D, 3, none⟩ = some (.slice a3 r.spoilt.length m3) ∧ WH.cell? ⟨D, 4, none⟩ = some (.slice a4 r.wait.length m4) := ⟨(KA.out.cell 0), (KA.out.cell 1), (KA.out.cell 2), (KA.out.cell 3), (KA.out.cell 4)⟩
    obtain ⟨y0, y1, y2, y3, y4⟩ : WH.cell? ⟨DH, 0, none⟩ = some (.int .i64 r.state) ∧ WH.cell? ⟨DH, 1, none⟩ = some (.slice h1 r.slots.length i1) ∧ WH.cell? ⟨DH, 2, none⟩ = some (.slice h2 r.rings.length i2) ∧ WH.cell? ⟨DH, 3, none⟩ = some (.slice h3 r.spoilt.length i3) ∧ WH.cell? ⟨DH, 4, none⟩ = some (.slice h4 r.wait.length i4) := ⟨(KH.out.cell 0), (KH.out.cell 1), (KH.out.cell 2), (KH.out.cell 3), (KH.out.cell 4)⟩
    go_wp2_with fail
    refine (eqDisk_same _ _ r _ V14.out (V3.out.below C.out)).mono ?_
    rintro e w15 ⟨rfl, hB15⟩
    have KG := Lib.hid (KG.out.below hB15 KG.out.lt)
    have B := Lib.hid (below_trans B.out hB15 B.out.size)
    have HG := Lib.hid (HG.out.below hB15)
    clear hB15
    clear q0 q1 q2 q3 q4 y0 y1 y2 y3 y4
    obtain ⟨t0, t1, t2, t3, t4⟩ : w15.cell? ⟨DG, 0, none⟩ = some (.int .i64 r.state) ∧ w15.cell? ⟨DG, 1, none⟩ = some (.slice g1 r.slots.length f1) ∧ w15.cell? ⟨DG, 2, none⟩ = some (.slice g2 r.rings.length f2) ∧ w15.cell? ⟨DG, 3, none⟩ = some (.slice g3 r.spoilt.length f3) ∧ w15.cell? ⟨DG, 4, none⟩ = some (.slice g4 r.wait.length f4) := ⟨(KG.out.cell 0), (KG.out.cell 1), (KG.out.cell 2), (KG.out.cell 3), (KG.out.cell 4)⟩
    go_wp2_with fail
    refine (HH.out _ _ HG.out.reads).mono ?_
    rintro e w16 ⟨rfl, hB16⟩
    have B := Lib.hid (below_trans B.out hB16 B.out.size)
    clear hB16
    go_wp2
    go_ret
    exact ⟨rfl, B.out⟩

theorem base_rows {d : DiskD} (h : DiskFine d) : (putBase d).slots.length + (putBase d).rings.length + (putBase d).spoilt.length ≤ 100 := by
  obtain ⟨⟨e1, e2, e3⟩, _⟩ := fine_sizes h
  unfold putBase
  split
  all_goals
    first
      | omega
      | (obtain ⟨h1, h2, h3⟩ := crashTo_rows (fine_sizes h).1 (-1) d.wait
         show (crashTo d (-1) d.wait).slots.length + (crashTo d (-1) d.wait).rings.length + (crashTo d (-1) d.wait).spoilt.length ≤ 100
         omega)
theorem put_marks {d : DiskD} (h : DiskFine d) (p : PutD) : 1 + mkN (putD d p) ≤ 1000 := by
  obtain ⟨⟨e1, e2, e3⟩, hw, _⟩ := fine_sizes h
  have h1 := putD_wait hw p
  have h2 := base_rows h
  have h3 : (putD d p).slots.length + (putD d p).rings.length + (putD d p).spoilt.length ≤ 100 := by
    unfold putD
    split
    · omega
    · exact h2
  unfold mkN
  omega
set_option maxRecDepth 100000 in
theorem walk (v : Value) (d : DiskD) (p : PutD) (w : World) (hv : DiskV w v d) (hb : DiskBd d) (hp : p.text.size ≤ maxLen) :
    Calls Try.prog 14 #[v, .agg #[.bool p.ring, .int .i64 p.pos, .string p.text]] w fun e w' => e = .returned (.bool true) ∧ Below w.heap.size w w' := by
  by_cases h : DiskFine d ∧ PutOk p
  · exact main v d (putD d p) p w hv hb hp (put_marks h.1 p) (fun u W hu => specPut_ok u d p W h.1 h.2 hu) (fun u W hu => implPut_ok u d p W h.1 h.2 hu)
  · exact main v d disk0 p w hv hb hp (by decide) (fun u W hu => specPut_no u d p W h hu) (fun u W hu => implPut_no u d p W h hu)

set_option maxRecDepth 100000 in
theorem lifted (os : Os) (started : os.Started) (H : Type) (enc : TypeId × Value → H) :
    ReturnsInHanded {} Try.checked os 14 .any (Rows.fnExactDiskPutSpec.pre6 enc Try.prog Try.f14 Rows.fnExactDiskPutRow.domain false) (Rows.fnExactDiskPutSpec.post enc Try.prog Try.f14 false true false false) := by
  refine returnsInHanded_of_change (C := Try.checked) own started (by kernel_rfl) Try.func14
    (ChangeSpec.witness6 (enc := enc) (C := Try.checked) false ⟨#[], #[.agg #[.int .i64 0, .slice none 0 0, .slice none 0 0, .slice none 0 0, .slice none 0 0], .agg #[.bool false, .int .i64 0, .string ByteArray.empty]], []⟩ 8 (by kernel_rfl) (by kernel_rfl) (by kernel_rfl) (by kernel_rfl)) ?_
  intro W base args ds gs before hval0 hW hcnd _
  have hval : ∀ (j : Nat) t v, Try.f14.params[j]? = some t → args[j]? = some v → Value.okWide Try.prog W .any base t v := hval0
  have hW' := hW
  obtain ⟨p, q, hA0, hV, rfl, hfz, hnd⟩ := hW
  have hA : DataW.TrodAll enc Try.prog W 0 (fun _ => true) true Try.f14.params.toList args.toList ds p := hA0
  rw [Try.params14] at hA hval
  obtain ⟨v0, vs0, d0, ds0, p0, q0, hargs, rfl, rfl, h0, r0⟩ := trodAll_cons hA
  obtain ⟨v1, vs1, d1, ds1, p1, q1, rfl, rfl, rfl, h1, r1⟩ := trodAll_cons r0
  obtain ⟨rfl, rfl, rfl⟩ := trodAll_nil r1
  obtain rfl : args = #[v0, v1] := by cases args; simp_all
  obtain ⟨rfl, rfl⟩ := trodVars_none hV
  have k0 := h0
  have lt0 : ∀ x ∈ p0, x.block < W.heap.size := by obtain ⟨m, hm⟩ := k0; exact DataW.trod_lt m _ _ _ hm
  obtain ⟨x0, w0, wn0⟩ := in_disk (hval 0 55 v0 rfl rfl) h0
  have k1 := h1
  have lt1 : ∀ x ∈ p1, x.block < W.heap.size := by obtain ⟨m, hm⟩ := k1; exact DataW.trod_lt m _ _ _ hm
  obtain ⟨x1, rfl, w1⟩ := in_put (hval 1 60 v1 rfl rfl) h1
  clear hA0 hval0
  refine (walk v0 x0 x1 W w0 wn0 w1).mono fun e W' ⟨he, bel⟩ => ?_
  subst he
  exact ⟨_, rfl, _, _, _, [], _, [], hW', trodAll_mk1 (shut_bool Try.underlying4 _), (trodAll_cons_mk (Below.trod laidOut (by kernel_rfl) (of_decide_eq_true (by kernel_rfl)) k0 bel lt0) (trodAll_cons_mk (Below.trod laidOut (by kernel_rfl) (of_decide_eq_true (by kernel_rfl)) k1 bel lt1) trodAll_mk0)), rfl, bel.frame _, fun h => by cases h⟩

theorem over : Rows.fnExactDiskPutRow.holds Try.pinned (OpenSpec.ofChange Rows.fnExactDiskPutSpec) :=
  OpenClaim.holds_of_wide 14 Try.f14 rfl rfl rfl rfl rfl rfl rfl ⟨rfl, rfl, rfl, rfl, rfl⟩ rfl rfl rfl rfl rfl (by kernel_rfl) Try.func14 (by kernel_rfl)
    (of_decide_eq_true (by kernel_rfl)) (by unfold Func.isWrapper; first | (rw [if_pos (by decide +kernel)]; kernel_rfl) | (rw [if_neg (by decide +kernel)]; exact ⟨rfl, rfl⟩))
    (fun os started H enc _ => lifted os started H enc)

end FnExactDiskPut

theorem FnExactDiskPut_holds : Rows.FnExactDiskPutSaid := FnExactDiskPut.over

end Go.Proofs.Ythhmpimnagnjfaa

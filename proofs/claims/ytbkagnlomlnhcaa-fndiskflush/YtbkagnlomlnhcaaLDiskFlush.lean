/- 'laws.FnDiskFlush' returns true at every code: of a drawn disk DiskFlush of the program answers as DiskFlush of the specification; all slots are read as before, nothing waits, and a second DiskFlush changes nothing. Conditions: none. -/
import Derived.Test.YtbkagnlomlnhcaaK
import Derived.Test.YtbkagnlomlnhcaaN2
import Derived.Test.YtbkagnlomlnhcaaY6
import Derived.Test.YtbkagnlomlnhcaaV4
namespace Go.Proofs.Ytbkagnlomlnhcaa
open Go.ChangeShapes Go.WideShapes Go.ChangeAt Go.RowKit Go.Sort
namespace FnDiskFlush
set_option linter.unusedVariables false

theorem choose (d : DiskD) : ∃ r : DiskD, Hid (∀ u W, DiskV W u d → Calls Try.prog 33 #[u] W (NewDisk r W)) ∧ Hid (∀ u W, DiskV W u d → Calls Try.prog 32 #[u] W (NewDisk r W)) ∧
    (r.slots.length = 0 ∨ (r.slots.length ≠ 0 ∧ r.wait.length = 0 ∧ DiskFine r ∧ Hid (∀ k : Nat, k < 12 → readD r (k : Int) = readD d (k : Int)) ∧ Hid (∀ u W, DiskV W u r → Calls Try.prog 32 #[u] W (NewDisk r W)))) := by
  by_cases h : DiskFine d
  · have h2 := crash_fine h (-1)
    refine ⟨crashD d (-1), fun u W hu => specFlush_ok u d W h hu, fun u W hu => implFlush_ok u d W h hu, .inr ⟨by have := h2.2.1.1; omega, rfl, h2, fun k hk => read_flush h hk, fun u W hu => ?_⟩⟩
    have := implFlush_ok u (crashD d (-1)) W h2 hu
    rw [crash_crash] at this
    exact this
  · exact ⟨disk0, fun u W hu => specFlush_no u d W h hu, fun u W hu => implFlush_no u d W h hu, .inl rfl⟩

set_option maxRecDepth 100000 in
set_option maxHeartbeats 4000000 in
theorem main (a : Option Addr) (len cap : Nat) (z0 : List Int) (w : World) (h0 : len ≤ 1048576) (H : Hid (IsBytes w a len cap z0)) :
    Calls Try.prog 6 #[.slice a len cap] w fun e w' => e = .returned (.bool true) ∧ Below w.heap.size w w' := by
  have d0 : decide (1048576 < (len : Int)) = false := by simp; omega
  go_enter Try.func6, Try.ntmps6
  go_wp2_with fail
  refine (drawFlush_any a len cap z0 _ H.out).mono ?_
  rintro e w1 ⟨d, v1, rfl, hv1, hB1⟩
  have B := Lib.hid hB1
  have VD := Lib.hid hv1
  obtain ⟨r, HS, HI, HF⟩ := choose d
  obtain ⟨_, _, _, _, rfl, ⟨o1, c1, rfl, _⟩, ⟨o2, c2, rfl, _⟩, ⟨o3, c3, rfl, _⟩, ⟨o4, c4, rfl, _⟩⟩ := hv1
  clear hB1
  have hAl := Lib.hid (show Below w1.heap.size w1 (w1.alloc (.cells #[.int .i64 d.state, .slice o1 d.slots.length c1, .slice o2 d.rings.length c2, .slice o3 d.spoilt.length c3, .slice o4 d.wait.length c4] 30)) from (Below.refl _ _).alloc (Nat.le_refl _) _)
  have KO := Lib.hid (Blk.new w1 #[.int .i64 d.state, .slice o1 d.slots.length c1, .slice o2 d.rings.length c2, .slice o3 d.spoilt.length c3, .slice o4 d.wait.length c4] 30)
  have VD := Lib.hid (VD.out.below hAl.out)
  have B := Lib.hid (below_trans B.out hAl.out B.out.size)
  obtain ⟨p0, p1, p2, p3, p4⟩ : (w1.alloc (.cells #[.int .i64 d.state, .slice o1 d.slots.length c1, .slice o2 d.rings.length c2, .slice o3 d.spoilt.length c3, .slice o4 d.wait.length c4] 30)).cell? ⟨w1.heap.size, 0, none⟩ = some (.int .i64 d.state) ∧ (w1.alloc (.cells #[.int .i64 d.state, .slice o1 d.slots.length c1, .slice o2 d.rings.length c2, .slice o3 d.spoilt.length c3, .slice o4 d.wait.length c4] 30)).cell? ⟨w1.heap.size, 1, none⟩ = some (.slice o1 d.slots.length c1) ∧ (w1.alloc (.cells #[.int .i64 d.state, .slice o1 d.slots.length c1, .slice o2 d.rings.length c2, .slice o3 d.spoilt.length c3, .slice o4 d.wait.length c4] 30)).cell? ⟨w1.heap.size, 2, none⟩ = some (.slice o2 d.rings.length c2) ∧ (w1.alloc (.cells #[.int .i64 d.state, .slice o1 d.slots.length c1, .slice o2 d.rings.length c2, .slice o3 d.spoilt.length c3, .slice o4 d.wait.length c4] 30)).cell? ⟨w1.heap.size, 3, none⟩ = some (.slice o3 d.spoilt.length c3) ∧ (w1.alloc (.cells #[.int .i64 d.state, .slice o1 d.slots.length c1, .slice o2 d.rings.length c2, .slice o3 d.spoilt.length c3, .slice o4 d.wait.length c4] 30)).cell? ⟨w1.heap.size, 4, none⟩ = some (.slice o4 d.wait.length c4) := ⟨(KO.out.cell 0), (KO.out.cell 1), (KO.out.cell 2), (KO.out.cell 3), (KO.out.cell 4)⟩
  go_wp2_with fail
  generalize w1.alloc (.cells #[.int .i64 d.state, .slice o1 d.slots.length c1, .slice o2 d.rings.length c2, .slice o3 d.spoilt.length c3, .slice o4 d.wait.length c4] 30) = W1 at hAl KO VD B p0 p1 p2 p3 p4 ⊢
  refine (HI.out _ _ VD.out).mono ?_
  rintro e w2 ⟨v2, rfl, ow, hB2⟩
  clear p0 p1 p2 p3 p4
  have KO := Lib.hid (KO.out.below hB2 KO.out.lt)
  have VD := Lib.hid (VD.out.below hB2)
  have B := Lib.hid (below_trans B.out hB2 B.out.size)
  have VX := Lib.hid ow.reads
  have hx := ow.reads
  obtain ⟨_, _, _, _, rfl, ⟨x1, e1, rfl, _⟩, ⟨x2, e2, rfl, _⟩, ⟨x3, e3, rfl, _⟩, ⟨x4, e4, rfl, _⟩⟩ := hx
  clear ow hB2
  have hAl := Lib.hid (show Below w2.heap.size w2 (w2.alloc (.cells #[.int .i64 r.state, .slice x1 r.slots.length e1, .slice x2 r.rings.length e2, .slice x3 r.spoilt.length e3, .slice x4 r.wait.length e4] 30)) from (Below.refl _ _).alloc (Nat.le_refl _) _)
  have KX := Lib.hid (Blk.new w2 #[.int .i64 r.state, .slice x1 r.slots.length e1, .slice x2 r.rings.length e2, .slice x3 r.spoilt.length e3, .slice x4 r.wait.length e4] 30)
  have KO := Lib.hid (KO.out.below hAl.out KO.out.lt)
  have VD := Lib.hid (VD.out.below hAl.out)
  have VX := Lib.hid (VX.out.below hAl.out)
  have B := Lib.hid (below_trans B.out hAl.out B.out.size)
  obtain ⟨p0, p1, p2, p3, p4⟩ : (w2.alloc (.cells #[.int .i64 r.state, .slice x1 r.slots.length e1, .slice x2 r.rings.length e2, .slice x3 r.spoilt.length e3, .slice x4 r.wait.length e4] 30)).cell? ⟨w1.heap.size, 0, none⟩ = some (.int .i64 d.state) ∧ (w2.alloc (.cells #[.int .i64 r.state, .slice x1 r.slots.length e1, .slice x2 r.rings.length e2, .slice x3 r.spoilt.length e3, .slice x4 r.wait.length e4] 30)).cell? ⟨w1.heap.size, 1, none⟩ = some (.slice o1 d.slots.length c1) ∧ (w2.alloc (.cells #[.int .i64 r.state, .slice x1 r.slots.length e1, .slice x2 r.rings.length e2, .slice x3 r.spoilt.length e3, .slice x4 r.wait.length e4] 30)).cell? ⟨w1.heap.size, 2, none⟩ = some (.slice o2 d.rings.length c2) ∧ (w2.alloc (.cells #[.int .i64 r.state, .slice x1 r.slots.length e1, .slice x2 r.rings.length e2, .slice x3 r.spoilt.length e3, .slice x4 r.wait.length e4] 30)).cell? ⟨w1.heap.size, 3, none⟩ = some (.slice o3 d.spoilt.length c3) ∧ (w2.alloc (.cells #[.int .i64 r.state, .slice x1 r.slots.length e1, .slice x2 r.rings.length e2, .slice x3 r.spoilt.length e3, .slice x4 r.wait.length e4] 30)).cell? ⟨w1.heap.size, 4, none⟩ = some (.slice o4 d.wait.length c4) := ⟨(KO.out.cell 0), (KO.out.cell 1), (KO.out.cell 2), (KO.out.cell 3), (KO.out.cell 4)⟩
  obtain ⟨s0, s1, s2, s3, s4⟩ : (w2.alloc (.cells #[.int .i64 r.state, .slice x1 r.slots.length e1, .slice x2 r.rings.length e2, .slice x3 r.spoilt.length e3, .slice x4 r.wait.length e4] 30)).cell? ⟨w2.heap.size, 0, none⟩ = some (.int .i64 r.state) ∧ (w2.alloc (.cells #[.int .i64 r.state, .slice x1 r.slots.length e1, .slice x2 r.rings.length e2, .slice x3 r.spoilt.length e3, .slice x4 r.wait.length e4] 30)).cell? ⟨w2.heap.size, 1, none⟩ = some (.slice x1 r.slots.length e1) ∧ (w2.alloc (.cells #[.int .i64 r.state, .slice x1 r.slots.length e1, .slice x2 r.rings.length e2, .slice x3 r.spoilt.length e3, .slice x4 r.wait.length e4] 30)).cell? ⟨w2.heap.size, 2, none⟩ = some (.slice x2 r.rings.length e2) ∧ (w2.alloc (.cells #[.int .i64 r.state, .slice x1 r.slots.length e1, .slice x2 r.rings.length e2, .slice x3 r.spoilt.length e3, .slice x4 r.wait.length e4] 30)).cell? ⟨w2.heap.size, 3, none⟩ = some (.slice x3 r.spoilt.length e3) ∧ (w2.alloc (.cells #[.int .i64 r.state, .slice x1 r.slots.length e1, .slice x2 r.rings.length e2, .slice x3 r.spoilt.length e3, .slice x4 r.wait.length e4] 30)).cell? ⟨w2.heap.size, 4, none⟩ = some (.slice x4 r.wait.length e4) := ⟨(KX.out.cell 0), (KX.out.cell 1), (KX.out.cell 2), (KX.out.cell 3), (KX.out.cell 4)⟩
  go_upto_region 5 with (fail)
  generalize w2.alloc (.cells #[.int .i64 r.state, .slice x1 r.slots.length e1, .slice x2 r.rings.length e2, .slice x3 r.spoilt.length e3, .slice x4 r.wait.length e4] 30) = W2 at hAl KO KX VD VX B p0 p1 p2 p3 p4 s0 s1 s2 s3 s4 ⊢
  rcases HF with hz | ⟨hz, hw, hfine, hread, HI2⟩
  · have dz : ((r.slots.length : Int) == 0) = true := beq_iff_eq.2 (by omega)
    clear hz
    have cur : Hid (Below W2.heap.size W2 W2.drew) := (Below.refl _ _).drew
    go_region_held3 (fun w' => (w'.cell? ⟨w1.heap.size, 0, none⟩ = some (.int .i64 d.state) ∧ w'.cell? ⟨w1.heap.size, 1, none⟩ = some (.slice o1 d.slots.length c1) ∧ w'.cell? ⟨w1.heap.size, 2, none⟩ = some (.slice o2 d.rings.length c2) ∧ w'.cell? ⟨w1.heap.size, 3, none⟩ = some (.slice o3 d.spoilt.length c3) ∧ w'.cell? ⟨w1.heap.size, 4, none⟩ = some (.slice o4 d.wait.length c4)) ∧ (w'.cell? ⟨w2.heap.size, 0, none⟩ = some (.int .i64 r.state) ∧ w'.cell? ⟨w2.heap.size, 1, none⟩ = some (.slice x1 r.slots.length e1) ∧ w'.cell? ⟨w2.heap.size, 2, none⟩ = some (.slice x2 r.rings.length e2) ∧ w'.cell? ⟨w2.heap.size, 3, none⟩ = some (.slice x3 r.spoilt.length e3) ∧ w'.cell? ⟨w2.heap.size, 4, none⟩ = some (.slice x4 r.wait.length e4))) (first | with_reducible exact mm | go_keep)
      (first
        | (go_at_call 33; refine (HS.out _ _ (VD.out.below cur.out)).mono ?_; rintro e w7 ⟨v7, rfl, o7, hB7⟩; have V7 := Lib.hid o7.reads; have hx := o7.reads; obtain ⟨_, _, _, _, rfl, ⟨z1, j1, rfl, _⟩, ⟨z2, j2, rfl, _⟩, ⟨z3, j3, rfl, _⟩, ⟨z4, j4, rfl, _⟩⟩ := hx; clear o7; have cur := Lib.hid (below_trans cur.out hB7 cur.out.size); have mm := (⟨⟨((KO.out.below cur.out KO.out.lt).cell 0), ((KO.out.below cur.out KO.out.lt).cell 1), ((KO.out.below cur.out KO.out.lt).cell 2), ((KO.out.below cur.out KO.out.lt).cell 3), ((KO.out.below cur.out KO.out.lt).cell 4)⟩, ⟨((KX.out.below cur.out KX.out.lt).cell 0), ((KX.out.below cur.out KX.out.lt).cell 1), ((KX.out.below cur.out KX.out.lt).cell 2), ((KX.out.below cur.out KX.out.lt).cell 3), ((KX.out.below cur.out KX.out.lt).cell 4)⟩⟩ : (w7.cell? ⟨w1.heap.size, 0, none⟩ = some (.int .i64 d.state) ∧ w7.cell? ⟨w1.heap.size, 1, none⟩ = some (.slice o1 d.slots.length c1) ∧ w7.cell? ⟨w1.heap.size, 2, none⟩ = some (.slice o2 d.rings.length c2) ∧ w7.cell? ⟨w1.heap.size, 3, none⟩ = some (.slice o3 d.spoilt.length c3) ∧ w7.cell? ⟨w1.heap.size, 4, none⟩ = some (.slice o4 d.wait.length c4)) ∧ (w7.cell? ⟨w2.heap.size, 0, none⟩ = some (.int .i64 r.state) ∧ w7.cell? ⟨w2.heap.size, 1, none⟩ = some (.slice x1 r.slots.length e1) ∧ w7.cell? ⟨w2.heap.size, 2, none⟩ = some (.slice x2 r.rings.length e2) ∧ w7.cell? ⟨w2.heap.size, 3, none⟩ = some (.slice x3 r.spoilt.length e3) ∧ w7.cell? ⟨w2.heap.size, 4, none⟩ = some (.slice x4 r.wait.length e4))); clear hB7)
        | (go_at_call 24; refine (lpaDisk_same _ _ r _ (VX.out.below cur.out) V7.out).mono ?_; rintro e w8 ⟨rfl, hB8⟩; have cur := Lib.hid (below_trans cur.out hB8 cur.out.size); have mm := (⟨⟨((KO.out.below cur.out KO.out.lt).cell 0), ((KO.out.below cur.out KO.out.lt).cell 1), ((KO.out.below cur.out KO.out.lt).cell 2), ((KO.out.below cur.out KO.out.lt).cell 3), ((KO.out.below cur.out KO.out.lt).cell 4)⟩, ⟨((KX.out.below cur.out KX.out.lt).cell 0), ((KX.out.below cur.out KX.out.lt).cell 1), ((KX.out.below cur.out KX.out.lt).cell 2), ((KX.out.below cur.out KX.out.lt).cell 3), ((KX.out.below cur.out KX.out.lt).cell 4)⟩⟩ : (w8.cell? ⟨w1.heap.size, 0, none⟩ = some (.int .i64 d.state) ∧ w8.cell? ⟨w1.heap.size, 1, none⟩ = some (.slice o1 d.slots.length c1) ∧ w8.cell? ⟨w1.heap.size, 2, none⟩ = some (.slice o2 d.rings.length c2) ∧ w8.cell? ⟨w1.heap.size, 3, none⟩ = some (.slice o3 d.spoilt.length c3) ∧ w8.cell? ⟨w1.heap.size, 4, none⟩ = some (.slice o4 d.wait.length c4)) ∧ (w8.cell? ⟨w2.heap.size, 0, none⟩ = some (.int .i64 r.state) ∧ w8.cell? ⟨w2.heap.size, 1, none⟩ = some (.slice x1 r.slots.length e1) ∧ w8.cell? ⟨w2.heap.size, 2, none⟩ = some (.slice x2 r.rings.length e2) ∧ w8.cell? ⟨w2.heap.size, 3, none⟩ = some (.slice x3 r.spoilt.length e3) ∧ w8.cell? ⟨w2.heap.size, 4, none⟩ = some (.slice x4 r.wait.length e4))); clear hB8))
    clear p0 p1 p2 p3 p4
    clear s0 s1 s2 s3 s4
    have KO := Lib.hid (KO.out.below cur.out KO.out.lt)
    have KX := Lib.hid (KX.out.below cur.out KX.out.lt)
    have VD := Lib.hid (VD.out.below cur.out)
    have VX := Lib.hid (VX.out.below cur.out)
    have B := Lib.hid (below_trans B.out cur.out B.out.size)
    clear cur
    clear V7
    obtain ⟨W3, e3⟩ : ∃ x, x = w8 := ⟨_, rfl⟩
    subst e3
    obtain ⟨p0, p1, p2, p3, p4⟩ : W3.cell? ⟨w1.heap.size, 0, none⟩ = some (.int .i64 d.state) ∧ W3.cell? ⟨w1.heap.size, 1, none⟩ = some (.slice o1 d.slots.length c1) ∧ W3.cell? ⟨w1.heap.size, 2, none⟩ = some (.slice o2 d.rings.length c2) ∧ W3.cell? ⟨w1.heap.size, 3, none⟩ = some (.slice o3 d.spoilt.length c3) ∧ W3.cell? ⟨w1.heap.size, 4, none⟩ = some (.slice o4 d.wait.length c4) := ⟨(KO.out.cell 0), (KO.out.cell 1), (KO.out.cell 2), (KO.out.cell 3), (KO.out.cell 4)⟩
    obtain ⟨s0, s1, s2, s3, s4⟩ : W3.cell? ⟨w2.heap.size, 0, none⟩ = some (.int .i64 r.state) ∧ W3.cell? ⟨w2.heap.size, 1, none⟩ = some (.slice x1 r.slots.length e1) ∧ W3.cell? ⟨w2.heap.size, 2, none⟩ = some (.slice x2 r.rings.length e2) ∧ W3.cell? ⟨w2.heap.size, 3, none⟩ = some (.slice x3 r.spoilt.length e3) ∧ W3.cell? ⟨w2.heap.size, 4, none⟩ = some (.slice x4 r.wait.length e4) := ⟨(KX.out.cell 0), (KX.out.cell 1), (KX.out.cell 2), (KX.out.cell 3), (KX.out.cell 4)⟩
    have cur : Hid (Below W3.heap.size W3 W3.drew) := (Below.refl _ _).drew
    go_wp2_with fail
    go_region_held3 (fun w' => (w'.cell? ⟨w1.heap.size, 0, none⟩ = some (.int .i64 d.state) ∧ w'.cell? ⟨w1.heap.size, 1, none⟩ = some (.slice o1 d.slots.length c1) ∧ w'.cell? ⟨w1.heap.size, 2, none⟩ = some (.slice o2 d.rings.length c2) ∧ w'.cell? ⟨w1.heap.size, 3, none⟩ = some (.slice o3 d.spoilt.length c3) ∧ w'.cell? ⟨w1.heap.size, 4, none⟩ = some (.slice o4 d.wait.length c4)) ∧ (w'.cell? ⟨w2.heap.size, 0, none⟩ = some (.int .i64 r.state) ∧ w'.cell? ⟨w2.heap.size, 1, none⟩ = some (.slice x1 r.slots.length e1) ∧ w'.cell? ⟨w2.heap.size, 2, none⟩ = some (.slice x2 r.rings.length e2) ∧ w'.cell? ⟨w2.heap.size, 3, none⟩ = some (.slice x3 r.spoilt.length e3) ∧ w'.cell? ⟨w2.heap.size, 4, none⟩ = some (.slice x4 r.wait.length e4))) (first | with_reducible exact mm | go_keep)
      (first
        | (go_at_call 33; refine (HS.out _ _ (VD.out.below cur.out)).mono ?_; rintro e w7 ⟨v7, rfl, o7, hB7⟩; have V7 := Lib.hid o7.reads; have hx := o7.reads; obtain ⟨_, _, _, _, rfl, ⟨z1, j1, rfl, _⟩, ⟨z2, j2, rfl, _⟩, ⟨z3, j3, rfl, _⟩, ⟨z4, j4, rfl, _⟩⟩ := hx; clear o7; have cur := Lib.hid (below_trans cur.out hB7 cur.out.size); have mm := (⟨⟨((KO.out.below cur.out KO.out.lt).cell 0), ((KO.out.below cur.out KO.out.lt).cell 1), ((KO.out.below cur.out KO.out.lt).cell 2), ((KO.out.below cur.out KO.out.lt).cell 3), ((KO.out.below cur.out KO.out.lt).cell 4)⟩, ⟨((KX.out.below cur.out KX.out.lt).cell 0), ((KX.out.below cur.out KX.out.lt).cell 1), ((KX.out.below cur.out KX.out.lt).cell 2), ((KX.out.below cur.out KX.out.lt).cell 3), ((KX.out.below cur.out KX.out.lt).cell 4)⟩⟩ : (w7.cell? ⟨w1.heap.size, 0, none⟩ = some (.int .i64 d.state) ∧ w7.cell? ⟨w1.heap.size, 1, none⟩ = some (.slice o1 d.slots.length c1) ∧ w7.cell? ⟨w1.heap.size, 2, none⟩ = some (.slice o2 d.rings.length c2) ∧ w7.cell? ⟨w1.heap.size, 3, none⟩ = some (.slice o3 d.spoilt.length c3) ∧ w7.cell? ⟨w1.heap.size, 4, none⟩ = some (.slice o4 d.wait.length c4)) ∧ (w7.cell? ⟨w2.heap.size, 0, none⟩ = some (.int .i64 r.state) ∧ w7.cell? ⟨w2.heap.size, 1, none⟩ = some (.slice x1 r.slots.length e1) ∧ w7.cell? ⟨w2.heap.size, 2, none⟩ = some (.slice x2 r.rings.length e2) ∧ w7.cell? ⟨w2.heap.size, 3, none⟩ = some (.slice x3 r.spoilt.length e3) ∧ w7.cell? ⟨w2.heap.size, 4, none⟩ = some (.slice x4 r.wait.length e4))); clear hB7)
        | (go_at_call 24; refine (lpaDisk_same _ _ r _ (VX.out.below cur.out) V7.out).mono ?_; rintro e w8 ⟨rfl, hB8⟩; have cur := Lib.hid (below_trans cur.out hB8 cur.out.size); have mm := (⟨⟨((KO.out.below cur.out KO.out.lt).cell 0), ((KO.out.below cur.out KO.out.lt).cell 1), ((KO.out.below cur.out KO.out.lt).cell 2), ((KO.out.below cur.out KO.out.lt).cell 3), ((KO.out.below cur.out KO.out.lt).cell 4)⟩, ⟨((KX.out.below cur.out KX.out.lt).cell 0), ((KX.out.below cur.out KX.out.lt).cell 1), ((KX.out.below cur.out KX.out.lt).cell 2), ((KX.out.below cur.out KX.out.lt).cell 3), ((KX.out.below cur.out KX.out.lt).cell 4)⟩⟩ : (w8.cell? ⟨w1.heap.size, 0, none⟩ = some (.int .i64 d.state) ∧ w8.cell? ⟨w1.heap.size, 1, none⟩ = some (.slice o1 d.slots.length c1) ∧ w8.cell? ⟨w1.heap.size, 2, none⟩ = some (.slice o2 d.rings.length c2) ∧ w8.cell? ⟨w1.heap.size, 3, none⟩ = some (.slice o3 d.spoilt.length c3) ∧ w8.cell? ⟨w1.heap.size, 4, none⟩ = some (.slice o4 d.wait.length c4)) ∧ (w8.cell? ⟨w2.heap.size, 0, none⟩ = some (.int .i64 r.state) ∧ w8.cell? ⟨w2.heap.size, 1, none⟩ = some (.slice x1 r.slots.length e1) ∧ w8.cell? ⟨w2.heap.size, 2, none⟩ = some (.slice x2 r.rings.length e2) ∧ w8.cell? ⟨w2.heap.size, 3, none⟩ = some (.slice x3 r.spoilt.length e3) ∧ w8.cell? ⟨w2.heap.size, 4, none⟩ = some (.slice x4 r.wait.length e4))); clear hB8))
    clear p0 p1 p2 p3 p4
    clear s0 s1 s2 s3 s4
    have KO := Lib.hid (KO.out.below cur.out KO.out.lt)
    have KX := Lib.hid (KX.out.below cur.out KX.out.lt)
    have VD := Lib.hid (VD.out.below cur.out)
    have VX := Lib.hid (VX.out.below cur.out)
    have B := Lib.hid (below_trans B.out cur.out B.out.size)
    clear cur
    go_wp2
    go_ret
    exact ⟨rfl, B.out⟩
  · have dz : ((r.slots.length : Int) == 0) = false := beq_eq_false_iff_ne.2 (by omega)
    have dw : ((r.wait.length : Int) == 0) = true := beq_iff_eq.2 (by omega)
    have HOk := Lib.hid (fun v W hv => implOk_any v r W hv)
    rw [tt_true hfine] at HOk
    clear hz hw hfine
    have cur : Hid (Below W2.heap.size W2 W2.drew) := (Below.refl _ _).drew
    go_region_held3 (fun w' => (w'.cell? ⟨w1.heap.size, 0, none⟩ = some (.int .i64 d.state) ∧ w'.cell? ⟨w1.heap.size, 1, none⟩ = some (.slice o1 d.slots.length c1) ∧ w'.cell? ⟨w1.heap.size, 2, none⟩ = some (.slice o2 d.rings.length c2) ∧ w'.cell? ⟨w1.heap.size, 3, none⟩ = some (.slice o3 d.spoilt.length c3) ∧ w'.cell? ⟨w1.heap.size, 4, none⟩ = some (.slice o4 d.wait.length c4)) ∧ (w'.cell? ⟨w2.heap.size, 0, none⟩ = some (.int .i64 r.state) ∧ w'.cell? ⟨w2.heap.size, 1, none⟩ = some (.slice x1 r.slots.length e1) ∧ w'.cell? ⟨w2.heap.size, 2, none⟩ = some (.slice x2 r.rings.length e2) ∧ w'.cell? ⟨w2.heap.size, 3, none⟩ = some (.slice x3 r.spoilt.length e3) ∧ w'.cell? ⟨w2.heap.size, 4, none⟩ = some (.slice x4 r.wait.length e4))) (first | with_reducible exact mm | go_keep)
      (first
        | (go_at_call 33; refine (HS.out _ _ (VD.out.below cur.out)).mono ?_; rintro e w7 ⟨v7, rfl, o7, hB7⟩; have V7 := Lib.hid o7.reads; have hx := o7.reads; obtain ⟨_, _, _, _, rfl, ⟨z1, j1, rfl, _⟩, ⟨z2, j2, rfl, _⟩, ⟨z3, j3, rfl, _⟩, ⟨z4, j4, rfl, _⟩⟩ := hx; clear o7; have cur := Lib.hid (below_trans cur.out hB7 cur.out.size); have mm := (⟨⟨((KO.out.below cur.out KO.out.lt).cell 0), ((KO.out.below cur.out KO.out.lt).cell 1), ((KO.out.below cur.out KO.out.lt).cell 2), ((KO.out.below cur.out KO.out.lt).cell 3), ((KO.out.below cur.out KO.out.lt).cell 4)⟩, ⟨((KX.out.below cur.out KX.out.lt).cell 0), ((KX.out.below cur.out KX.out.lt).cell 1), ((KX.out.below cur.out KX.out.lt).cell 2), ((KX.out.below cur.out KX.out.lt).cell 3), ((KX.out.below cur.out KX.out.lt).cell 4)⟩⟩ : (w7.cell? ⟨w1.heap.size, 0, none⟩ = some (.int .i64 d.state) ∧ w7.cell? ⟨w1.heap.size, 1, none⟩ = some (.slice o1 d.slots.length c1) ∧ w7.cell? ⟨w1.heap.size, 2, none⟩ = some (.slice o2 d.rings.length c2) ∧ w7.cell? ⟨w1.heap.size, 3, none⟩ = some (.slice o3 d.spoilt.length c3) ∧ w7.cell? ⟨w1.heap.size, 4, none⟩ = some (.slice o4 d.wait.length c4)) ∧ (w7.cell? ⟨w2.heap.size, 0, none⟩ = some (.int .i64 r.state) ∧ w7.cell? ⟨w2.heap.size, 1, none⟩ = some (.slice x1 r.slots.length e1) ∧ w7.cell? ⟨w2.heap.size, 2, none⟩ = some (.slice x2 r.rings.length e2) ∧ w7.cell? ⟨w2.heap.size, 3, none⟩ = some (.slice x3 r.spoilt.length e3) ∧ w7.cell? ⟨w2.heap.size, 4, none⟩ = some (.slice x4 r.wait.length e4))); clear hB7)
        | (go_at_call 24; refine (lpaDisk_same _ _ r _ (VX.out.below cur.out) V7.out).mono ?_; rintro e w8 ⟨rfl, hB8⟩; have cur := Lib.hid (below_trans cur.out hB8 cur.out.size); have mm := (⟨⟨((KO.out.below cur.out KO.out.lt).cell 0), ((KO.out.below cur.out KO.out.lt).cell 1), ((KO.out.below cur.out KO.out.lt).cell 2), ((KO.out.below cur.out KO.out.lt).cell 3), ((KO.out.below cur.out KO.out.lt).cell 4)⟩, ⟨((KX.out.below cur.out KX.out.lt).cell 0), ((KX.out.below cur.out KX.out.lt).cell 1), ((KX.out.below cur.out KX.out.lt).cell 2), ((KX.out.below cur.out KX.out.lt).cell 3), ((KX.out.below cur.out KX.out.lt).cell 4)⟩⟩ : (w8.cell? ⟨w1.heap.size, 0, none⟩ = some (.int .i64 d.state) ∧ w8.cell? ⟨w1.heap.size, 1, none⟩ = some (.slice o1 d.slots.length c1) ∧ w8.cell? ⟨w1.heap.size, 2, none⟩ = some (.slice o2 d.rings.length c2) ∧ w8.cell? ⟨w1.heap.size, 3, none⟩ = some (.slice o3 d.spoilt.length c3) ∧ w8.cell? ⟨w1.heap.size, 4, none⟩ = some (.slice o4 d.wait.length c4)) ∧ (w8.cell? ⟨w2.heap.size, 0, none⟩ = some (.int .i64 r.state) ∧ w8.cell? ⟨w2.heap.size, 1, none⟩ = some (.slice x1 r.slots.length e1) ∧ w8.cell? ⟨w2.heap.size, 2, none⟩ = some (.slice x2 r.rings.length e2) ∧ w8.cell? ⟨w2.heap.size, 3, none⟩ = some (.slice x3 r.spoilt.length e3) ∧ w8.cell? ⟨w2.heap.size, 4, none⟩ = some (.slice x4 r.wait.length e4))); clear hB8))
    clear p0 p1 p2 p3 p4
    clear s0 s1 s2 s3 s4
    have KO := Lib.hid (KO.out.below cur.out KO.out.lt)
    have KX := Lib.hid (KX.out.below cur.out KX.out.lt)
    have VD := Lib.hid (VD.out.below cur.out)
    have VX := Lib.hid (VX.out.below cur.out)
    have B := Lib.hid (below_trans B.out cur.out B.out.size)
    clear cur
    clear V7
    go_wp2_with fail
    go_loopw [5] (fun i wr => ∃ k : Nat, i = .int .i64 (k : Int) ∧ k ≤ 12 ∧ Hid (Below w8.heap.size w8 wr)) (fun i _ => 12 - (intOf i).toNat)
    case atStart => exact ⟨0, rfl, by omega, Below.refl _ _⟩
    case round =>
      obtain ⟨k, rfl, hk, hBr⟩ := hrel
      have KO := Lib.hid (KO.out.below hBr.out KO.out.lt)
      have KX := Lib.hid (KX.out.below hBr.out KX.out.lt)
      have VD := Lib.hid (VD.out.below hBr.out)
      have VX := Lib.hid (VX.out.below hBr.out)
      have B := Lib.hid (below_trans B.out hBr.out B.out.size)
      obtain ⟨p0, p1, p2, p3, p4⟩ : wr.cell? ⟨w1.heap.size, 0, none⟩ = some (.int .i64 d.state) ∧ wr.cell? ⟨w1.heap.size, 1, none⟩ = some (.slice o1 d.slots.length c1) ∧ wr.cell? ⟨w1.heap.size, 2, none⟩ = some (.slice o2 d.rings.length c2) ∧ wr.cell? ⟨w1.heap.size, 3, none⟩ = some (.slice o3 d.spoilt.length c3) ∧ wr.cell? ⟨w1.heap.size, 4, none⟩ = some (.slice o4 d.wait.length c4) := ⟨(KO.out.cell 0), (KO.out.cell 1), (KO.out.cell 2), (KO.out.cell 3), (KO.out.cell 4)⟩
      obtain ⟨s0, s1, s2, s3, s4⟩ : wr.cell? ⟨w2.heap.size, 0, none⟩ = some (.int .i64 r.state) ∧ wr.cell? ⟨w2.heap.size, 1, none⟩ = some (.slice x1 r.slots.length e1) ∧ wr.cell? ⟨w2.heap.size, 2, none⟩ = some (.slice x2 r.rings.length e2) ∧ wr.cell? ⟨w2.heap.size, 3, none⟩ = some (.slice x3 r.spoilt.length e3) ∧ wr.cell? ⟨w2.heap.size, 4, none⟩ = some (.slice x4 r.wait.length e4) := ⟨(KX.out.cell 0), (KX.out.cell 1), (KX.out.cell 2), (KX.out.cell 3), (KX.out.cell 4)⟩
      by_cases hlt : k < 12
      · have hr0 := hread.out k hlt
        go_wp2_with fail
        refine (implRead_any _ d (k : Int) _ VD.out).mono ?_
        rintro e w9 ⟨rfl, hB9⟩
        clear p0 p1 p2 p3 p4
        clear s0 s1 s2 s3 s4
        have KO := Lib.hid (KO.out.below hB9 KO.out.lt)
        have KX := Lib.hid (KX.out.below hB9 KX.out.lt)
        have VD := Lib.hid (VD.out.below hB9)
        have VX := Lib.hid (VX.out.below hB9)
        have B := Lib.hid (below_trans B.out hB9 B.out.size)
        obtain ⟨p0, p1, p2, p3, p4⟩ : w9.cell? ⟨w1.heap.size, 0, none⟩ = some (.int .i64 d.state) ∧ w9.cell? ⟨w1.heap.size, 1, none⟩ = some (.slice o1 d.slots.length c1) ∧ w9.cell? ⟨w1.heap.size, 2, none⟩ = some (.slice o2 d.rings.length c2) ∧ w9.cell? ⟨w1.heap.size, 3, none⟩ = some (.slice o3 d.spoilt.length c3) ∧ w9.cell? ⟨w1.heap.size, 4, none⟩ = some (.slice o4 d.wait.length c4) := ⟨(KO.out.cell 0), (KO.out.cell 1), (KO.out.cell 2), (KO.out.cell 3), (KO.out.cell 4)⟩
        obtain ⟨s0, s1, s2, s3, s4⟩ : w9.cell? ⟨w2.heap.size, 0, none⟩ = some (.int .i64 r.state) ∧ w9.cell? ⟨w2.heap.size, 1, none⟩ = some (.slice x1 r.slots.length e1) ∧ w9.cell? ⟨w2.heap.size, 2, none⟩ = some (.slice x2 r.rings.length e2) ∧ w9.cell? ⟨w2.heap.size, 3, none⟩ = some (.slice x3 r.spoilt.length e3) ∧ w9.cell? ⟨w2.heap.size, 4, none⟩ = some (.slice x4 r.wait.length e4) := ⟨(KX.out.cell 0), (KX.out.cell 1), (KX.out.cell 2), (KX.out.cell 3), (KX.out.cell 4)⟩
        go_wp2_with fail
        refine (implRead_any _ r (k : Int) _ VX.out).mono ?_
        rintro e w10 ⟨rfl, hB10⟩
        rw [hr0]
        generalize readD d (k : Int) = tx
        generalize isThere tx = bx
        have bb : (bx != bx) = false := by simp
        go_wp2
        exact ⟨⟨k + 1, by go_num, by omega, below_trans hBr.out (below_trans hB9 hB10 hB9.size) hBr.out.size⟩, by simp [intOf]; omega⟩
      · obtain rfl : k = 12 := by omega
        go_upto_region 14 with (fail)
        have cur : Hid (Below wr.heap.size wr wr.drew) := (Below.refl _ _).drew
        go_region_held3 (fun w' => (w'.cell? ⟨w1.heap.size, 0, none⟩ = some (.int .i64 d.state) ∧ w'.cell? ⟨w1.heap.size, 1, none⟩ = some (.slice o1 d.slots.length c1) ∧ w'.cell? ⟨w1.heap.size, 2, none⟩ = some (.slice o2 d.rings.length c2) ∧ w'.cell? ⟨w1.heap.size, 3, none⟩ = some (.slice o3 d.spoilt.length c3) ∧ w'.cell? ⟨w1.heap.size, 4, none⟩ = some (.slice o4 d.wait.length c4)) ∧ (w'.cell? ⟨w2.heap.size, 0, none⟩ = some (.int .i64 r.state) ∧ w'.cell? ⟨w2.heap.size, 1, none⟩ = some (.slice x1 r.slots.length e1) ∧ w'.cell? ⟨w2.heap.size, 2, none⟩ = some (.slice x2 r.rings.length e2) ∧ w'.cell? ⟨w2.heap.size, 3, none⟩ = some (.slice x3 r.spoilt.length e3) ∧ w'.cell? ⟨w2.heap.size, 4, none⟩ = some (.slice x4 r.wait.length e4))) (first | with_reducible exact mm | go_keep)
          (first
            | (go_at_call 27; refine (HOk.out _ _ (VX.out.below cur.out)).mono ?_; rintro e w6 ⟨rfl, hB6⟩; have cur := Lib.hid (below_trans cur.out hB6 cur.out.size); have mm := (⟨⟨((KO.out.below cur.out KO.out.lt).cell 0), ((KO.out.below cur.out KO.out.lt).cell 1), ((KO.out.below cur.out KO.out.lt).cell 2), ((KO.out.below cur.out KO.out.lt).cell 3), ((KO.out.below cur.out KO.out.lt).cell 4)⟩, ⟨((KX.out.below cur.out KX.out.lt).cell 0), ((KX.out.below cur.out KX.out.lt).cell 1), ((KX.out.below cur.out KX.out.lt).cell 2), ((KX.out.below cur.out KX.out.lt).cell 3), ((KX.out.below cur.out KX.out.lt).cell 4)⟩⟩ : (w6.cell? ⟨w1.heap.size, 0, none⟩ = some (.int .i64 d.state) ∧ w6.cell? ⟨w1.heap.size, 1, none⟩ = some (.slice o1 d.slots.length c1) ∧ w6.cell? ⟨w1.heap.size, 2, none⟩ = some (.slice o2 d.rings.length c2) ∧ w6.cell? ⟨w1.heap.size, 3, none⟩ = some (.slice o3 d.spoilt.length c3) ∧ w6.cell? ⟨w1.heap.size, 4, none⟩ = some (.slice o4 d.wait.length c4)) ∧ (w6.cell? ⟨w2.heap.size, 0, none⟩ = some (.int .i64 r.state) ∧ w6.cell? ⟨w2.heap.size, 1, none⟩ = some (.slice x1 r.slots.length e1) ∧ w6.cell? ⟨w2.heap.size, 2, none⟩ = some (.slice x2 r.rings.length e2) ∧ w6.cell? ⟨w2.heap.size, 3, none⟩ = some (.slice x3 r.spoilt.length e3) ∧ w6.cell? ⟨w2.heap.size, 4, none⟩ = some (.slice x4 r.wait.length e4))); clear hB6)
            | (go_at_call 32; refine (HI2.out _ _ (VX.out.below cur.out)).mono ?_; rintro e w7 ⟨v7, rfl, o7, hB7⟩; have V7 := Lib.hid o7.reads; have hx := o7.reads; obtain ⟨_, _, _, _, rfl, ⟨z1, j1, rfl, _⟩, ⟨z2, j2, rfl, _⟩, ⟨z3, j3, rfl, _⟩, ⟨z4, j4, rfl, _⟩⟩ := hx; clear o7; have cur := Lib.hid (below_trans cur.out hB7 cur.out.size); have mm := (⟨⟨((KO.out.below cur.out KO.out.lt).cell 0), ((KO.out.below cur.out KO.out.lt).cell 1), ((KO.out.below cur.out KO.out.lt).cell 2), ((KO.out.below cur.out KO.out.lt).cell 3), ((KO.out.below cur.out KO.out.lt).cell 4)⟩, ⟨((KX.out.below cur.out KX.out.lt).cell 0), ((KX.out.below cur.out KX.out.lt).cell 1), ((KX.out.below cur.out KX.out.lt).cell 2), ((KX.out.below cur.out KX.out.lt).cell 3), ((KX.out.below cur.out KX.out.lt).cell 4)⟩⟩ : (w7.cell? ⟨w1.heap.size, 0, none⟩ = some (.int .i64 d.state) ∧ w7.cell? ⟨w1.heap.size, 1, none⟩ = some (.slice o1 d.slots.length c1) ∧ w7.cell? ⟨w1.heap.size, 2, none⟩ = some (.slice o2 d.rings.length c2) ∧ w7.cell? ⟨w1.heap.size, 3, none⟩ = some (.slice o3 d.spoilt.length c3) ∧ w7.cell? ⟨w1.heap.size, 4, none⟩ = some (.slice o4 d.wait.length c4)) ∧ (w7.cell? ⟨w2.heap.size, 0, none⟩ = some (.int .i64 r.state) ∧ w7.cell? ⟨w2.heap.size, 1, none⟩ = some (.slice x1 r.slots.length e1) ∧ w7.cell? ⟨w2.heap.size, 2, none⟩ = some (.slice x2 r.rings.length e2) ∧ w7.cell? ⟨w2.heap.size, 3, none⟩ = some (.slice x3 r.spoilt.length e3) ∧ w7.cell? ⟨w2.heap.size, 4, none⟩ = some (.slice x4 r.wait.length e4))); clear hB7)
            | (go_at_call 24; refine (lpaDisk_same _ _ r _ V7.out (VX.out.below cur.out)).mono ?_; rintro e w8 ⟨rfl, hB8⟩; have cur := Lib.hid (below_trans cur.out hB8 cur.out.size); have mm := (⟨⟨((KO.out.below cur.out KO.out.lt).cell 0), ((KO.out.below cur.out KO.out.lt).cell 1), ((KO.out.below cur.out KO.out.lt).cell 2), ((KO.out.below cur.out KO.out.lt).cell 3), ((KO.out.below cur.out KO.out.lt).cell 4)⟩, ⟨((KX.out.below cur.out KX.out.lt).cell 0), ((KX.out.below cur.out KX.out.lt).cell 1), ((KX.out.below cur.out KX.out.lt).cell 2), ((KX.out.below cur.out KX.out.lt).cell 3), ((KX.out.below cur.out KX.out.lt).cell 4)⟩⟩ : (w8.cell? ⟨w1.heap.size, 0, none⟩ = some (.int .i64 d.state) ∧ w8.cell? ⟨w1.heap.size, 1, none⟩ = some (.slice o1 d.slots.length c1) ∧ w8.cell? ⟨w1.heap.size, 2, none⟩ = some (.slice o2 d.rings.length c2) ∧ w8.cell? ⟨w1.heap.size, 3, none⟩ = some (.slice o3 d.spoilt.length c3) ∧ w8.cell? ⟨w1.heap.size, 4, none⟩ = some (.slice o4 d.wait.length c4)) ∧ (w8.cell? ⟨w2.heap.size, 0, none⟩ = some (.int .i64 r.state) ∧ w8.cell? ⟨w2.heap.size, 1, none⟩ = some (.slice x1 r.slots.length e1) ∧ w8.cell? ⟨w2.heap.size, 2, none⟩ = some (.slice x2 r.rings.length e2) ∧ w8.cell? ⟨w2.heap.size, 3, none⟩ = some (.slice x3 r.spoilt.length e3) ∧ w8.cell? ⟨w2.heap.size, 4, none⟩ = some (.slice x4 r.wait.length e4))); clear hB8))
        clear p0 p1 p2 p3 p4
        clear s0 s1 s2 s3 s4
        have KO := Lib.hid (KO.out.below cur.out KO.out.lt)
        have KX := Lib.hid (KX.out.below cur.out KX.out.lt)
        have VD := Lib.hid (VD.out.below cur.out)
        have VX := Lib.hid (VX.out.below cur.out)
        have B := Lib.hid (below_trans B.out cur.out B.out.size)
        clear cur
        go_wp2
        go_ret
        exact ⟨rfl, B.out⟩

set_option maxRecDepth 100000 in
set_option maxHeartbeats 1000000 in
theorem walk (a0 : Option Addr) (len0 cap0 : Nat) (z0 : List Int) (w : World) (w0 : IsBytes w a0 len0 cap0 z0) :
    Calls Try.prog 6 #[.slice a0 len0 cap0] w fun e w' => e = .returned (.bool true) ∧ Below w.heap.size w w' := by
  by_cases h0 : len0 ≤ 1048576
  · exact main a0 len0 cap0 z0 w h0 w0
  · have hm : len0 ≤ maxLen := by have := w0.opened; omega
    have d0 : decide (1048576 < (len0 : Int)) = true := by simp; omega
    clear w0
    go_enter Try.func6, Try.ntmps6
    go_wp2
    go_ret
    exact ⟨rfl, Below.refl _ _⟩

set_option maxRecDepth 100000 in
theorem lifted (os : Os) (started : os.Started) (H : Type) (enc : TypeId × Value → H) :
    ReturnsInHanded {} Try.checked os 6 .any (Rows.fnDiskFlushSpec.pre6 enc Try.prog Try.f6 Rows.fnDiskFlushRow.domain false) (Rows.fnDiskFlushSpec.post enc Try.prog Try.f6 false true false false) := by
  refine returnsInHanded_of_change (C := Try.checked) own started (by kernel_rfl) Try.func6
    (ChangeSpec.witness6 (enc := enc) (C := Try.checked) false ⟨#[], #[.slice none 0 0], []⟩ 8 (by kernel_rfl) (by kernel_rfl) (by kernel_rfl) (by kernel_rfl)) ?_
  intro W base args ds gs before hval0 hW hcnd _
  have hval : ∀ (j : Nat) t v, Try.f6.params[j]? = some t → args[j]? = some v → Value.okWide Try.prog W .any base t v := hval0
  have hW' := hW
  obtain ⟨p, q, hA0, hV, rfl, hfz, hnd⟩ := hW
  have hA : DataW.TrodAll enc Try.prog W 0 (fun _ => true) true Try.f6.params.toList args.toList ds p := hA0
  rw [Try.params6] at hA hval
  obtain ⟨v0, vs0, d0, ds0, p0, q0, hargs, rfl, rfl, h0, r0⟩ := trodAll_cons hA
  obtain ⟨rfl, rfl, rfl⟩ := trodAll_nil r0
  obtain rfl : args = #[v0] := by cases args; simp_all
  obtain ⟨rfl, rfl⟩ := trodVars_none hV
  have k0 := h0
  have lt0 : ∀ x ∈ p0, x.block < W.heap.size := by obtain ⟨m, hm⟩ := k0; exact DataW.trod_lt m _ _ _ hm
  obtain ⟨a0, len0, cap0, rfl⟩ := okWide_slice Try.underlying36 (hval 0 36 v0 rfl rfl)
  obtain ⟨z0, w0⟩ : ∃ zs, IsBytes W a0 len0 cap0 zs := by
    obtain ⟨fuel, hf⟩ := h0
    rcases open_ints Try.underlying36 Try.underlying5 (by kernel_rfl) hf with ⟨hcs, _⟩ | ⟨x, l, c, zs, hcs, _, hl, hm, hz, _, hcell, hwz⟩
    · simp [Value.cells] at hcs
      obtain ⟨rfl, rfl, rfl⟩ := hcs
      exact ⟨[], .inl ⟨rfl, rfl, rfl, rfl⟩⟩
    · simp [Value.cells] at hcs
      obtain ⟨rfl, rfl, rfl⟩ := hcs
      exact ⟨zs, .inr ⟨_, rfl, hl, hm, by simpa using hz, hcell, hwz⟩⟩
  clear hA0 hval0
  refine (walk a0 len0 cap0 z0 W w0).mono fun e W' ⟨he, bel⟩ => ?_
  subst he
  exact ⟨_, rfl, _, _, _, [], _, [], hW', trodAll_mk1 (shut_bool Try.underlying4 _), (trodAll_cons_mk (Below.trod laidOut (by kernel_rfl) (of_decide_eq_true (by kernel_rfl)) k0 bel lt0) trodAll_mk0), rfl, bel.frame _, fun h => by cases h⟩

theorem over : Rows.fnDiskFlushRow.holds Try.pinned (OpenSpec.ofChange Rows.fnDiskFlushSpec) :=
  OpenClaim.holds_of_wide 6 Try.f6 rfl rfl rfl rfl rfl rfl rfl ⟨rfl, rfl, rfl, rfl, rfl⟩ rfl rfl rfl rfl rfl (by kernel_rfl) Try.func6 (by kernel_rfl)
    (of_decide_eq_true (by kernel_rfl)) (by unfold Func.isWrapper; first | (rw [if_pos (by decide +kernel)]; kernel_rfl) | (rw [if_neg (by decide +kernel)]; exact ⟨rfl, rfl⟩))
    (fun os started H enc _ => lifted os started H enc)

end FnDiskFlush

theorem FnDiskFlush_holds : Rows.FnDiskFlushSaid := FnDiskFlush.over

end Go.Proofs.Ytbkagnlomlnhcaa

/- 'laws.FnDiskPut' returns true at every code: of a drawn disk and write DiskPut of the program answers as DiskPut of the specification; what was written is read, all else as it was; the disk stays ok, and one that is gone as it is. Conditions: none. -/
import Derived.Test.YtbkagnlomlnhcaaK
import Derived.Test.YtbkagnlomlnhcaaN2
import Derived.Test.YtbkagnlomlnhcaaY6
import Derived.Test.YtbkagnlomlnhcaaV6
namespace Go.Proofs.Ytbkagnlomlnhcaa
open Go.ChangeShapes Go.WideShapes Go.ChangeAt Go.RowKit Go.Sort
namespace FnDiskPut
set_option linter.unusedVariables false

theorem there3 {t : ByteArray} (h : t.size = 3) : isThere t = true := by
  unfold isThere
  rw [tt_false (show ¬Empty0 t from fun e => by unfold Empty0 at e; omega)]
  rfl
theorem choose (d : DiskD) (x : PutD) : ∃ r : DiskD, Hid (∀ u W, DiskV W u d → Calls Try.prog 30 #[u, .agg #[.bool x.ring, .int .i64 x.pos, .string x.text]] W (NewDisk r W)) ∧ Hid (∀ u W, DiskV W u d → Calls Try.prog 29 #[u, .agg #[.bool x.ring, .int .i64 x.pos, .string x.text]] W (NewDisk r W)) ∧
    (r.slots.length = 0 ∨ (r.slots.length ≠ 0 ∧ DiskFine r ∧ Hid (∀ k : Nat, k < 12 → (x.ring = false ∧ x.pos = (k : Int)) ∧ d.state ≠ 1 → readD r (k : Int) = x.text ∧ isThere x.text = true) ∧ Hid (∀ k : Nat, k < 12 → ¬((x.ring = false ∧ x.pos = (k : Int)) ∧ d.state ≠ 1) → readD r (k : Int) = readD d (k : Int)) ∧ (d.state = 1 → r = d))) := by
  by_cases h : DiskFine d ∧ PutOk x
  · have h2 := put_fine h.1 h.2
    refine ⟨putD d x, fun u W hu => specPut_ok u d x W h.1 h.2 hu, fun u W hu => implPut_ok u d x W h.1 h.2 hu, .inr ⟨by have := h2.2.1.1; omega, h2, fun k hk hh => ⟨?_, ?_⟩, fun k hk hh => ?_, fun hs => put_gone hs x⟩⟩
    · rw [read_put h.1 h.2 hk, if_pos hh]
    · obtain ⟨_, _, _, h3⟩ := put_pos h.2 hh.1.1
      exact there3 h3
    · rw [read_put h.1 h.2 hk, if_neg hh]
  · exact ⟨disk0, fun u W hu => specPut_no u d x W h hu, fun u W hu => implPut_no u d x W h hu, .inl rfl⟩

set_option maxRecDepth 100000 in
set_option maxHeartbeats 4000000 in
theorem main (a : Option Addr) (len cap : Nat) (z0 : List Int) (w : World) (h0 : len ≤ 1048576) (H : Hid (IsBytes w a len cap z0)) :
    Calls Try.prog 5 #[.slice a len cap] w fun e w' => e = .returned (.bool true) ∧ Below w.heap.size w w' := by
  have d0 : decide (1048576 < (len : Int)) = false := by simp; omega
  go_enter Try.func5, Try.ntmps5
  go_wp2_with fail
  refine (drawPut_any a len cap z0 _ H.out).mono ?_
  rintro e w1 ⟨d, v1, x, rfl, hv1, hB1⟩
  have B := Lib.hid hB1
  have VD := Lib.hid hv1
  obtain ⟨r, HS, HI, HF⟩ := choose d x
  obtain ⟨_, _, _, _, rfl, ⟨o1, c1, rfl, _⟩, ⟨o2, c2, rfl, _⟩, ⟨o3, c3, rfl, _⟩, ⟨o4, c4, rfl, _⟩⟩ := hv1
  clear hB1
  have hAl := Lib.hid (show Below w1.heap.size w1 ((w1.alloc (.cells #[.int .i64 d.state, .slice o1 d.slots.length c1, .slice o2 d.rings.length c2, .slice o3 d.spoilt.length c3, .slice o4 d.wait.length c4] 30)).alloc (.cells #[.bool x.ring, .int .i64 x.pos, .string x.text] 44)) from ((Below.refl _ _).alloc (Nat.le_refl _) _).alloc (by simp) _)
  have KO := Lib.hid (show Blk ((w1.alloc (.cells #[.int .i64 d.state, .slice o1 d.slots.length c1, .slice o2 d.rings.length c2, .slice o3 d.spoilt.length c3, .slice o4 d.wait.length c4] 30)).alloc (.cells #[.bool x.ring, .int .i64 x.pos, .string x.text] 44)) w1.heap.size #[.int .i64 d.state, .slice o1 d.slots.length c1, .slice o2 d.rings.length c2, .slice o3 d.spoilt.length c3, .slice o4 d.wait.length c4] 30 from (Blk.new w1 _ _).below (n := w1.heap.size + 1) ((Below.refl _ _).alloc (by simp) _) (by omega))
  have KQ := Lib.hid (show Blk ((w1.alloc (.cells #[.int .i64 d.state, .slice o1 d.slots.length c1, .slice o2 d.rings.length c2, .slice o3 d.spoilt.length c3, .slice o4 d.wait.length c4] 30)).alloc (.cells #[.bool x.ring, .int .i64 x.pos, .string x.text] 44)) (w1.heap.size + 1) #[.bool x.ring, .int .i64 x.pos, .string x.text] 44 by
    have := Blk.new (w1.alloc (.cells #[.int .i64 d.state, .slice o1 d.slots.length c1, .slice o2 d.rings.length c2, .slice o3 d.spoilt.length c3, .slice o4 d.wait.length c4] 30)) #[.bool x.ring, .int .i64 x.pos, .string x.text] 44
    rw [World.size_alloc] at this
    exact this)
  have VD := Lib.hid (VD.out.below hAl.out)
  have B := Lib.hid (below_trans B.out hAl.out B.out.size)
  obtain ⟨p0, p1, p2, p3, p4⟩ : (((w1.alloc (.cells #[.int .i64 d.state, .slice o1 d.slots.length c1, .slice o2 d.rings.length c2, .slice o3 d.spoilt.length c3, .slice o4 d.wait.length c4] 30)).alloc (.cells #[.bool x.ring, .int .i64 x.pos, .string x.text] 44))).cell? ⟨w1.heap.size, 0, none⟩ = some (.int .i64 d.state) ∧ (((w1.alloc (.cells #[.int .i64 d.state, .slice o1 d.slots.length c1, .slice o2 d.rings.length c2, .slice o3 d.spoilt.length c3, .slice o4 d.wait.length c4] 30)).alloc (.cells #[.bool x.ring, .int .i64 x.pos, .string x.text] 44))).cell? ⟨w1.heap.size, 1, none⟩ = some (.slice o1 d.slots.length c1) ∧ (((w1.alloc (.cells #[.int .i64 d.state, .slice o1 d.slots.length c1, .slice o2 d.rings.length c2, .slice o3 d.spoilt.length c3, .slice o4 d.wait.length c4] 30)).alloc (.cells #[.bool x.ring, .int .i64 x.pos, .string x.text] 44))).cell? ⟨w1.heap.size, 2, none⟩ = some (.slice o2 d.rings.length c2) ∧ (((w1.alloc (.cells #[.int .i64 d.state, .slice o1 d.slots.length c1, .slice o2 d.rings.length c2, .slice o3 d.spoilt.length c3, .slice o4 d.wait.length c4] 30)).alloc (.cells #[.bool x.ring, .int .i64 x.pos, .string x.text] 44))).cell? ⟨w1.heap.size, 3, none⟩ = some (.slice o3 d.spoilt.length c3) ∧ (((w1.alloc (.cells #[.int .i64 d.state, .slice o1 d.slots.length c1, .slice o2 d.rings.length c2, .slice o3 d.spoilt.length c3, .slice o4 d.wait.length c4] 30)).alloc (.cells #[.bool x.ring, .int .i64 x.pos, .string x.text] 44))).cell? ⟨w1.heap.size, 4, none⟩ = some (.slice o4 d.wait.length c4) := ⟨(KO.out.cell 0), (KO.out.cell 1), (KO.out.cell 2), (KO.out.cell 3), (KO.out.cell 4)⟩
  obtain ⟨n0, n1, n2⟩ : (((w1.alloc (.cells #[.int .i64 d.state, .slice o1 d.slots.length c1, .slice o2 d.rings.length c2, .slice o3 d.spoilt.length c3, .slice o4 d.wait.length c4] 30)).alloc (.cells #[.bool x.ring, .int .i64 x.pos, .string x.text] 44))).cell? ⟨w1.heap.size + 1, 0, none⟩ = some (.bool x.ring) ∧ (((w1.alloc (.cells #[.int .i64 d.state, .slice o1 d.slots.length c1, .slice o2 d.rings.length c2, .slice o3 d.spoilt.length c3, .slice o4 d.wait.length c4] 30)).alloc (.cells #[.bool x.ring, .int .i64 x.pos, .string x.text] 44))).cell? ⟨w1.heap.size + 1, 1, none⟩ = some (.int .i64 x.pos) ∧ (((w1.alloc (.cells #[.int .i64 d.state, .slice o1 d.slots.length c1, .slice o2 d.rings.length c2, .slice o3 d.spoilt.length c3, .slice o4 d.wait.length c4] 30)).alloc (.cells #[.bool x.ring, .int .i64 x.pos, .string x.text] 44))).cell? ⟨w1.heap.size + 1, 2, none⟩ = some (.string x.text) := ⟨(KQ.out.cell 0), (KQ.out.cell 1), (KQ.out.cell 2)⟩
  go_wp2_with fail
  generalize ((w1.alloc (.cells #[.int .i64 d.state, .slice o1 d.slots.length c1, .slice o2 d.rings.length c2, .slice o3 d.spoilt.length c3, .slice o4 d.wait.length c4] 30)).alloc (.cells #[.bool x.ring, .int .i64 x.pos, .string x.text] 44)) = W1 at hAl KO KQ VD B p0 p1 p2 p3 p4 n0 n1 n2 ⊢
  refine (HI.out _ _ VD.out).mono ?_
  rintro e w2 ⟨v2, rfl, ow, hB2⟩
  clear p0 p1 p2 p3 p4
  clear n0 n1 n2
  have KO := Lib.hid (KO.out.below hB2 KO.out.lt)
  have KQ := Lib.hid (KQ.out.below hB2 KQ.out.lt)
  have VD := Lib.hid (VD.out.below hB2)
  have B := Lib.hid (below_trans B.out hB2 B.out.size)
  have VX := Lib.hid ow.reads
  have hx := ow.reads
  obtain ⟨_, _, _, _, rfl, ⟨x1, e1, rfl, _⟩, ⟨x2, e2, rfl, _⟩, ⟨x3, e3, rfl, _⟩, ⟨x4, e4, rfl, _⟩⟩ := hx
  clear ow hB2
  have hAl := Lib.hid (show Below w2.heap.size w2 (w2.alloc (.cells #[.int .i64 r.state, .slice x1 r.slots.length e1, .slice x2 r.rings.length e2, .slice x3 r.spoilt.length e3, .slice x4 r.wait.length e4] 30)) from (Below.refl _ _).alloc (Nat.le_refl _) _)
  have KX := Lib.hid (Blk.new w2 #[.int .i64 r.state, .slice x1 r.slots.length e1, .slice x2 r.rings.length e2, .slice x3 r.spoilt.length e3, .slice x4 r.wait.length e4] 30)
  have KO := Lib.hid (KO.out.below hAl.out KO.out.lt)
  have KQ := Lib.hid (KQ.out.below hAl.out KQ.out.lt)
  have VD := Lib.hid (VD.out.below hAl.out)
  have VX := Lib.hid (VX.out.below hAl.out)
  have B := Lib.hid (below_trans B.out hAl.out B.out.size)
  obtain ⟨p0, p1, p2, p3, p4⟩ : (w2.alloc (.cells #[.int .i64 r.state, .slice x1 r.slots.length e1, .slice x2 r.rings.length e2, .slice x3 r.spoilt.length e3, .slice x4 r.wait.length e4] 30)).cell? ⟨w1.heap.size, 0, none⟩ = some (.int .i64 d.state) ∧ (w2.alloc (.cells #[.int .i64 r.state, .slice x1 r.slots.length e1, .slice x2 r.rings.length e2, .slice x3 r.spoilt.length e3, .slice x4 r.wait.length e4] 30)).cell? ⟨w1.heap.size, 1, none⟩ = some (.slice o1 d.slots.length c1) ∧ (w2.alloc (.cells #[.int .i64 r.state, .slice x1 r.slots.length e1, .slice x2 r.rings.length e2, .slice x3 r.spoilt.length e3, .slice x4 r.wait.length e4] 30)).cell? ⟨w1.heap.size, 2, none⟩ = some (.slice o2 d.rings.length c2) ∧ (w2.alloc (.cells #[.int .i64 r.state, .slice x1 r.slots.length e1, .slice x2 r.rings.length e2, .slice x3 r.spoilt.length e3, .slice x4 r.wait.length e4] 30)).cell? ⟨w1.heap.size, 3, none⟩ = some (.slice o3 d.spoilt.length c3) ∧ (w2.alloc (.cells #[.int .i64 r.state, .slice x1 r.slots.length e1, .slice x2 r.rings.length e2, .slice x3 r.spoilt.length e3, .slice x4 r.wait.length e4] 30)).cell? ⟨w1.heap.size, 4, none⟩ = some (.slice o4 d.wait.length c4) := ⟨(KO.out.cell 0), (KO.out.cell 1), (KO.out.cell 2), (KO.out.cell 3), (KO.out.cell 4)⟩
  obtain ⟨n0, n1, n2⟩ : (w2.alloc (.cells #[.int .i64 r.state, .slice x1 r.slots.length e1, .slice x2 r.rings.length e2, .slice x3 r.spoilt.length e3, .slice x4 r.wait.length e4] 30)).cell? ⟨w1.heap.size + 1, 0, none⟩ = some (.bool x.ring) ∧ (w2.alloc (.cells #[.int .i64 r.state, .slice x1 r.slots.length e1, .slice x2 r.rings.length e2, .slice x3 r.spoilt.length e3, .slice x4 r.wait.length e4] 30)).cell? ⟨w1.heap.size + 1, 1, none⟩ = some (.int .i64 x.pos) ∧ (w2.alloc (.cells #[.int .i64 r.state, .slice x1 r.slots.length e1, .slice x2 r.rings.length e2, .slice x3 r.spoilt.length e3, .slice x4 r.wait.length e4] 30)).cell? ⟨w1.heap.size + 1, 2, none⟩ = some (.string x.text) := ⟨(KQ.out.cell 0), (KQ.out.cell 1), (KQ.out.cell 2)⟩
  obtain ⟨s0, s1, s2, s3, s4⟩ : (w2.alloc (.cells #[.int .i64 r.state, .slice x1 r.slots.length e1, .slice x2 r.rings.length e2, .slice x3 r.spoilt.length e3, .slice x4 r.wait.length e4] 30)).cell? ⟨w2.heap.size, 0, none⟩ = some (.int .i64 r.state) ∧ (w2.alloc (.cells #[.int .i64 r.state, .slice x1 r.slots.length e1, .slice x2 r.rings.length e2, .slice x3 r.spoilt.length e3, .slice x4 r.wait.length e4] 30)).cell? ⟨w2.heap.size, 1, none⟩ = some (.slice x1 r.slots.length e1) ∧ (w2.alloc (.cells #[.int .i64 r.state, .slice x1 r.slots.length e1, .slice x2 r.rings.length e2, .slice x3 r.spoilt.length e3, .slice x4 r.wait.length e4] 30)).cell? ⟨w2.heap.size, 2, none⟩ = some (.slice x2 r.rings.length e2) ∧ (w2.alloc (.cells #[.int .i64 r.state, .slice x1 r.slots.length e1, .slice x2 r.rings.length e2, .slice x3 r.spoilt.length e3, .slice x4 r.wait.length e4] 30)).cell? ⟨w2.heap.size, 3, none⟩ = some (.slice x3 r.spoilt.length e3) ∧ (w2.alloc (.cells #[.int .i64 r.state, .slice x1 r.slots.length e1, .slice x2 r.rings.length e2, .slice x3 r.spoilt.length e3, .slice x4 r.wait.length e4] 30)).cell? ⟨w2.heap.size, 4, none⟩ = some (.slice x4 r.wait.length e4) := ⟨(KX.out.cell 0), (KX.out.cell 1), (KX.out.cell 2), (KX.out.cell 3), (KX.out.cell 4)⟩
  go_upto_region 5 with (fail)
  generalize w2.alloc (.cells #[.int .i64 r.state, .slice x1 r.slots.length e1, .slice x2 r.rings.length e2, .slice x3 r.spoilt.length e3, .slice x4 r.wait.length e4] 30) = W2 at hAl KO KQ KX VD VX B p0 p1 p2 p3 p4 n0 n1 n2 s0 s1 s2 s3 s4 ⊢
  rcases HF with hz | ⟨hz, hfine, hhit, hnot, hgone⟩
  · have dz : ((r.slots.length : Int) == 0) = true := beq_iff_eq.2 (by omega)
    clear hz
    have cur : Hid (Below W2.heap.size W2 W2.drew) := (Below.refl _ _).drew
    go_region_held3 (fun w' => (w'.cell? ⟨w1.heap.size, 0, none⟩ = some (.int .i64 d.state) ∧ w'.cell? ⟨w1.heap.size, 1, none⟩ = some (.slice o1 d.slots.length c1) ∧ w'.cell? ⟨w1.heap.size, 2, none⟩ = some (.slice o2 d.rings.length c2) ∧ w'.cell? ⟨w1.heap.size, 3, none⟩ = some (.slice o3 d.spoilt.length c3) ∧ w'.cell? ⟨w1.heap.size, 4, none⟩ = some (.slice o4 d.wait.length c4)) ∧ (w'.cell? ⟨w1.heap.size + 1, 0, none⟩ = some (.bool x.ring) ∧ w'.cell? ⟨w1.heap.size + 1, 1, none⟩ = some (.int .i64 x.pos) ∧ w'.cell? ⟨w1.heap.size + 1, 2, none⟩ = some (.string x.text)) ∧ (w'.cell? ⟨w2.heap.size, 0, none⟩ = some (.int .i64 r.state) ∧ w'.cell? ⟨w2.heap.size, 1, none⟩ = some (.slice x1 r.slots.length e1) ∧ w'.cell? ⟨w2.heap.size, 2, none⟩ = some (.slice x2 r.rings.length e2) ∧ w'.cell? ⟨w2.heap.size, 3, none⟩ = some (.slice x3 r.spoilt.length e3) ∧ w'.cell? ⟨w2.heap.size, 4, none⟩ = some (.slice x4 r.wait.length e4))) (first | with_reducible exact mm | go_keep)
      (first
        | (go_at_call 30; refine (HS.out _ _ (VD.out.below cur.out)).mono ?_; rintro e w7 ⟨v7, rfl, o7, hB7⟩; have V7 := Lib.hid o7.reads; have hx := o7.reads; obtain ⟨_, _, _, _, rfl, ⟨z1, j1, rfl, _⟩, ⟨z2, j2, rfl, _⟩, ⟨z3, j3, rfl, _⟩, ⟨z4, j4, rfl, _⟩⟩ := hx; clear o7; have cur := Lib.hid (below_trans cur.out hB7 cur.out.size); have mm := (⟨⟨((KO.out.below cur.out KO.out.lt).cell 0), ((KO.out.below cur.out KO.out.lt).cell 1), ((KO.out.below cur.out KO.out.lt).cell 2), ((KO.out.below cur.out KO.out.lt).cell 3), ((KO.out.below cur.out KO.out.lt).cell 4)⟩, ⟨((KQ.out.below cur.out KQ.out.lt).cell 0), ((KQ.out.below cur.out KQ.out.lt).cell 1), ((KQ.out.below cur.out KQ.out.lt).cell 2)⟩, ⟨((KX.out.below cur.out KX.out.lt).cell 0), ((KX.out.below cur.out KX.out.lt).cell 1), ((KX.out.below cur.out KX.out.lt).cell 2), ((KX.out.below cur.out KX.out.lt).cell 3), ((KX.out.below cur.out KX.out.lt).cell 4)⟩⟩ : (w7.cell? ⟨w1.heap.size, 0, none⟩ = some (.int .i64 d.state) ∧ w7.cell? ⟨w1.heap.size, 1, none⟩ = some (.slice o1 d.slots.length c1) ∧ w7.cell? ⟨w1.heap.size, 2, none⟩ = some (.slice o2 d.rings.length c2) ∧ w7.cell? ⟨w1.heap.size, 3, none⟩ = some (.slice o3 d.spoilt.length c3) ∧ w7.cell? ⟨w1.heap.size, 4, none⟩ = some (.slice o4 d.wait.length c4)) ∧ (w7.cell? ⟨w1.heap.size + 1, 0, none⟩ = some (.bool x.ring) ∧ w7.cell? ⟨w1.heap.size + 1, 1, none⟩ = some (.int .i64 x.pos) ∧ w7.cell? ⟨w1.heap.size + 1, 2, none⟩ = some (.string x.text)) ∧ (w7.cell? ⟨w2.heap.size, 0, none⟩ = some (.int .i64 r.state) ∧ w7.cell? ⟨w2.heap.size, 1, none⟩ = some (.slice x1 r.slots.length e1) ∧ w7.cell? ⟨w2.heap.size, 2, none⟩ = some (.slice x2 r.rings.length e2) ∧ w7.cell? ⟨w2.heap.size, 3, none⟩ = some (.slice x3 r.spoilt.length e3) ∧ w7.cell? ⟨w2.heap.size, 4, none⟩ = some (.slice x4 r.wait.length e4))); clear hB7)
        | (go_at_call 24; refine (lpaDisk_same _ _ r _ (VX.out.below cur.out) V7.out).mono ?_; rintro e w8 ⟨rfl, hB8⟩; have cur := Lib.hid (below_trans cur.out hB8 cur.out.size); have mm := (⟨⟨((KO.out.below cur.out KO.out.lt).cell 0), ((KO.out.below cur.out KO.out.lt).cell 1), ((KO.out.below cur.out KO.out.lt).cell 2), ((KO.out.below cur.out KO.out.lt).cell 3), ((KO.out.below cur.out KO.out.lt).cell 4)⟩, ⟨((KQ.out.below cur.out KQ.out.lt).cell 0), ((KQ.out.below cur.out KQ.out.lt).cell 1), ((KQ.out.below cur.out KQ.out.lt).cell 2)⟩, ⟨((KX.out.below cur.out KX.out.lt).cell 0), ((KX.out.below cur.out KX.out.lt).cell 1), ((KX.out.below cur.out KX.out.lt).cell 2), ((KX.out.below cur.out KX.out.lt).cell 3), ((KX.out.below cur.out KX.out.lt).cell 4)⟩⟩ : (w8.cell? ⟨w1.heap.size, 0, none⟩ = some (.int .i64 d.state) ∧ w8.cell? ⟨w1.heap.size, 1, none⟩ = some (.slice o1 d.slots.length c1) ∧ w8.cell? ⟨w1.heap.size, 2, none⟩ = some (.slice o2 d.rings.length c2) ∧ w8.cell? ⟨w1.heap.size, 3, none⟩ = some (.slice o3 d.spoilt.length c3) ∧ w8.cell? ⟨w1.heap.size, 4, none⟩ = some (.slice o4 d.wait.length c4)) ∧ (w8.cell? ⟨w1.heap.size + 1, 0, none⟩ = some (.bool x.ring) ∧ w8.cell? ⟨w1.heap.size + 1, 1, none⟩ = some (.int .i64 x.pos) ∧ w8.cell? ⟨w1.heap.size + 1, 2, none⟩ = some (.string x.text)) ∧ (w8.cell? ⟨w2.heap.size, 0, none⟩ = some (.int .i64 r.state) ∧ w8.cell? ⟨w2.heap.size, 1, none⟩ = some (.slice x1 r.slots.length e1) ∧ w8.cell? ⟨w2.heap.size, 2, none⟩ = some (.slice x2 r.rings.length e2) ∧ w8.cell? ⟨w2.heap.size, 3, none⟩ = some (.slice x3 r.spoilt.length e3) ∧ w8.cell? ⟨w2.heap.size, 4, none⟩ = some (.slice x4 r.wait.length e4))); clear hB8))
    clear p0 p1 p2 p3 p4
    clear n0 n1 n2
    clear s0 s1 s2 s3 s4
    have KO := Lib.hid (KO.out.below cur.out KO.out.lt)
    have KQ := Lib.hid (KQ.out.below cur.out KQ.out.lt)
    have KX := Lib.hid (KX.out.below cur.out KX.out.lt)
    have VD := Lib.hid (VD.out.below cur.out)
    have VX := Lib.hid (VX.out.below cur.out)
    have B := Lib.hid (below_trans B.out cur.out B.out.size)
    clear cur
    clear V7
    obtain ⟨W3, e3⟩ : ∃ x, x = w8 := ⟨_, rfl⟩
    subst e3
    obtain ⟨p0, p1, p2, p3, p4⟩ : W3.cell? ⟨w1.heap.size, 0, none⟩ = some (.int .i64 d.state) ∧ W3.cell? ⟨w1.heap.size, 1, none⟩ = some (.slice o1 d.slots.length c1) ∧ W3.cell? ⟨w1.heap.size, 2, none⟩ = some (.slice o2 d.rings.length c2) ∧ W3.cell? ⟨w1.heap.size, 3, none⟩ = some (.slice o3 d.spoilt.length c3) ∧ W3.cell? ⟨w1.heap.size, 4, none⟩ = some (.slice o4 d.wait.length c4) := ⟨(KO.out.cell 0), (KO.out.cell 1), (KO.out.cell 2), (KO.out.cell 3), (KO.out.cell 4)⟩
    obtain ⟨n0, n1, n2⟩ : W3.cell? ⟨w1.heap.size + 1, 0, none⟩ = some (.bool x.ring) ∧ W3.cell? ⟨w1.heap.size + 1, 1, none⟩ = some (.int .i64 x.pos) ∧ W3.cell? ⟨w1.heap.size + 1, 2, none⟩ = some (.string x.text) := ⟨(KQ.out.cell 0), (KQ.out.cell 1), (KQ.out.cell 2)⟩
    obtain ⟨s0, s1, s2, s3, s4⟩ : W3.cell? ⟨w2.heap.size, 0, none⟩ = some (.int .i64 r.state) ∧ W3.cell? ⟨w2.heap.size, 1, none⟩ = some (.slice x1 r.slots.length e1) ∧ W3.cell? ⟨w2.heap.size, 2, none⟩ = some (.slice x2 r.rings.length e2) ∧ W3.cell? ⟨w2.heap.size, 3, none⟩ = some (.slice x3 r.spoilt.length e3) ∧ W3.cell? ⟨w2.heap.size, 4, none⟩ = some (.slice x4 r.wait.length e4) := ⟨(KX.out.cell 0), (KX.out.cell 1), (KX.out.cell 2), (KX.out.cell 3), (KX.out.cell 4)⟩
    have cur : Hid (Below W3.heap.size W3 W3.drew) := (Below.refl _ _).drew
    go_wp2_with fail
    go_region_held3 (fun w' => (w'.cell? ⟨w1.heap.size, 0, none⟩ = some (.int .i64 d.state) ∧ w'.cell? ⟨w1.heap.size, 1, none⟩ = some (.slice o1 d.slots.length c1) ∧ w'.cell? ⟨w1.heap.size, 2, none⟩ = some (.slice o2 d.rings.length c2) ∧ w'.cell? ⟨w1.heap.size, 3, none⟩ = some (.slice o3 d.spoilt.length c3) ∧ w'.cell? ⟨w1.heap.size, 4, none⟩ = some (.slice o4 d.wait.length c4)) ∧ (w'.cell? ⟨w1.heap.size + 1, 0, none⟩ = some (.bool x.ring) ∧ w'.cell? ⟨w1.heap.size + 1, 1, none⟩ = some (.int .i64 x.pos) ∧ w'.cell? ⟨w1.heap.size + 1, 2, none⟩ = some (.string x.text)) ∧ (w'.cell? ⟨w2.heap.size, 0, none⟩ = some (.int .i64 r.state) ∧ w'.cell? ⟨w2.heap.size, 1, none⟩ = some (.slice x1 r.slots.length e1) ∧ w'.cell? ⟨w2.heap.size, 2, none⟩ = some (.slice x2 r.rings.length e2) ∧ w'.cell? ⟨w2.heap.size, 3, none⟩ = some (.slice x3 r.spoilt.length e3) ∧ w'.cell? ⟨w2.heap.size, 4, none⟩ = some (.slice x4 r.wait.length e4))) (first | with_reducible exact mm | go_keep)
      (first
        | (go_at_call 30; refine (HS.out _ _ (VD.out.below cur.out)).mono ?_; rintro e w7 ⟨v7, rfl, o7, hB7⟩; have V7 := Lib.hid o7.reads; have hx := o7.reads; obtain ⟨_, _, _, _, rfl, ⟨z1, j1, rfl, _⟩, ⟨z2, j2, rfl, _⟩, ⟨z3, j3, rfl, _⟩, ⟨z4, j4, rfl, _⟩⟩ := hx; clear o7; have cur := Lib.hid (below_trans cur.out hB7 cur.out.size); have mm := (⟨⟨((KO.out.below cur.out KO.out.lt).cell 0), ((KO.out.below cur.out KO.out.lt).cell 1), ((KO.out.below cur.out KO.out.lt).cell 2), ((KO.out.below cur.out KO.out.lt).cell 3), ((KO.out.below cur.out KO.out.lt).cell 4)⟩, ⟨((KQ.out.below cur.out KQ.out.lt).cell 0), ((KQ.out.below cur.out KQ.out.lt).cell 1), ((KQ.out.below cur.out KQ.out.lt).cell 2)⟩, ⟨((KX.out.below cur.out KX.out.lt).cell 0), ((KX.out.below cur.out KX.out.lt).cell 1), ((KX.out.below cur.out KX.out.lt).cell 2), ((KX.out.below cur.out KX.out.lt).cell 3), ((KX.out.below cur.out KX.out.lt).cell 4)⟩⟩ : (w7.cell? ⟨w1.heap.size, 0, none⟩ = some (.int .i64 d.state) ∧ w7.cell? ⟨w1.heap.size, 1, none⟩ = some (.slice o1 d.slots.length c1) ∧ w7.cell? ⟨w1.heap.size, 2, none⟩ = some (.slice o2 d.rings.length c2) ∧ w7.cell? ⟨w1.heap.size, 3, none⟩ = some (.slice o3 d.spoilt.length c3) ∧ w7.cell? ⟨w1.heap.size, 4, none⟩ = some (.slice o4 d.wait.length c4)) ∧ (w7.cell? ⟨w1.heap.size + 1, 0, none⟩ = some (.bool x.ring) ∧ w7.cell? ⟨w1.heap.size + 1, 1, none⟩ = some (.int .i64 x.pos) ∧ w7.cell? ⟨w1.heap.size + 1, 2, none⟩ = some (.string x.text)) ∧ (w7.cell? ⟨w2.heap.size, 0, none⟩ = some (.int .i64 r.state) ∧ w7.cell? ⟨w2.heap.size, 1, none⟩ = some (.slice x1 r.slots.length e1) ∧ w7.cell? ⟨w2.heap.size, 2, none⟩ = some (.slice x2 r.rings.length e2) ∧ w7.cell? ⟨w2.heap.size, 3, none⟩ = some (.slice x3 r.spoilt.length e3) ∧ w7.cell? ⟨w2.heap.size, 4, none⟩ = some (.slice x4 r.wait.length e4))); clear hB7)
        | (go_at_call 24; refine (lpaDisk_same _ _ r _ (VX.out.below cur.out) V7.out).mono ?_; rintro e w8 ⟨rfl, hB8⟩; have cur := Lib.hid (below_trans cur.out hB8 cur.out.size); have mm := (⟨⟨((KO.out.below cur.out KO.out.lt).cell 0), ((KO.out.below cur.out KO.out.lt).cell 1), ((KO.out.below cur.out KO.out.lt).cell 2), ((KO.out.below cur.out KO.out.lt).cell 3), ((KO.out.below cur.out KO.out.lt).cell 4)⟩, ⟨((KQ.out.below cur.out KQ.out.lt).cell 0), ((KQ.out.below cur.out KQ.out.lt).cell 1), ((KQ.out.below cur.out KQ.out.lt).cell 2)⟩, ⟨((KX.out.below cur.out KX.out.lt).cell 0), ((KX.out.below cur.out KX.out.lt).cell 1), ((KX.out.below cur.out KX.out.lt).cell 2), ((KX.out.below cur.out KX.out.lt).cell 3), ((KX.out.below cur.out KX.out.lt).cell 4)⟩⟩ : (w8.cell? ⟨w1.heap.size, 0, none⟩ = some (.int .i64 d.state) ∧ w8.cell? ⟨w1.heap.size, 1, none⟩ = some (.slice o1 d.slots.length c1) ∧ w8.cell? ⟨w1.heap.size, 2, none⟩ = some (.slice o2 d.rings.length c2) ∧ w8.cell? ⟨w1.heap.size, 3, none⟩ = some (.slice o3 d.spoilt.length c3) ∧ w8.cell? ⟨w1.heap.size, 4, none⟩ = some (.slice o4 d.wait.length c4)) ∧ (w8.cell? ⟨w1.heap.size + 1, 0, none⟩ = some (.bool x.ring) ∧ w8.cell? ⟨w1.heap.size + 1, 1, none⟩ = some (.int .i64 x.pos) ∧ w8.cell? ⟨w1.heap.size + 1, 2, none⟩ = some (.string x.text)) ∧ (w8.cell? ⟨w2.heap.size, 0, none⟩ = some (.int .i64 r.state) ∧ w8.cell? ⟨w2.heap.size, 1, none⟩ = some (.slice x1 r.slots.length e1) ∧ w8.cell? ⟨w2.heap.size, 2, none⟩ = some (.slice x2 r.rings.length e2) ∧ w8.cell? ⟨w2.heap.size, 3, none⟩ = some (.slice x3 r.spoilt.length e3) ∧ w8.cell? ⟨w2.heap.size, 4, none⟩ = some (.slice x4 r.wait.length e4))); clear hB8))
    clear p0 p1 p2 p3 p4
    clear n0 n1 n2
    clear s0 s1 s2 s3 s4
    have KO := Lib.hid (KO.out.below cur.out KO.out.lt)
    have KQ := Lib.hid (KQ.out.below cur.out KQ.out.lt)
    have KX := Lib.hid (KX.out.below cur.out KX.out.lt)
    have VD := Lib.hid (VD.out.below cur.out)
    have VX := Lib.hid (VX.out.below cur.out)
    have B := Lib.hid (below_trans B.out cur.out B.out.size)
    clear cur
    go_wp2
    go_ret
    exact ⟨rfl, B.out⟩
  · have dz : ((r.slots.length : Int) == 0) = false := beq_eq_false_iff_ne.2 (by omega)
    have HOk := Lib.hid (fun v W hv => implOk_any v r W hv)
    rw [tt_true hfine] at HOk
    have Hgone := Lib.hid hgone
    clear hz hfine hgone
    have cur : Hid (Below W2.heap.size W2 W2.drew) := (Below.refl _ _).drew
    go_region_held3 (fun w' => (w'.cell? ⟨w1.heap.size, 0, none⟩ = some (.int .i64 d.state) ∧ w'.cell? ⟨w1.heap.size, 1, none⟩ = some (.slice o1 d.slots.length c1) ∧ w'.cell? ⟨w1.heap.size, 2, none⟩ = some (.slice o2 d.rings.length c2) ∧ w'.cell? ⟨w1.heap.size, 3, none⟩ = some (.slice o3 d.spoilt.length c3) ∧ w'.cell? ⟨w1.heap.size, 4, none⟩ = some (.slice o4 d.wait.length c4)) ∧ (w'.cell? ⟨w1.heap.size + 1, 0, none⟩ = some (.bool x.ring) ∧ w'.cell? ⟨w1.heap.size + 1, 1, none⟩ = some (.int .i64 x.pos) ∧ w'.cell? ⟨w1.heap.size + 1, 2, none⟩ = some (.string x.text)) ∧ (w'.cell? ⟨w2.heap.size, 0, none⟩ = some (.int .i64 r.state) ∧ w'.cell? ⟨w2.heap.size, 1, none⟩ = some (.slice x1 r.slots.length e1) ∧ w'.cell? ⟨w2.heap.size, 2, none⟩ = some (.slice x2 r.rings.length e2) ∧ w'.cell? ⟨w2.heap.size, 3, none⟩ = some (.slice x3 r.spoilt.length e3) ∧ w'.cell? ⟨w2.heap.size, 4, none⟩ = some (.slice x4 r.wait.length e4))) (first | with_reducible exact mm | go_keep)
      (first
        | (go_at_call 30; refine (HS.out _ _ (VD.out.below cur.out)).mono ?_; rintro e w7 ⟨v7, rfl, o7, hB7⟩; have V7 := Lib.hid o7.reads; have hx := o7.reads; obtain ⟨_, _, _, _, rfl, ⟨z1, j1, rfl, _⟩, ⟨z2, j2, rfl, _⟩, ⟨z3, j3, rfl, _⟩, ⟨z4, j4, rfl, _⟩⟩ := hx; clear o7; have cur := Lib.hid (below_trans cur.out hB7 cur.out.size); have mm := (⟨⟨((KO.out.below cur.out KO.out.lt).cell 0), ((KO.out.below cur.out KO.out.lt).cell 1), ((KO.out.below cur.out KO.out.lt).cell 2), ((KO.out.below cur.out KO.out.lt).cell 3), ((KO.out.below cur.out KO.out.lt).cell 4)⟩, ⟨((KQ.out.below cur.out KQ.out.lt).cell 0), ((KQ.out.below cur.out KQ.out.lt).cell 1), ((KQ.out.below cur.out KQ.out.lt).cell 2)⟩, ⟨((KX.out.below cur.out KX.out.lt).cell 0), ((KX.out.below cur.out KX.out.lt).cell 1), ((KX.out.below cur.out KX.out.lt).cell 2), ((KX.out.below cur.out KX.out.lt).cell 3), ((KX.out.below cur.out KX.out.lt).cell 4)⟩⟩ : (w7.cell? ⟨w1.heap.size, 0, none⟩ = some (.int .i64 d.state) ∧ w7.cell? ⟨w1.heap.size, 1, none⟩ = some (.slice o1 d.slots.length c1) ∧ w7.cell? ⟨w1.heap.size, 2, none⟩ = some (.slice o2 d.rings.length c2) ∧ w7.cell? ⟨w1.heap.size, 3, none⟩ = some (.slice o3 d.spoilt.length c3) ∧ w7.cell? ⟨w1.heap.size, 4, none⟩ = some (.slice o4 d.wait.length c4)) ∧ (w7.cell? ⟨w1.heap.size + 1, 0, none⟩ = some (.bool x.ring) ∧ w7.cell? ⟨w1.heap.size + 1, 1, none⟩ = some (.int .i64 x.pos) ∧ w7.cell? ⟨w1.heap.size + 1, 2, none⟩ = some (.string x.text)) ∧ (w7.cell? ⟨w2.heap.size, 0, none⟩ = some (.int .i64 r.state) ∧ w7.cell? ⟨w2.heap.size, 1, none⟩ = some (.slice x1 r.slots.length e1) ∧ w7.cell? ⟨w2.heap.size, 2, none⟩ = some (.slice x2 r.rings.length e2) ∧ w7.cell? ⟨w2.heap.size, 3, none⟩ = some (.slice x3 r.spoilt.length e3) ∧ w7.cell? ⟨w2.heap.size, 4, none⟩ = some (.slice x4 r.wait.length e4))); clear hB7)
        | (go_at_call 24; refine (lpaDisk_same _ _ r _ (VX.out.below cur.out) V7.out).mono ?_; rintro e w8 ⟨rfl, hB8⟩; have cur := Lib.hid (below_trans cur.out hB8 cur.out.size); have mm := (⟨⟨((KO.out.below cur.out KO.out.lt).cell 0), ((KO.out.below cur.out KO.out.lt).cell 1), ((KO.out.below cur.out KO.out.lt).cell 2), ((KO.out.below cur.out KO.out.lt).cell 3), ((KO.out.below cur.out KO.out.lt).cell 4)⟩, ⟨((KQ.out.below cur.out KQ.out.lt).cell 0), ((KQ.out.below cur.out KQ.out.lt).cell 1), ((KQ.out.below cur.out KQ.out.lt).cell 2)⟩, ⟨((KX.out.below cur.out KX.out.lt).cell 0), ((KX.out.below cur.out KX.out.lt).cell 1), ((KX.out.below cur.out KX.out.lt).cell 2), ((KX.out.below cur.out KX.out.lt).cell 3), ((KX.out.below cur.out KX.out.lt).cell 4)⟩⟩ : (w8.cell? ⟨w1.heap.size, 0, none⟩ = some (.int .i64 d.state) ∧ w8.cell? ⟨w1.heap.size, 1, none⟩ = some (.slice o1 d.slots.length c1) ∧ w8.cell? ⟨w1.heap.size, 2, none⟩ = some (.slice o2 d.rings.length c2) ∧ w8.cell? ⟨w1.heap.size, 3, none⟩ = some (.slice o3 d.spoilt.length c3) ∧ w8.cell? ⟨w1.heap.size, 4, none⟩ = some (.slice o4 d.wait.length c4)) ∧ (w8.cell? ⟨w1.heap.size + 1, 0, none⟩ = some (.bool x.ring) ∧ w8.cell? ⟨w1.heap.size + 1, 1, none⟩ = some (.int .i64 x.pos) ∧ w8.cell? ⟨w1.heap.size + 1, 2, none⟩ = some (.string x.text)) ∧ (w8.cell? ⟨w2.heap.size, 0, none⟩ = some (.int .i64 r.state) ∧ w8.cell? ⟨w2.heap.size, 1, none⟩ = some (.slice x1 r.slots.length e1) ∧ w8.cell? ⟨w2.heap.size, 2, none⟩ = some (.slice x2 r.rings.length e2) ∧ w8.cell? ⟨w2.heap.size, 3, none⟩ = some (.slice x3 r.spoilt.length e3) ∧ w8.cell? ⟨w2.heap.size, 4, none⟩ = some (.slice x4 r.wait.length e4))); clear hB8))
    clear p0 p1 p2 p3 p4
    clear n0 n1 n2
    clear s0 s1 s2 s3 s4
    have KO := Lib.hid (KO.out.below cur.out KO.out.lt)
    have KQ := Lib.hid (KQ.out.below cur.out KQ.out.lt)
    have KX := Lib.hid (KX.out.below cur.out KX.out.lt)
    have VD := Lib.hid (VD.out.below cur.out)
    have VX := Lib.hid (VX.out.below cur.out)
    have B := Lib.hid (below_trans B.out cur.out B.out.size)
    clear cur
    clear V7
    go_wp2_with fail
    go_loopw [6] (fun i wr => ∃ k : Nat, i = .int .i64 (k : Int) ∧ k ≤ 12 ∧ Hid (Below w8.heap.size w8 wr)) (fun i _ => 12 - (intOf i).toNat)
    case atStart => exact ⟨0, rfl, by omega, Below.refl _ _⟩
    case round =>
      obtain ⟨k, rfl, hk, hBr⟩ := hrel
      have KO := Lib.hid (KO.out.below hBr.out KO.out.lt)
      have KQ := Lib.hid (KQ.out.below hBr.out KQ.out.lt)
      have KX := Lib.hid (KX.out.below hBr.out KX.out.lt)
      have VD := Lib.hid (VD.out.below hBr.out)
      have VX := Lib.hid (VX.out.below hBr.out)
      have B := Lib.hid (below_trans B.out hBr.out B.out.size)
      obtain ⟨p0, p1, p2, p3, p4⟩ : wr.cell? ⟨w1.heap.size, 0, none⟩ = some (.int .i64 d.state) ∧ wr.cell? ⟨w1.heap.size, 1, none⟩ = some (.slice o1 d.slots.length c1) ∧ wr.cell? ⟨w1.heap.size, 2, none⟩ = some (.slice o2 d.rings.length c2) ∧ wr.cell? ⟨w1.heap.size, 3, none⟩ = some (.slice o3 d.spoilt.length c3) ∧ wr.cell? ⟨w1.heap.size, 4, none⟩ = some (.slice o4 d.wait.length c4) := ⟨(KO.out.cell 0), (KO.out.cell 1), (KO.out.cell 2), (KO.out.cell 3), (KO.out.cell 4)⟩
      obtain ⟨n0, n1, n2⟩ : wr.cell? ⟨w1.heap.size + 1, 0, none⟩ = some (.bool x.ring) ∧ wr.cell? ⟨w1.heap.size + 1, 1, none⟩ = some (.int .i64 x.pos) ∧ wr.cell? ⟨w1.heap.size + 1, 2, none⟩ = some (.string x.text) := ⟨(KQ.out.cell 0), (KQ.out.cell 1), (KQ.out.cell 2)⟩
      obtain ⟨s0, s1, s2, s3, s4⟩ : wr.cell? ⟨w2.heap.size, 0, none⟩ = some (.int .i64 r.state) ∧ wr.cell? ⟨w2.heap.size, 1, none⟩ = some (.slice x1 r.slots.length e1) ∧ wr.cell? ⟨w2.heap.size, 2, none⟩ = some (.slice x2 r.rings.length e2) ∧ wr.cell? ⟨w2.heap.size, 3, none⟩ = some (.slice x3 r.spoilt.length e3) ∧ wr.cell? ⟨w2.heap.size, 4, none⟩ = some (.slice x4 r.wait.length e4) := ⟨(KX.out.cell 0), (KX.out.cell 1), (KX.out.cell 2), (KX.out.cell 3), (KX.out.cell 4)⟩
      by_cases hlt : k < 12
      · go_wp2_with fail
        refine (implRead_any _ d (k : Int) _ VD.out).mono ?_
        rintro e w9 ⟨rfl, hB9⟩
        clear p0 p1 p2 p3 p4
        clear n0 n1 n2
        clear s0 s1 s2 s3 s4
        have KO := Lib.hid (KO.out.below hB9 KO.out.lt)
        have KQ := Lib.hid (KQ.out.below hB9 KQ.out.lt)
        have KX := Lib.hid (KX.out.below hB9 KX.out.lt)
        have VD := Lib.hid (VD.out.below hB9)
        have VX := Lib.hid (VX.out.below hB9)
        have B := Lib.hid (below_trans B.out hB9 B.out.size)
        obtain ⟨p0, p1, p2, p3, p4⟩ : w9.cell? ⟨w1.heap.size, 0, none⟩ = some (.int .i64 d.state) ∧ w9.cell? ⟨w1.heap.size, 1, none⟩ = some (.slice o1 d.slots.length c1) ∧ w9.cell? ⟨w1.heap.size, 2, none⟩ = some (.slice o2 d.rings.length c2) ∧ w9.cell? ⟨w1.heap.size, 3, none⟩ = some (.slice o3 d.spoilt.length c3) ∧ w9.cell? ⟨w1.heap.size, 4, none⟩ = some (.slice o4 d.wait.length c4) := ⟨(KO.out.cell 0), (KO.out.cell 1), (KO.out.cell 2), (KO.out.cell 3), (KO.out.cell 4)⟩
        obtain ⟨n0, n1, n2⟩ : w9.cell? ⟨w1.heap.size + 1, 0, none⟩ = some (.bool x.ring) ∧ w9.cell? ⟨w1.heap.size + 1, 1, none⟩ = some (.int .i64 x.pos) ∧ w9.cell? ⟨w1.heap.size + 1, 2, none⟩ = some (.string x.text) := ⟨(KQ.out.cell 0), (KQ.out.cell 1), (KQ.out.cell 2)⟩
        obtain ⟨s0, s1, s2, s3, s4⟩ : w9.cell? ⟨w2.heap.size, 0, none⟩ = some (.int .i64 r.state) ∧ w9.cell? ⟨w2.heap.size, 1, none⟩ = some (.slice x1 r.slots.length e1) ∧ w9.cell? ⟨w2.heap.size, 2, none⟩ = some (.slice x2 r.rings.length e2) ∧ w9.cell? ⟨w2.heap.size, 3, none⟩ = some (.slice x3 r.spoilt.length e3) ∧ w9.cell? ⟨w2.heap.size, 4, none⟩ = some (.slice x4 r.wait.length e4) := ⟨(KX.out.cell 0), (KX.out.cell 1), (KX.out.cell 2), (KX.out.cell 3), (KX.out.cell 4)⟩
        go_wp2_with fail
        refine (implRead_any _ r (k : Int) _ VX.out).mono ?_
        rintro e w10 ⟨rfl, hB10⟩
        clear p0 p1 p2 p3 p4
        clear n0 n1 n2
        clear s0 s1 s2 s3 s4
        have KO := Lib.hid (KO.out.below hB10 KO.out.lt)
        have KQ := Lib.hid (KQ.out.below hB10 KQ.out.lt)
        have KX := Lib.hid (KX.out.below hB10 KX.out.lt)
        have VD := Lib.hid (VD.out.below hB10)
        have VX := Lib.hid (VX.out.below hB10)
        have B := Lib.hid (below_trans B.out hB10 B.out.size)
        obtain ⟨p0, p1, p2, p3, p4⟩ : w10.cell? ⟨w1.heap.size, 0, none⟩ = some (.int .i64 d.state) ∧ w10.cell? ⟨w1.heap.size, 1, none⟩ = some (.slice o1 d.slots.length c1) ∧ w10.cell? ⟨w1.heap.size, 2, none⟩ = some (.slice o2 d.rings.length c2) ∧ w10.cell? ⟨w1.heap.size, 3, none⟩ = some (.slice o3 d.spoilt.length c3) ∧ w10.cell? ⟨w1.heap.size, 4, none⟩ = some (.slice o4 d.wait.length c4) := ⟨(KO.out.cell 0), (KO.out.cell 1), (KO.out.cell 2), (KO.out.cell 3), (KO.out.cell 4)⟩
        obtain ⟨n0, n1, n2⟩ : w10.cell? ⟨w1.heap.size + 1, 0, none⟩ = some (.bool x.ring) ∧ w10.cell? ⟨w1.heap.size + 1, 1, none⟩ = some (.int .i64 x.pos) ∧ w10.cell? ⟨w1.heap.size + 1, 2, none⟩ = some (.string x.text) := ⟨(KQ.out.cell 0), (KQ.out.cell 1), (KQ.out.cell 2)⟩
        obtain ⟨s0, s1, s2, s3, s4⟩ : w10.cell? ⟨w2.heap.size, 0, none⟩ = some (.int .i64 r.state) ∧ w10.cell? ⟨w2.heap.size, 1, none⟩ = some (.slice x1 r.slots.length e1) ∧ w10.cell? ⟨w2.heap.size, 2, none⟩ = some (.slice x2 r.rings.length e2) ∧ w10.cell? ⟨w2.heap.size, 3, none⟩ = some (.slice x3 r.spoilt.length e3) ∧ w10.cell? ⟨w2.heap.size, 4, none⟩ = some (.slice x4 r.wait.length e4) := ⟨(KX.out.cell 0), (KX.out.cell 1), (KX.out.cell 2), (KX.out.cell 3), (KX.out.cell 4)⟩
        have HBn := Lib.hid (below_trans hBr.out (below_trans hB9 hB10 hB9.size) hBr.out.size)
        clear hB9 hB10
        by_cases hh : (x.ring = false ∧ x.pos = (k : Int)) ∧ d.state ≠ 1
        · obtain ⟨hr0, hr1⟩ := hhit.out k hlt hh
          rw [hr0, hr1]
          generalize readD d (k : Int) = ta
          generalize isThere ta = ba
          obtain ⟨⟨q1, q2⟩, q3⟩ := hh
          have e2 : ((x.pos : Int) == (k : Int)) = true := beq_iff_eq.2 q2
          have e3 : (d.state != 1) = true := by simpa using q3
          rw [q1] at n0
          clear q1 q2 q3 hr0 hr1
          go_wp2
          exact ⟨⟨k + 1, by go_num, by omega, HBn⟩, by simp [intOf]; omega⟩
        · rw [hnot.out k hlt hh]
          generalize readD d (k : Int) = ta
          generalize isThere ta = ba
          have bb : (ba != ba) = false := by simp
          by_cases q1 : x.ring = false
          · rw [q1] at n0
            by_cases q2 : x.pos = (k : Int)
            · have q3 : d.state = 1 := Decidable.byContradiction (fun h => hh ⟨⟨q1, q2⟩, h⟩)
              have e2 : ((x.pos : Int) == (k : Int)) = true := beq_iff_eq.2 q2
              have e3 : (d.state != 1) = false := by simp [q3]
              clear q1 q2 q3 hh
              go_wp2
              exact ⟨⟨k + 1, by go_num, by omega, HBn⟩, by simp [intOf]; omega⟩
            · have e2 : ((x.pos : Int) == (k : Int)) = false := beq_eq_false_iff_ne.2 q2
              clear q1 q2 hh
              go_wp2
              exact ⟨⟨k + 1, by go_num, by omega, HBn⟩, by simp [intOf]; omega⟩
          · have q1' : x.ring = true := by simpa using q1
            rw [q1'] at n0
            clear q1 q1' hh
            go_wp2
            exact ⟨⟨k + 1, by go_num, by omega, HBn⟩, by simp [intOf]; omega⟩
      · obtain rfl : k = 12 := by omega
        go_wp2_with fail
        refine (HOk.out _ _ VX.out).mono ?_
        rintro e w9 ⟨rfl, hB9⟩
        clear p0 p1 p2 p3 p4
        clear n0 n1 n2
        clear s0 s1 s2 s3 s4
        have KO := Lib.hid (KO.out.below hB9 KO.out.lt)
        have KQ := Lib.hid (KQ.out.below hB9 KQ.out.lt)
        have KX := Lib.hid (KX.out.below hB9 KX.out.lt)
        have VD := Lib.hid (VD.out.below hB9)
        have VX := Lib.hid (VX.out.below hB9)
        have B := Lib.hid (below_trans B.out hB9 B.out.size)
        obtain ⟨p0, p1, p2, p3, p4⟩ : w9.cell? ⟨w1.heap.size, 0, none⟩ = some (.int .i64 d.state) ∧ w9.cell? ⟨w1.heap.size, 1, none⟩ = some (.slice o1 d.slots.length c1) ∧ w9.cell? ⟨w1.heap.size, 2, none⟩ = some (.slice o2 d.rings.length c2) ∧ w9.cell? ⟨w1.heap.size, 3, none⟩ = some (.slice o3 d.spoilt.length c3) ∧ w9.cell? ⟨w1.heap.size, 4, none⟩ = some (.slice o4 d.wait.length c4) := ⟨(KO.out.cell 0), (KO.out.cell 1), (KO.out.cell 2), (KO.out.cell 3), (KO.out.cell 4)⟩
        obtain ⟨n0, n1, n2⟩ : w9.cell? ⟨w1.heap.size + 1, 0, none⟩ = some (.bool x.ring) ∧ w9.cell? ⟨w1.heap.size + 1, 1, none⟩ = some (.int .i64 x.pos) ∧ w9.cell? ⟨w1.heap.size + 1, 2, none⟩ = some (.string x.text) := ⟨(KQ.out.cell 0), (KQ.out.cell 1), (KQ.out.cell 2)⟩
        obtain ⟨s0, s1, s2, s3, s4⟩ : w9.cell? ⟨w2.heap.size, 0, none⟩ = some (.int .i64 r.state) ∧ w9.cell? ⟨w2.heap.size, 1, none⟩ = some (.slice x1 r.slots.length e1) ∧ w9.cell? ⟨w2.heap.size, 2, none⟩ = some (.slice x2 r.rings.length e2) ∧ w9.cell? ⟨w2.heap.size, 3, none⟩ = some (.slice x3 r.spoilt.length e3) ∧ w9.cell? ⟨w2.heap.size, 4, none⟩ = some (.slice x4 r.wait.length e4) := ⟨(KX.out.cell 0), (KX.out.cell 1), (KX.out.cell 2), (KX.out.cell 3), (KX.out.cell 4)⟩
        by_cases hs : d.state = 1
        · have hr := Lib.hid (Hgone.out hs)
          have e3 : (d.state != 1) = false := by simp [hs]
          clear hs
          go_wp2_with fail
          refine (lpaDisk_same _ _ r _ VX.out (by rw [hr.out]; exact VD.out)).mono ?_
          rintro e w11 ⟨rfl, hB11⟩
          go_wp2
          go_ret
          exact ⟨rfl, below_trans B.out hB11 B.out.size⟩
        · have e3 : (d.state != 1) = true := by simpa using hs
          clear hs
          go_wp2
          go_ret
          exact ⟨rfl, B.out⟩

set_option maxRecDepth 100000 in
set_option maxHeartbeats 1000000 in
theorem walk (a0 : Option Addr) (len0 cap0 : Nat) (z0 : List Int) (w : World) (w0 : IsBytes w a0 len0 cap0 z0) :
    Calls Try.prog 5 #[.slice a0 len0 cap0] w fun e w' => e = .returned (.bool true) ∧ Below w.heap.size w w' := by
  by_cases h0 : len0 ≤ 1048576
  · exact main a0 len0 cap0 z0 w h0 w0
  · have hm : len0 ≤ maxLen := by have := w0.opened; omega
    have d0 : decide (1048576 < (len0 : Int)) = true := by simp; omega
    clear w0
    go_enter Try.func5, Try.ntmps5
    go_wp2
    go_ret
    exact ⟨rfl, Below.refl _ _⟩

set_option maxRecDepth 100000 in
theorem lifted (os : Os) (started : os.Started) (H : Type) (enc : TypeId × Value → H) :
    ReturnsInHanded {} Try.checked os 5 .any (Rows.fnDiskPutSpec.pre6 enc Try.prog Try.f5 Rows.fnDiskPutRow.domain false) (Rows.fnDiskPutSpec.post enc Try.prog Try.f5 false true false false) := by
  refine returnsInHanded_of_change (C := Try.checked) own started (by kernel_rfl) Try.func5
    (ChangeSpec.witness6 (enc := enc) (C := Try.checked) false ⟨#[], #[.slice none 0 0], []⟩ 8 (by kernel_rfl) (by kernel_rfl) (by kernel_rfl) (by kernel_rfl)) ?_
  intro W base args ds gs before hval0 hW hcnd _
  have hval : ∀ (j : Nat) t v, Try.f5.params[j]? = some t → args[j]? = some v → Value.okWide Try.prog W .any base t v := hval0
  have hW' := hW
  obtain ⟨p, q, hA0, hV, rfl, hfz, hnd⟩ := hW
  have hA : DataW.TrodAll enc Try.prog W 0 (fun _ => true) true Try.f5.params.toList args.toList ds p := hA0
  rw [Try.params5] at hA hval
  obtain ⟨v0, vs0, d0, ds0, p0, q0, hargs, rfl, rfl, h0, r0⟩ := trodAll_cons hA
  obtain ⟨rfl, rfl, rfl⟩ := trodAll_nil r0
  obtain rfl : args = #[v0] := by cases args; simp_all
  obtain ⟨rfl, rfl⟩ := trodVars_none hV
  have k0 := h0
  have lt0 : ∀ x ∈ p0, x.block < W.heap.size := by obtain ⟨m, hm⟩ := k0; exact DataW.trod_lt m _ _ _ hm
  obtain ⟨a0, len0, cap0, rfl⟩ := okWide_slice Try.underlying36 (hval 0 36 v0 rfl rfl)
  obtain ⟨z0, w0⟩ : ∃ zs, IsBytes W a0 len0 cap0 zs := by
    obtain ⟨fuel, hf⟩ := h0
    rcases open_ints Try.underlying36 Try.underlying5 (by kernel_rfl) hf with ⟨hcs, _⟩ | ⟨x, l, c, zs, hcs, _, hl, hm, hz, _, hcell, hwz⟩
    · simp [Value.cells] at hcs
      obtain ⟨rfl, rfl, rfl⟩ := hcs
      exact ⟨[], .inl ⟨rfl, rfl, rfl, rfl⟩⟩
    · simp [Value.cells] at hcs
      obtain ⟨rfl, rfl, rfl⟩ := hcs
      exact ⟨zs, .inr ⟨_, rfl, hl, hm, by simpa using hz, hcell, hwz⟩⟩
  clear hA0 hval0
  refine (walk a0 len0 cap0 z0 W w0).mono fun e W' ⟨he, bel⟩ => ?_
  subst he
  exact ⟨_, rfl, _, _, _, [], _, [], hW', trodAll_mk1 (shut_bool Try.underlying4 _), (trodAll_cons_mk (Below.trod laidOut (by kernel_rfl) (of_decide_eq_true (by kernel_rfl)) k0 bel lt0) trodAll_mk0), rfl, bel.frame _, fun h => by cases h⟩

theorem over : Rows.fnDiskPutRow.holds Try.pinned (OpenSpec.ofChange Rows.fnDiskPutSpec) :=
  OpenClaim.holds_of_wide 5 Try.f5 rfl rfl rfl rfl rfl rfl rfl ⟨rfl, rfl, rfl, rfl, rfl⟩ rfl rfl rfl rfl rfl (by kernel_rfl) Try.func5 (by kernel_rfl)
    (of_decide_eq_true (by kernel_rfl)) (by unfold Func.isWrapper; first | (rw [if_pos (by decide +kernel)]; kernel_rfl) | (rw [if_neg (by decide +kernel)]; exact ⟨rfl, rfl⟩))
    (fun os started H enc _ => lifted os started H enc)

end FnDiskPut

theorem FnDiskPut_holds : Rows.FnDiskPutSaid := FnDiskPut.over

end Go.Proofs.Ytbkagnlomlnhcaa

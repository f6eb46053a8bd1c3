/- 'laws.FnDiskRing' returns true at every code: of a drawn disk and write DiskPut of the program answers as DiskPut of the specification; a ring that is written changes no slot and no other ring. Conditions: none. -/
import Derived.Test.YtbkagnlomlnhcaaK
import Derived.Test.YtbkagnlomlnhcaaN2
import Derived.Test.YtbkagnlomlnhcaaY6
import Derived.Test.YtbkagnlomlnhcaaV6
import Derived.Lib.QuietBelow
namespace Go.Proofs.Ytbkagnlomlnhcaa
open Go.ChangeShapes Go.WideShapes Go.ChangeAt Go.RowKit Go.Sort
namespace FnDiskRing
set_option linter.unusedVariables false

theorem sl1 {w : World} {a1 a2 a3 a4 : Option Addr} {c1 c2 c3 c4 : Nat} {d : DiskD} (h : DiskV w (.agg #[.int .i64 d.state, .slice a1 d.slots.length c1, .slice a2 d.rings.length c2, .slice a3 d.spoilt.length c3, .slice a4 d.wait.length c4]) d) : TxAt w a1 d.slots := by
  obtain ⟨_, _, _, _, e, ⟨_, _, e1, _, _, x1⟩, _⟩ := h
  cases e
  cases e1
  exact x1
theorem choose (d : DiskD) (x : PutD) : ∃ r : DiskD, Hid (∀ u W, DiskV W u d → Calls Try.prog 30 #[u, .agg #[.bool x.ring, .int .i64 x.pos, .string x.text]] W (NewDisk r W)) ∧ Hid (∀ u W, DiskV W u d → Calls Try.prog 29 #[u, .agg #[.bool x.ring, .int .i64 x.pos, .string x.text]] W (NewDisk r W)) ∧ (r.slots.length = 0 ∨ (r.slots.length ≠ 0 ∧ DiskFine d)) := by
  by_cases h : DiskFine d ∧ PutOk x
  · have h2 := put_fine h.1 h.2
    exact ⟨putD d x, fun u W hu => specPut_ok u d x W h.1 h.2 hu, fun u W hu => implPut_ok u d x W h.1 h.2 hu, .inr ⟨by have := h2.2.1.1; omega, h.1⟩⟩
  · exact ⟨disk0, fun u W hu => specPut_no u d x W h hu, fun u W hu => implPut_no u d x W h hu, .inl rfl⟩
/-- What is known of the two disks: the one with the ring written, and the other. -/
theorem rings (d : DiskD) (h : DiskFine d) (k : Nat) (hk : k < 2) : ∃ m y z : DiskD,
    Hid (∀ u W, DiskV W u d → Calls Try.prog 29 #[u, .agg #[.bool true, .int .i64 (k : Int), .string ⟨#[116, 101, 120, 116]⟩]] W (NewDisk m W)) ∧ Hid (∀ u W, DiskV W u m → Calls Try.prog 32 #[u] W (NewDisk y W)) ∧ Hid (∀ u W, DiskV W u d → Calls Try.prog 32 #[u] W (NewDisk z W)) ∧
      y.slots = z.slots ∧ y.rings.length = 2 ∧ z.rings.length = 2 ∧ y.rings.getD (1 - k) ByteArray.empty = z.rings.getD (1 - k) ByteArray.empty ∧
      ((d.state = 1 ∧ y.rings.getD k ByteArray.empty = ⟨#[]⟩ ∧ z.rings.getD k ByteArray.empty = ⟨#[]⟩) ∨ ((d.state = 0 ∨ d.state = 2) ∧ y.rings.getD k ByteArray.empty = ⟨#[116, 101, 120, 116]⟩)) := by
  obtain ⟨f1, f2, f3, f4, f5, f6, f7⟩ := ring_facts h hk (s := ⟨#[116, 101, 120, 116]⟩) (by decide)
  refine ⟨_, _, _, fun u W hu => implPut_ok u d ⟨true, (k : Int), ⟨#[116, 101, 120, 116]⟩⟩ W h (ring_put hk (by decide)) hu, fun u W hu => implFlush_ok u _ W f1 hu, fun u W hu => implFlush_ok u d W h hu, f2, f3, f4, f7 _ (by omega), ?_⟩
  by_cases hs : d.state = 1
  · have e := crash_none d (-1) (gone_wait h hs)
    have hn := tx_none ((h.2.2.2.2.2 hs).2.1 k (by have := h.2.1.2.1; omega))
    refine .inl ⟨hs, ?_, ?_⟩
    · rw [f5 hs, e]; exact hn
    · rw [e]; exact hn
  · have h1 := h.1
    unfold StateOk at h1
    exact .inr ⟨by omega, f6 hs⟩

set_option maxRecDepth 100000 in
set_option maxHeartbeats 4000000 in
theorem main (a : Option Addr) (len cap : Nat) (z0 : List Int) (a1 : Option Addr) (len1 cap1 : Nat) (w : World) (h0 : len ≤ 1048576) (h1 : len1 ≤ 1048576) (H : Hid (IsBytes w a len cap z0)) :
    Calls Try.prog 10 #[.slice a len cap, .slice a1 len1 cap1] w fun e w' => e = .returned (.bool true) ∧ Below w.heap.size w w' := by
  have d0 : decide (1048576 < (len : Int)) = false := by simp; omega
  have d1 : decide (1048576 < (len1 : Int)) = false := by simp; omega
  go_enter Try.func10, Try.ntmps10
  go_wp2_with fail
  refine (drawPut_any a len cap z0 _ H.out).mono ?_
  rintro e w1 ⟨d, v1, x, rfl, hv1, hB1⟩
  have B := Lib.hid hB1
  have VD := Lib.hid hv1
  obtain ⟨r, HS, HI, HF⟩ := choose d x
  obtain ⟨_, _, _, _, rfl, ⟨o1, c1, rfl, _⟩, ⟨o2, c2, rfl, _⟩, ⟨o3, c3, rfl, _⟩, ⟨o4, c4, rfl, _⟩⟩ := hv1
  clear hB1
  have hAl := Lib.hid (show Below w1.heap.size w1 ((w1.alloc (.cells #[.int .i64 d.state, .slice o1 d.slots.length c1, .slice o2 d.rings.length c2, .slice o3 d.spoilt.length c3, .slice o4 d.wait.length c4] 30)).alloc (.cells #[.bool x.ring, .int .i64 x.pos, .string x.text] 44)) from ((Below.refl _ _).alloc (Nat.le_refl _) _).alloc (by simp) _)
  have KO := Lib.hid (show Blk ((w1.alloc (.cells #[.int .i64 d.state, .slice o1 d.slots.length c1, .slice o2 d.rings.length c2, .slice o3 d.spoilt.length c3, .slice o4 d.wait.length c4] 30)).alloc (.cells #[.bool x.ring, .int .i64 x.pos, .string x.text] 44)) w1.heap.size #[.int .i64 d.state, .slice o1 d.slots.length c1, .slice o2 d.rings.length c2, .slice o3 d.spoilt.length c3, .slice o4 d.wait.length c4] 30 from (Blk.new w1 _ _).below (n := w1.heap.size + 1) ((Below.refl _ _).alloc (by simp) _) (by omega))
  have KQ := Lib.hid (show Blk ((w1.alloc (.cells #[.int .i64 d.state, .slice o1 d.slots.length c1, .slice o2 d.rings.length c2, .slice o3 d.spoilt.length c3, .slice o4 d.wait.length c4] 30)).alloc (.cells #[.bool x.ring, .int .i64 x.pos, .string x.text] 44)) (w1.heap.size + 1) #[.bool x.ring, .int .i64 x.pos, .string x.text] 44 by
    have := Blk.new (w1.alloc (.cells #[.int .i64 d.state, .slice o1 d.slots.length c1, .slice o2 d.rings.length c2, .slice o3 d.spoilt.length c3, .slice o4 d.wait.length c4] 30)) #[.bool x.ring, .int .i64 x.pos, .string x.text] 44
    rw [World.size_alloc] at this
    exact this)
  have VD := Lib.hid (VD.out.below hAl.out)
  have B := Lib.hid (below_trans B.out hAl.out B.out.size)
  obtain ⟨p0, p1, p2, p3, p4⟩ : (((w1.alloc (.cells #[.int .i64 d.state, .slice o1 d.slots.length c1, .slice o2 d.rings.length c2, .slice o3 d.spoilt.length c3, .slice o4 d.wait.length c4] 30)).alloc (.cells #[.bool x.ring, .int .i64 x.pos, .string x.text] 44))).cell? ⟨w1.heap.size, 0, none⟩ = some (.int .i64 d.state) ∧ (((w1.alloc (.cells #[.int .i64 d.state, .slice o1 d.slots.length c1, .slice o2 d.rings.length c2, .slice o3 d.spoilt.length c3, .slice o4 d.wait.length c4] 30)).alloc (.cells #[.bool x.ring, .int .i64 x.pos, .string x.text] 44))).cell? ⟨w1.heap.size, 1, none⟩ = some (.slice o1 d.slots.length c1) ∧ (((w1.alloc (.cells #[.int .i64 d.state, .slice o1 d.slots.length c1, .slice o2 d.rings.length c2, .slice o3 d.spoilt.length c3, .slice o4 d.wait.length c4] 30)).alloc (.cells #[.bool x.ring, .int .i64 x.pos, .string x.text] 44))).cell? ⟨w1.heap.size, 2, none⟩ = some (.slice o2 d.rings.length c2) ∧ (((w1.alloc (.cells #[.int .i64 d.state, .slice o1 d.slots.length c1, .slice o2 d.rings.length c2, .slice o3 d.spoilt.length c3, .slice o4 d.wait.length c4] 30)).alloc (.cells #[.bool x.ring, .int .i64 x.pos, .string x.text] 44))).cell? ⟨w1.heap.size, 3, none⟩ = some (.slice o3 d.spoilt.length c3) ∧ (((w1.alloc (.cells #[.int .i64 d.state, .slice o1 d.slots.length c1, .slice o2 d.rings.length c2, .slice o3 d.spoilt.length c3, .slice o4 d.wait.length c4] 30)).alloc (.cells #[.bool x.ring, .int .i64 x.pos, .string x.text] 44))).cell? ⟨w1.heap.size, 4, none⟩ = some (.slice o4 d.wait.length c4) := ⟨(KO.out.cell 0), (KO.out.cell 1), (KO.out.cell 2), (KO.out.cell 3), (KO.out.cell 4)⟩
  obtain ⟨n0, n1, n2⟩ : (((w1.alloc (.cells #[.int .i64 d.state, .slice o1 d.slots.length c1, .slice o2 d.rings.length c2, .slice o3 d.spoilt.length c3, .slice o4 d.wait.length c4] 30)).alloc (.cells #[.bool x.ring, .int .i64 x.pos, .string x.text] 44))).cell? ⟨w1.heap.size + 1, 0, none⟩ = some (.bool x.ring) ∧ (((w1.alloc (.cells #[.int .i64 d.state, .slice o1 d.slots.length c1, .slice o2 d.rings.length c2, .slice o3 d.spoilt.length c3, .slice o4 d.wait.length c4] 30)).alloc (.cells #[.bool x.ring, .int .i64 x.pos, .string x.text] 44))).cell? ⟨w1.heap.size + 1, 1, none⟩ = some (.int .i64 x.pos) ∧ (((w1.alloc (.cells #[.int .i64 d.state, .slice o1 d.slots.length c1, .slice o2 d.rings.length c2, .slice o3 d.spoilt.length c3, .slice o4 d.wait.length c4] 30)).alloc (.cells #[.bool x.ring, .int .i64 x.pos, .string x.text] 44))).cell? ⟨w1.heap.size + 1, 2, none⟩ = some (.string x.text) := ⟨(KQ.out.cell 0), (KQ.out.cell 1), (KQ.out.cell 2)⟩
  go_wp2_with fail
  generalize ((w1.alloc (.cells #[.int .i64 d.state, .slice o1 d.slots.length c1, .slice o2 d.rings.length c2, .slice o3 d.spoilt.length c3, .slice o4 d.wait.length c4] 30)).alloc (.cells #[.bool x.ring, .int .i64 x.pos, .string x.text] 44)) = W1 at hAl KO KQ VD B p0 p1 p2 p3 p4 n0 n1 n2 ⊢
  refine (HI.out _ _ VD.out).mono ?_
  rintro e w2 ⟨v2, rfl, ow, hB2⟩
  clear p0 p1 p2 p3 p4
  clear n0 n1 n2
  have KO := Lib.hid (KO.out.below hB2 KO.out.lt)
  have KQ := Lib.hid (KQ.out.below hB2 KQ.out.lt)
  have VD := Lib.hid (VD.out.below hB2)
  have B := Lib.hid (below_trans B.out hB2 B.out.size)
  have VX := Lib.hid ow.reads
  have hx := ow.reads
  obtain ⟨_, _, _, _, rfl, ⟨x1, e1, rfl, _⟩, ⟨x2, e2, rfl, _⟩, ⟨x3, e3, rfl, _⟩, ⟨x4, e4, rfl, _⟩⟩ := hx
  clear ow hB2
  have hAl := Lib.hid (show Below w2.heap.size w2 (w2.alloc (.cells #[.int .i64 r.state, .slice x1 r.slots.length e1, .slice x2 r.rings.length e2, .slice x3 r.spoilt.length e3, .slice x4 r.wait.length e4] 30)) from (Below.refl _ _).alloc (Nat.le_refl _) _)
  have KX := Lib.hid (Blk.new w2 #[.int .i64 r.state, .slice x1 r.slots.length e1, .slice x2 r.rings.length e2, .slice x3 r.spoilt.length e3, .slice x4 r.wait.length e4] 30)
  have KO := Lib.hid (KO.out.below hAl.out KO.out.lt)
  have KQ := Lib.hid (KQ.out.below hAl.out KQ.out.lt)
  have VD := Lib.hid (VD.out.below hAl.out)
  have VX := Lib.hid (VX.out.below hAl.out)
  have B := Lib.hid (below_trans B.out hAl.out B.out.size)
  obtain ⟨p0, p1, p2, p3, p4⟩ : (w2.alloc (.cells #[.int .i64 r.state, .slice x1 r.slots.length e1, .slice x2 r.rings.length e2, .slice x3 r.spoilt.length e3, .slice x4 r.wait.length e4] 30)).cell? ⟨w1.heap.size, 0, none⟩ = some (.int .i64 d.state) ∧ (w2.alloc (.cells #[.int .i64 r.state, .slice x1 r.slots.length e1, .slice x2 r.rings.length e2, .slice x3 r.spoilt.length e3, .slice x4 r.wait.length e4] 30)).cell? ⟨w1.heap.size, 1, none⟩ = some (.slice o1 d.slots.length c1) ∧ (w2.alloc (.cells #[.int .i64 r.state, .slice x1 r.slots.length e1, .slice x2 r.rings.length e2, .slice x3 r.spoilt.length e3, .slice x4 r.wait.length e4] 30)).cell? ⟨w1.heap.size, 2, none⟩ = some (.slice o2 d.rings.length c2) ∧ (w2.alloc (.cells #[.int .i64 r.state, .slice x1 r.slots.length e1, .slice x2 r.rings.length e2, .slice x3 r.spoilt.length e3, .slice x4 r.wait.length e4] 30)).cell? ⟨w1.heap.size, 3, none⟩ = some (.slice o3 d.spoilt.length c3) ∧ (w2.alloc (.cells #[.int .i64 r.state, .slice x1 r.slots.length e1, .slice x2 r.rings.length e2, .slice x3 r.spoilt.length e3, .slice x4 r.wait.length e4] 30)).cell? ⟨w1.heap.size, 4, none⟩ = some (.slice o4 d.wait.length c4) := ⟨(KO.out.cell 0), (KO.out.cell 1), (KO.out.cell 2), (KO.out.cell 3), (KO.out.cell 4)⟩
  obtain ⟨n0, n1, n2⟩ : (w2.alloc (.cells #[.int .i64 r.state, .slice x1 r.slots.length e1, .slice x2 r.rings.length e2, .slice x3 r.spoilt.length e3, .slice x4 r.wait.length e4] 30)).cell? ⟨w1.heap.size + 1, 0, none⟩ = some (.bool x.ring) ∧ (w2.alloc (.cells #[.int .i64 r.state, .slice x1 r.slots.length e1, .slice x2 r.rings.length e2, .slice x3 r.spoilt.length e3, .slice x4 r.wait.length e4] 30)).cell? ⟨w1.heap.size + 1, 1, none⟩ = some (.int .i64 x.pos) ∧ (w2.alloc (.cells #[.int .i64 r.state, .slice x1 r.slots.length e1, .slice x2 r.rings.length e2, .slice x3 r.spoilt.length e3, .slice x4 r.wait.length e4] 30)).cell? ⟨w1.heap.size + 1, 2, none⟩ = some (.string x.text) := ⟨(KQ.out.cell 0), (KQ.out.cell 1), (KQ.out.cell 2)⟩
  obtain ⟨s0, s1, s2, s3, s4⟩ : (w2.alloc (.cells #[.int .i64 r.state, .slice x1 r.slots.length e1, .slice x2 r.rings.length e2, .slice x3 r.spoilt.length e3, .slice x4 r.wait.length e4] 30)).cell? ⟨w2.heap.size, 0, none⟩ = some (.int .i64 r.state) ∧ (w2.alloc (.cells #[.int .i64 r.state, .slice x1 r.slots.length e1, .slice x2 r.rings.length e2, .slice x3 r.spoilt.length e3, .slice x4 r.wait.length e4] 30)).cell? ⟨w2.heap.size, 1, none⟩ = some (.slice x1 r.slots.length e1) ∧ (w2.alloc (.cells #[.int .i64 r.state, .slice x1 r.slots.length e1, .slice x2 r.rings.length e2, .slice x3 r.spoilt.length e3, .slice x4 r.wait.length e4] 30)).cell? ⟨w2.heap.size, 2, none⟩ = some (.slice x2 r.rings.length e2) ∧ (w2.alloc (.cells #[.int .i64 r.state, .slice x1 r.slots.length e1, .slice x2 r.rings.length e2, .slice x3 r.spoilt.length e3, .slice x4 r.wait.length e4] 30)).cell? ⟨w2.heap.size, 3, none⟩ = some (.slice x3 r.spoilt.length e3) ∧ (w2.alloc (.cells #[.int .i64 r.state, .slice x1 r.slots.length e1, .slice x2 r.rings.length e2, .slice x3 r.spoilt.length e3, .slice x4 r.wait.length e4] 30)).cell? ⟨w2.heap.size, 4, none⟩ = some (.slice x4 r.wait.length e4) := ⟨(KX.out.cell 0), (KX.out.cell 1), (KX.out.cell 2), (KX.out.cell 3), (KX.out.cell 4)⟩
  go_upto_region 5 with (fail)
  generalize w2.alloc (.cells #[.int .i64 r.state, .slice x1 r.slots.length e1, .slice x2 r.rings.length e2, .slice x3 r.spoilt.length e3, .slice x4 r.wait.length e4] 30) = W2 at hAl KO KQ KX VD VX B p0 p1 p2 p3 p4 n0 n1 n2 s0 s1 s2 s3 s4 ⊢
  rcases HF with hz | ⟨hz, hfine⟩
  · have dz : ((r.slots.length : Int) == 0) = true := beq_iff_eq.2 (by omega)
    clear hz
    have cur : Hid (Below W2.heap.size W2 W2.drew) := (Below.refl _ _).drew
    go_region_held3 (fun w' => (w'.cell? ⟨w1.heap.size, 0, none⟩ = some (.int .i64 d.state) ∧ w'.cell? ⟨w1.heap.size, 1, none⟩ = some (.slice o1 d.slots.length c1) ∧ w'.cell? ⟨w1.heap.size, 2, none⟩ = some (.slice o2 d.rings.length c2) ∧ w'.cell? ⟨w1.heap.size, 3, none⟩ = some (.slice o3 d.spoilt.length c3) ∧ w'.cell? ⟨w1.heap.size, 4, none⟩ = some (.slice o4 d.wait.length c4)) ∧ (w'.cell? ⟨w1.heap.size + 1, 0, none⟩ = some (.bool x.ring) ∧ w'.cell? ⟨w1.heap.size + 1, 1, none⟩ = some (.int .i64 x.pos) ∧ w'.cell? ⟨w1.heap.size + 1, 2, none⟩ = some (.string x.text)) ∧ (w'.cell? ⟨w2.heap.size, 0, none⟩ = some (.int .i64 r.state) ∧ w'.cell? ⟨w2.heap.size, 1, none⟩ = some (.slice x1 r.slots.length e1) ∧ w'.cell? ⟨w2.heap.size, 2, none⟩ = some (.slice x2 r.rings.length e2) ∧ w'.cell? ⟨w2.heap.size, 3, none⟩ = some (.slice x3 r.spoilt.length e3) ∧ w'.cell? ⟨w2.heap.size, 4, none⟩ = some (.slice x4 r.wait.length e4))) (first | with_reducible exact mm | go_keep)
      (first
        | (go_at_call 30; refine (HS.out _ _ (VD.out.below cur.out)).mono ?_; rintro e w7 ⟨v7, rfl, o7, hB7⟩; have V7 := Lib.hid o7.reads; have hx := o7.reads; obtain ⟨_, _, _, _, rfl, ⟨z1, j1, rfl, _⟩, ⟨z2, j2, rfl, _⟩, ⟨z3, j3, rfl, _⟩, ⟨z4, j4, rfl, _⟩⟩ := hx; clear o7; have cur := Lib.hid (below_trans cur.out hB7 cur.out.size); have mm := (⟨⟨((KO.out.below cur.out KO.out.lt).cell 0), ((KO.out.below cur.out KO.out.lt).cell 1), ((KO.out.below cur.out KO.out.lt).cell 2), ((KO.out.below cur.out KO.out.lt).cell 3), ((KO.out.below cur.out KO.out.lt).cell 4)⟩, ⟨((KQ.out.below cur.out KQ.out.lt).cell 0), ((KQ.out.below cur.out KQ.out.lt).cell 1), ((KQ.out.below cur.out KQ.out.lt).cell 2)⟩, ⟨((KX.out.below cur.out KX.out.lt).cell 0), ((KX.out.below cur.out KX.out.lt).cell 1), ((KX.out.below cur.out KX.out.lt).cell 2), ((KX.out.below cur.out KX.out.lt).cell 3), ((KX.out.below cur.out KX.out.lt).cell 4)⟩⟩ : (w7.cell? ⟨w1.heap.size, 0, none⟩ = some (.int .i64 d.state) ∧ w7.cell? ⟨w1.heap.size, 1, none⟩ = some (.slice o1 d.slots.length c1) ∧ w7.cell? ⟨w1.heap.size, 2, none⟩ = some (.slice o2 d.rings.length c2) ∧ w7.cell? ⟨w1.heap.size, 3, none⟩ = some (.slice o3 d.spoilt.length c3) ∧ w7.cell? ⟨w1.heap.size, 4, none⟩ = some (.slice o4 d.wait.length c4)) ∧ (w7.cell? ⟨w1.heap.size + 1, 0, none⟩ = some (.bool x.ring) ∧ w7.cell? ⟨w1.heap.size + 1, 1, none⟩ = some (.int .i64 x.pos) ∧ w7.cell? ⟨w1.heap.size + 1, 2, none⟩ = some (.string x.text)) ∧ (w7.cell? ⟨w2.heap.size, 0, none⟩ = some (.int .i64 r.state) ∧ w7.cell? ⟨w2.heap.size, 1, none⟩ = some (.slice x1 r.slots.length e1) ∧ w7.cell? ⟨w2.heap.size, 2, none⟩ = some (.slice x2 r.rings.length e2) ∧ w7.cell? ⟨w2.heap.size, 3, none⟩ = some (.slice x3 r.spoilt.length e3) ∧ w7.cell? ⟨w2.heap.size, 4, none⟩ = some (.slice x4 r.wait.length e4))); clear hB7)
        | (go_at_call 24; refine (lpaDisk_same _ _ r _ (VX.out.below cur.out) V7.out).mono ?_; rintro e w8 ⟨rfl, hB8⟩; have cur := Lib.hid (below_trans cur.out hB8 cur.out.size); have mm := (⟨⟨((KO.out.below cur.out KO.out.lt).cell 0), ((KO.out.below cur.out KO.out.lt).cell 1), ((KO.out.below cur.out KO.out.lt).cell 2), ((KO.out.below cur.out KO.out.lt).cell 3), ((KO.out.below cur.out KO.out.lt).cell 4)⟩, ⟨((KQ.out.below cur.out KQ.out.lt).cell 0), ((KQ.out.below cur.out KQ.out.lt).cell 1), ((KQ.out.below cur.out KQ.out.lt).cell 2)⟩, ⟨((KX.out.below cur.out KX.out.lt).cell 0), ((KX.out.below cur.out KX.out.lt).cell 1), ((KX.out.below cur.out KX.out.lt).cell 2), ((KX.out.below cur.out KX.out.lt).cell 3), ((KX.out.below cur.out KX.out.lt).cell 4)⟩⟩ : (w8.cell? ⟨w1.heap.size, 0, none⟩ = some (.int .i64 d.state) ∧ w8.cell? ⟨w1.heap.size, 1, none⟩ = some (.slice o1 d.slots.length c1) ∧ w8.cell? ⟨w1.heap.size, 2, none⟩ = some (.slice o2 d.rings.length c2) ∧ w8.cell? ⟨w1.heap.size, 3, none⟩ = some (.slice o3 d.spoilt.length c3) ∧ w8.cell? ⟨w1.heap.size, 4, none⟩ = some (.slice o4 d.wait.length c4)) ∧ (w8.cell? ⟨w1.heap.size + 1, 0, none⟩ = some (.bool x.ring) ∧ w8.cell? ⟨w1.heap.size + 1, 1, none⟩ = some (.int .i64 x.pos) ∧ w8.cell? ⟨w1.heap.size + 1, 2, none⟩ = some (.string x.text)) ∧ (w8.cell? ⟨w2.heap.size, 0, none⟩ = some (.int .i64 r.state) ∧ w8.cell? ⟨w2.heap.size, 1, none⟩ = some (.slice x1 r.slots.length e1) ∧ w8.cell? ⟨w2.heap.size, 2, none⟩ = some (.slice x2 r.rings.length e2) ∧ w8.cell? ⟨w2.heap.size, 3, none⟩ = some (.slice x3 r.spoilt.length e3) ∧ w8.cell? ⟨w2.heap.size, 4, none⟩ = some (.slice x4 r.wait.length e4))); clear hB8))
    clear p0 p1 p2 p3 p4
    clear n0 n1 n2
    clear s0 s1 s2 s3 s4
    have KO := Lib.hid (KO.out.below cur.out KO.out.lt)
    have KQ := Lib.hid (KQ.out.below cur.out KQ.out.lt)
    have KX := Lib.hid (KX.out.below cur.out KX.out.lt)
    have VD := Lib.hid (VD.out.below cur.out)
    have VX := Lib.hid (VX.out.below cur.out)
    have B := Lib.hid (below_trans B.out cur.out B.out.size)
    clear cur
    clear V7
    obtain ⟨W3, e3⟩ : ∃ x, x = w8 := ⟨_, rfl⟩
    subst e3
    obtain ⟨p0, p1, p2, p3, p4⟩ : W3.cell? ⟨w1.heap.size, 0, none⟩ = some (.int .i64 d.state) ∧ W3.cell? ⟨w1.heap.size, 1, none⟩ = some (.slice o1 d.slots.length c1) ∧ W3.cell? ⟨w1.heap.size, 2, none⟩ = some (.slice o2 d.rings.length c2) ∧ W3.cell? ⟨w1.heap.size, 3, none⟩ = some (.slice o3 d.spoilt.length c3) ∧ W3.cell? ⟨w1.heap.size, 4, none⟩ = some (.slice o4 d.wait.length c4) := ⟨(KO.out.cell 0), (KO.out.cell 1), (KO.out.cell 2), (KO.out.cell 3), (KO.out.cell 4)⟩
    obtain ⟨n0, n1, n2⟩ : W3.cell? ⟨w1.heap.size + 1, 0, none⟩ = some (.bool x.ring) ∧ W3.cell? ⟨w1.heap.size + 1, 1, none⟩ = some (.int .i64 x.pos) ∧ W3.cell? ⟨w1.heap.size + 1, 2, none⟩ = some (.string x.text) := ⟨(KQ.out.cell 0), (KQ.out.cell 1), (KQ.out.cell 2)⟩
    obtain ⟨s0, s1, s2, s3, s4⟩ : W3.cell? ⟨w2.heap.size, 0, none⟩ = some (.int .i64 r.state) ∧ W3.cell? ⟨w2.heap.size, 1, none⟩ = some (.slice x1 r.slots.length e1) ∧ W3.cell? ⟨w2.heap.size, 2, none⟩ = some (.slice x2 r.rings.length e2) ∧ W3.cell? ⟨w2.heap.size, 3, none⟩ = some (.slice x3 r.spoilt.length e3) ∧ W3.cell? ⟨w2.heap.size, 4, none⟩ = some (.slice x4 r.wait.length e4) := ⟨(KX.out.cell 0), (KX.out.cell 1), (KX.out.cell 2), (KX.out.cell 3), (KX.out.cell 4)⟩
    have cur : Hid (Below W3.heap.size W3 W3.drew) := (Below.refl _ _).drew
    go_wp2_with fail
    go_region_held3 (fun w' => (w'.cell? ⟨w1.heap.size, 0, none⟩ = some (.int .i64 d.state) ∧ w'.cell? ⟨w1.heap.size, 1, none⟩ = some (.slice o1 d.slots.length c1) ∧ w'.cell? ⟨w1.heap.size, 2, none⟩ = some (.slice o2 d.rings.length c2) ∧ w'.cell? ⟨w1.heap.size, 3, none⟩ = some (.slice o3 d.spoilt.length c3) ∧ w'.cell? ⟨w1.heap.size, 4, none⟩ = some (.slice o4 d.wait.length c4)) ∧ (w'.cell? ⟨w1.heap.size + 1, 0, none⟩ = some (.bool x.ring) ∧ w'.cell? ⟨w1.heap.size + 1, 1, none⟩ = some (.int .i64 x.pos) ∧ w'.cell? ⟨w1.heap.size + 1, 2, none⟩ = some (.string x.text)) ∧ (w'.cell? ⟨w2.heap.size, 0, none⟩ = some (.int .i64 r.state) ∧ w'.cell? ⟨w2.heap.size, 1, none⟩ = some (.slice x1 r.slots.length e1) ∧ w'.cell? ⟨w2.heap.size, 2, none⟩ = some (.slice x2 r.rings.length e2) ∧ w'.cell? ⟨w2.heap.size, 3, none⟩ = some (.slice x3 r.spoilt.length e3) ∧ w'.cell? ⟨w2.heap.size, 4, none⟩ = some (.slice x4 r.wait.length e4))) (first | with_reducible exact mm | go_keep)
      (first
        | (go_at_call 30; refine (HS.out _ _ (VD.out.below cur.out)).mono ?_; rintro e w7 ⟨v7, rfl, o7, hB7⟩; have V7 := Lib.hid o7.reads; have hx := o7.reads; obtain ⟨_, _, _, _, rfl, ⟨z1, j1, rfl, _⟩, ⟨z2, j2, rfl, _⟩, ⟨z3, j3, rfl, _⟩, ⟨z4, j4, rfl, _⟩⟩ := hx; clear o7; have cur := Lib.hid (below_trans cur.out hB7 cur.out.size); have mm := (⟨⟨((KO.out.below cur.out KO.out.lt).cell 0), ((KO.out.below cur.out KO.out.lt).cell 1), ((KO.out.below cur.out KO.out.lt).cell 2), ((KO.out.below cur.out KO.out.lt).cell 3), ((KO.out.below cur.out KO.out.lt).cell 4)⟩, ⟨((KQ.out.below cur.out KQ.out.lt).cell 0), ((KQ.out.below cur.out KQ.out.lt).cell 1), ((KQ.out.below cur.out KQ.out.lt).cell 2)⟩, ⟨((KX.out.below cur.out KX.out.lt).cell 0), ((KX.out.below cur.out KX.out.lt).cell 1), ((KX.out.below cur.out KX.out.lt).cell 2), ((KX.out.below cur.out KX.out.lt).cell 3), ((KX.out.below cur.out KX.out.lt).cell 4)⟩⟩ : (w7.cell? ⟨w1.heap.size, 0, none⟩ = some (.int .i64 d.state) ∧ w7.cell? ⟨w1.heap.size, 1, none⟩ = some (.slice o1 d.slots.length c1) ∧ w7.cell? ⟨w1.heap.size, 2, none⟩ = some (.slice o2 d.rings.length c2) ∧ w7.cell? ⟨w1.heap.size, 3, none⟩ = some (.slice o3 d.spoilt.length c3) ∧ w7.cell? ⟨w1.heap.size, 4, none⟩ = some (.slice o4 d.wait.length c4)) ∧ (w7.cell? ⟨w1.heap.size + 1, 0, none⟩ = some (.bool x.ring) ∧ w7.cell? ⟨w1.heap.size + 1, 1, none⟩ = some (.int .i64 x.pos) ∧ w7.cell? ⟨w1.heap.size + 1, 2, none⟩ = some (.string x.text)) ∧ (w7.cell? ⟨w2.heap.size, 0, none⟩ = some (.int .i64 r.state) ∧ w7.cell? ⟨w2.heap.size, 1, none⟩ = some (.slice x1 r.slots.length e1) ∧ w7.cell? ⟨w2.heap.size, 2, none⟩ = some (.slice x2 r.rings.length e2) ∧ w7.cell? ⟨w2.heap.size, 3, none⟩ = some (.slice x3 r.spoilt.length e3) ∧ w7.cell? ⟨w2.heap.size, 4, none⟩ = some (.slice x4 r.wait.length e4))); clear hB7)
        | (go_at_call 24; refine (lpaDisk_same _ _ r _ (VX.out.below cur.out) V7.out).mono ?_; rintro e w8 ⟨rfl, hB8⟩; have cur := Lib.hid (below_trans cur.out hB8 cur.out.size); have mm := (⟨⟨((KO.out.below cur.out KO.out.lt).cell 0), ((KO.out.below cur.out KO.out.lt).cell 1), ((KO.out.below cur.out KO.out.lt).cell 2), ((KO.out.below cur.out KO.out.lt).cell 3), ((KO.out.below cur.out KO.out.lt).cell 4)⟩, ⟨((KQ.out.below cur.out KQ.out.lt).cell 0), ((KQ.out.below cur.out KQ.out.lt).cell 1), ((KQ.out.below cur.out KQ.out.lt).cell 2)⟩, ⟨((KX.out.below cur.out KX.out.lt).cell 0), ((KX.out.below cur.out KX.out.lt).cell 1), ((KX.out.below cur.out KX.out.lt).cell 2), ((KX.out.below cur.out KX.out.lt).cell 3), ((KX.out.below cur.out KX.out.lt).cell 4)⟩⟩ : (w8.cell? ⟨w1.heap.size, 0, none⟩ = some (.int .i64 d.state) ∧ w8.cell? ⟨w1.heap.size, 1, none⟩ = some (.slice o1 d.slots.length c1) ∧ w8.cell? ⟨w1.heap.size, 2, none⟩ = some (.slice o2 d.rings.length c2) ∧ w8.cell? ⟨w1.heap.size, 3, none⟩ = some (.slice o3 d.spoilt.length c3) ∧ w8.cell? ⟨w1.heap.size, 4, none⟩ = some (.slice o4 d.wait.length c4)) ∧ (w8.cell? ⟨w1.heap.size + 1, 0, none⟩ = some (.bool x.ring) ∧ w8.cell? ⟨w1.heap.size + 1, 1, none⟩ = some (.int .i64 x.pos) ∧ w8.cell? ⟨w1.heap.size + 1, 2, none⟩ = some (.string x.text)) ∧ (w8.cell? ⟨w2.heap.size, 0, none⟩ = some (.int .i64 r.state) ∧ w8.cell? ⟨w2.heap.size, 1, none⟩ = some (.slice x1 r.slots.length e1) ∧ w8.cell? ⟨w2.heap.size, 2, none⟩ = some (.slice x2 r.rings.length e2) ∧ w8.cell? ⟨w2.heap.size, 3, none⟩ = some (.slice x3 r.spoilt.length e3) ∧ w8.cell? ⟨w2.heap.size, 4, none⟩ = some (.slice x4 r.wait.length e4))); clear hB8))
    clear p0 p1 p2 p3 p4
    clear n0 n1 n2
    clear s0 s1 s2 s3 s4
    have KO := Lib.hid (KO.out.below cur.out KO.out.lt)
    have KQ := Lib.hid (KQ.out.below cur.out KQ.out.lt)
    have KX := Lib.hid (KX.out.below cur.out KX.out.lt)
    have VD := Lib.hid (VD.out.below cur.out)
    have VX := Lib.hid (VX.out.below cur.out)
    have B := Lib.hid (below_trans B.out cur.out B.out.size)
    clear cur
    go_wp2
    go_ret
    exact ⟨rfl, B.out⟩
  · have dz : ((r.slots.length : Int) == 0) = false := beq_eq_false_iff_ne.2 (by omega)
    clear hz
    have cur : Hid (Below W2.heap.size W2 W2.drew) := (Below.refl _ _).drew
    go_region_held3 (fun w' => (w'.cell? ⟨w1.heap.size, 0, none⟩ = some (.int .i64 d.state) ∧ w'.cell? ⟨w1.heap.size, 1, none⟩ = some (.slice o1 d.slots.length c1) ∧ w'.cell? ⟨w1.heap.size, 2, none⟩ = some (.slice o2 d.rings.length c2) ∧ w'.cell? ⟨w1.heap.size, 3, none⟩ = some (.slice o3 d.spoilt.length c3) ∧ w'.cell? ⟨w1.heap.size, 4, none⟩ = some (.slice o4 d.wait.length c4)) ∧ (w'.cell? ⟨w1.heap.size + 1, 0, none⟩ = some (.bool x.ring) ∧ w'.cell? ⟨w1.heap.size + 1, 1, none⟩ = some (.int .i64 x.pos) ∧ w'.cell? ⟨w1.heap.size + 1, 2, none⟩ = some (.string x.text)) ∧ (w'.cell? ⟨w2.heap.size, 0, none⟩ = some (.int .i64 r.state) ∧ w'.cell? ⟨w2.heap.size, 1, none⟩ = some (.slice x1 r.slots.length e1) ∧ w'.cell? ⟨w2.heap.size, 2, none⟩ = some (.slice x2 r.rings.length e2) ∧ w'.cell? ⟨w2.heap.size, 3, none⟩ = some (.slice x3 r.spoilt.length e3) ∧ w'.cell? ⟨w2.heap.size, 4, none⟩ = some (.slice x4 r.wait.length e4))) (first | with_reducible exact mm | go_keep)
      (first
        | (go_at_call 30; refine (HS.out _ _ (VD.out.below cur.out)).mono ?_; rintro e w7 ⟨v7, rfl, o7, hB7⟩; have V7 := Lib.hid o7.reads; have hx := o7.reads; obtain ⟨_, _, _, _, rfl, ⟨z1, j1, rfl, _⟩, ⟨z2, j2, rfl, _⟩, ⟨z3, j3, rfl, _⟩, ⟨z4, j4, rfl, _⟩⟩ := hx; clear o7; have cur := Lib.hid (below_trans cur.out hB7 cur.out.size); have mm := (⟨⟨((KO.out.below cur.out KO.out.lt).cell 0), ((KO.out.below cur.out KO.out.lt).cell 1), ((KO.out.below cur.out KO.out.lt).cell 2), ((KO.out.below cur.out KO.out.lt).cell 3), ((KO.out.below cur.out KO.out.lt).cell 4)⟩, ⟨((KQ.out.below cur.out KQ.out.lt).cell 0), ((KQ.out.below cur.out KQ.out.lt).cell 1), ((KQ.out.below cur.out KQ.out.lt).cell 2)⟩, ⟨((KX.out.below cur.out KX.out.lt).cell 0), ((KX.out.below cur.out KX.out.lt).cell 1), ((KX.out.below cur.out KX.out.lt).cell 2), ((KX.out.below cur.out KX.out.lt).cell 3), ((KX.out.below cur.out KX.out.lt).cell 4)⟩⟩ : (w7.cell? ⟨w1.heap.size, 0, none⟩ = some (.int .i64 d.state) ∧ w7.cell? ⟨w1.heap.size, 1, none⟩ = some (.slice o1 d.slots.length c1) ∧ w7.cell? ⟨w1.heap.size, 2, none⟩ = some (.slice o2 d.rings.length c2) ∧ w7.cell? ⟨w1.heap.size, 3, none⟩ = some (.slice o3 d.spoilt.length c3) ∧ w7.cell? ⟨w1.heap.size, 4, none⟩ = some (.slice o4 d.wait.length c4)) ∧ (w7.cell? ⟨w1.heap.size + 1, 0, none⟩ = some (.bool x.ring) ∧ w7.cell? ⟨w1.heap.size + 1, 1, none⟩ = some (.int .i64 x.pos) ∧ w7.cell? ⟨w1.heap.size + 1, 2, none⟩ = some (.string x.text)) ∧ (w7.cell? ⟨w2.heap.size, 0, none⟩ = some (.int .i64 r.state) ∧ w7.cell? ⟨w2.heap.size, 1, none⟩ = some (.slice x1 r.slots.length e1) ∧ w7.cell? ⟨w2.heap.size, 2, none⟩ = some (.slice x2 r.rings.length e2) ∧ w7.cell? ⟨w2.heap.size, 3, none⟩ = some (.slice x3 r.spoilt.length e3) ∧ w7.cell? ⟨w2.heap.size, 4, none⟩ = some (.slice x4 r.wait.length e4))); clear hB7)
        | (go_at_call 24; refine (lpaDisk_same _ _ r _ (VX.out.below cur.out) V7.out).mono ?_; rintro e w8 ⟨rfl, hB8⟩; have cur := Lib.hid (below_trans cur.out hB8 cur.out.size); have mm := (⟨⟨((KO.out.below cur.out KO.out.lt).cell 0), ((KO.out.below cur.out KO.out.lt).cell 1), ((KO.out.below cur.out KO.out.lt).cell 2), ((KO.out.below cur.out KO.out.lt).cell 3), ((KO.out.below cur.out KO.out.lt).cell 4)⟩, ⟨((KQ.out.below cur.out KQ.out.lt).cell 0), ((KQ.out.below cur.out KQ.out.lt).cell 1), ((KQ.out.below cur.out KQ.out.lt).cell 2)⟩, ⟨((KX.out.below cur.out KX.out.lt).cell 0), ((KX.out.below cur.out KX.out.lt).cell 1), ((KX.out.below cur.out KX.out.lt).cell 2), ((KX.out.below cur.out KX.out.lt).cell 3), ((KX.out.below cur.out KX.out.lt).cell 4)⟩⟩ : (w8.cell? ⟨w1.heap.size, 0, none⟩ = some (.int .i64 d.state) ∧ w8.cell? ⟨w1.heap.size, 1, none⟩ = some (.slice o1 d.slots.length c1) ∧ w8.cell? ⟨w1.heap.size, 2, none⟩ = some (.slice o2 d.rings.length c2) ∧ w8.cell? ⟨w1.heap.size, 3, none⟩ = some (.slice o3 d.spoilt.length c3) ∧ w8.cell? ⟨w1.heap.size, 4, none⟩ = some (.slice o4 d.wait.length c4)) ∧ (w8.cell? ⟨w1.heap.size + 1, 0, none⟩ = some (.bool x.ring) ∧ w8.cell? ⟨w1.heap.size + 1, 1, none⟩ = some (.int .i64 x.pos) ∧ w8.cell? ⟨w1.heap.size + 1, 2, none⟩ = some (.string x.text)) ∧ (w8.cell? ⟨w2.heap.size, 0, none⟩ = some (.int .i64 r.state) ∧ w8.cell? ⟨w2.heap.size, 1, none⟩ = some (.slice x1 r.slots.length e1) ∧ w8.cell? ⟨w2.heap.size, 2, none⟩ = some (.slice x2 r.rings.length e2) ∧ w8.cell? ⟨w2.heap.size, 3, none⟩ = some (.slice x3 r.spoilt.length e3) ∧ w8.cell? ⟨w2.heap.size, 4, none⟩ = some (.slice x4 r.wait.length e4))); clear hB8))
    clear p0 p1 p2 p3 p4
    clear n0 n1 n2
    clear s0 s1 s2 s3 s4
    have KO := Lib.hid (KO.out.below cur.out KO.out.lt)
    have KQ := Lib.hid (KQ.out.below cur.out KQ.out.lt)
    have KX := Lib.hid (KX.out.below cur.out KX.out.lt)
    have VD := Lib.hid (VD.out.below cur.out)
    have VX := Lib.hid (VX.out.below cur.out)
    have B := Lib.hid (below_trans B.out cur.out B.out.size)
    clear cur
    clear V7 KX VX
    have hmod : len1 % 2 = 0 ∨ len1 % 2 = 1 := by omega
    rcases hmod with hmod | hmod
    · have hm1 : ((len1 : Int)).tmod 2 = 0 := by rw [Int.tmod_eq_emod_of_nonneg (by omega)]; omega
      have hm2 : (len1 : Int) % 2 = 0 := by omega
      obtain ⟨mm, y, zz, HP, HF1, HF2, hsl, hyr, hzr, hoth, hst⟩ := rings d hfine 0 (by omega)
      have Hs := Lib.hid (And.intro hsl (And.intro hyr (And.intro hzr (And.intro hoth hst))))
      clear hfine hmod hsl hyr hzr hoth hst
      obtain ⟨p0, p1, p2, p3, p4⟩ : w8.cell? ⟨w1.heap.size, 0, none⟩ = some (.int .i64 d.state) ∧ w8.cell? ⟨w1.heap.size, 1, none⟩ = some (.slice o1 d.slots.length c1) ∧ w8.cell? ⟨w1.heap.size, 2, none⟩ = some (.slice o2 d.rings.length c2) ∧ w8.cell? ⟨w1.heap.size, 3, none⟩ = some (.slice o3 d.spoilt.length c3) ∧ w8.cell? ⟨w1.heap.size, 4, none⟩ = some (.slice o4 d.wait.length c4) := ⟨(KO.out.cell 0), (KO.out.cell 1), (KO.out.cell 2), (KO.out.cell 3), (KO.out.cell 4)⟩
      go_wp2_with fail
      refine (HP.out _ _ VD.out).mono ?_
      rintro e w9 ⟨v9, rfl, ow, hB9⟩
      clear p0 p1 p2 p3 p4
      have KO := Lib.hid (KO.out.below hB9 KO.out.lt)
      have VD := Lib.hid (VD.out.below hB9)
      have B := Lib.hid (below_trans B.out hB9 B.out.size)
      have VM := Lib.hid ow.reads
      have hx := ow.reads
      obtain ⟨_, _, _, _, rfl, ⟨m1, f1, rfl, _⟩, ⟨m2, f2, rfl, _⟩, ⟨m3, f3, rfl, _⟩, ⟨m4, f4, rfl, _⟩⟩ := hx
      clear ow hB9
      go_wp2_with fail
      refine (HF1.out _ _ VM.out).mono ?_
      rintro e w10 ⟨v10, rfl, ow, hB10⟩
      have KO := Lib.hid (KO.out.below hB10 KO.out.lt)
      have VD := Lib.hid (VD.out.below hB10)
      have VM := Lib.hid (VM.out.below hB10)
      have B := Lib.hid (below_trans B.out hB10 B.out.size)
      have OY := Lib.hid ow
      have hx := ow.reads
      obtain ⟨_, _, _, _, rfl, ⟨y1, g1, rfl, _⟩, ⟨y2, g2, rfl, _⟩, ⟨y3, g3, rfl, _⟩, ⟨y4, g4, rfl, _⟩⟩ := hx
      clear ow hB10 VM
      have hAl := Lib.hid (show Below w10.heap.size w10 (w10.alloc (.cells #[.int .i64 y.state, .slice y1 y.slots.length g1, .slice y2 y.rings.length g2, .slice y3 y.spoilt.length g3, .slice y4 y.wait.length g4] 30)) from (Below.refl _ _).alloc (Nat.le_refl _) _)
      have KY := Lib.hid (Blk.new w10 #[.int .i64 y.state, .slice y1 y.slots.length g1, .slice y2 y.rings.length g2, .slice y3 y.spoilt.length g3, .slice y4 y.wait.length g4] 30)
      have KO := Lib.hid (KO.out.below hAl.out KO.out.lt)
      have VD := Lib.hid (VD.out.below hAl.out)
      have OY := Lib.hid (OY.out.below hAl.out)
      have B := Lib.hid (below_trans B.out hAl.out B.out.size)
      obtain ⟨p0, p1, p2, p3, p4⟩ : (w10.alloc (.cells #[.int .i64 y.state, .slice y1 y.slots.length g1, .slice y2 y.rings.length g2, .slice y3 y.spoilt.length g3, .slice y4 y.wait.length g4] 30)).cell? ⟨w1.heap.size, 0, none⟩ = some (.int .i64 d.state) ∧ (w10.alloc (.cells #[.int .i64 y.state, .slice y1 y.slots.length g1, .slice y2 y.rings.length g2, .slice y3 y.spoilt.length g3, .slice y4 y.wait.length g4] 30)).cell? ⟨w1.heap.size, 1, none⟩ = some (.slice o1 d.slots.length c1) ∧ (w10.alloc (.cells #[.int .i64 y.state, .slice y1 y.slots.length g1, .slice y2 y.rings.length g2, .slice y3 y.spoilt.length g3, .slice y4 y.wait.length g4] 30)).cell? ⟨w1.heap.size, 2, none⟩ = some (.slice o2 d.rings.length c2) ∧ (w10.alloc (.cells #[.int .i64 y.state, .slice y1 y.slots.length g1, .slice y2 y.rings.length g2, .slice y3 y.spoilt.length g3, .slice y4 y.wait.length g4] 30)).cell? ⟨w1.heap.size, 3, none⟩ = some (.slice o3 d.spoilt.length c3) ∧ (w10.alloc (.cells #[.int .i64 y.state, .slice y1 y.slots.length g1, .slice y2 y.rings.length g2, .slice y3 y.spoilt.length g3, .slice y4 y.wait.length g4] 30)).cell? ⟨w1.heap.size, 4, none⟩ = some (.slice o4 d.wait.length c4) := ⟨(KO.out.cell 0), (KO.out.cell 1), (KO.out.cell 2), (KO.out.cell 3), (KO.out.cell 4)⟩
      go_wp2_with fail
      generalize w10.alloc (.cells #[.int .i64 y.state, .slice y1 y.slots.length g1, .slice y2 y.rings.length g2, .slice y3 y.spoilt.length g3, .slice y4 y.wait.length g4] 30) = W10 at hAl KO KY VD OY B p0 p1 p2 p3 p4 ⊢
      refine (HF2.out _ _ VD.out).mono ?_
      rintro e w11 ⟨v11, rfl, ow, hB11⟩
      clear p0 p1 p2 p3 p4
      have KO := Lib.hid (KO.out.below hB11 KO.out.lt)
      have KY := Lib.hid (KY.out.below hB11 KY.out.lt)
      have VD := Lib.hid (VD.out.below hB11)
      have OY := Lib.hid (OY.out.below hB11)
      have B := Lib.hid (below_trans B.out hB11 B.out.size)
      have OZ := Lib.hid ow
      have hx := ow.reads
      obtain ⟨_, _, _, _, rfl, ⟨t1, i1, rfl, _⟩, ⟨t2, i2, rfl, _⟩, ⟨t3, i3, rfl, _⟩, ⟨t4, i4, rfl, _⟩⟩ := hx
      clear ow hB11
      have hAl := Lib.hid (show Below w11.heap.size w11 (w11.alloc (.cells #[.int .i64 zz.state, .slice t1 zz.slots.length i1, .slice t2 zz.rings.length i2, .slice t3 zz.spoilt.length i3, .slice t4 zz.wait.length i4] 30)) from (Below.refl _ _).alloc (Nat.le_refl _) _)
      have KZ := Lib.hid (Blk.new w11 #[.int .i64 zz.state, .slice t1 zz.slots.length i1, .slice t2 zz.rings.length i2, .slice t3 zz.spoilt.length i3, .slice t4 zz.wait.length i4] 30)
      have KO := Lib.hid (KO.out.below hAl.out KO.out.lt)
      have KY := Lib.hid (KY.out.below hAl.out KY.out.lt)
      have VD := Lib.hid (VD.out.below hAl.out)
      have OY := Lib.hid (OY.out.below hAl.out)
      have OZ := Lib.hid (OZ.out.below hAl.out)
      have B := Lib.hid (below_trans B.out hAl.out B.out.size)
      obtain ⟨p0, p1, p2, p3, p4⟩ : (w11.alloc (.cells #[.int .i64 zz.state, .slice t1 zz.slots.length i1, .slice t2 zz.rings.length i2, .slice t3 zz.spoilt.length i3, .slice t4 zz.wait.length i4] 30)).cell? ⟨w1.heap.size, 0, none⟩ = some (.int .i64 d.state) ∧ (w11.alloc (.cells #[.int .i64 zz.state, .slice t1 zz.slots.length i1, .slice t2 zz.rings.length i2, .slice t3 zz.spoilt.length i3, .slice t4 zz.wait.length i4] 30)).cell? ⟨w1.heap.size, 1, none⟩ = some (.slice o1 d.slots.length c1) ∧ (w11.alloc (.cells #[.int .i64 zz.state, .slice t1 zz.slots.length i1, .slice t2 zz.rings.length i2, .slice t3 zz.spoilt.length i3, .slice t4 zz.wait.length i4] 30)).cell? ⟨w1.heap.size, 2, none⟩ = some (.slice o2 d.rings.length c2) ∧ (w11.alloc (.cells #[.int .i64 zz.state, .slice t1 zz.slots.length i1, .slice t2 zz.rings.length i2, .slice t3 zz.spoilt.length i3, .slice t4 zz.wait.length i4] 30)).cell? ⟨w1.heap.size, 3, none⟩ = some (.slice o3 d.spoilt.length c3) ∧ (w11.alloc (.cells #[.int .i64 zz.state, .slice t1 zz.slots.length i1, .slice t2 zz.rings.length i2, .slice t3 zz.spoilt.length i3, .slice t4 zz.wait.length i4] 30)).cell? ⟨w1.heap.size, 4, none⟩ = some (.slice o4 d.wait.length c4) := ⟨(KO.out.cell 0), (KO.out.cell 1), (KO.out.cell 2), (KO.out.cell 3), (KO.out.cell 4)⟩
      obtain ⟨b0, b1, b2, b3, b4⟩ : (w11.alloc (.cells #[.int .i64 zz.state, .slice t1 zz.slots.length i1, .slice t2 zz.rings.length i2, .slice t3 zz.spoilt.length i3, .slice t4 zz.wait.length i4] 30)).cell? ⟨w10.heap.size, 0, none⟩ = some (.int .i64 y.state) ∧ (w11.alloc (.cells #[.int .i64 zz.state, .slice t1 zz.slots.length i1, .slice t2 zz.rings.length i2, .slice t3 zz.spoilt.length i3, .slice t4 zz.wait.length i4] 30)).cell? ⟨w10.heap.size, 1, none⟩ = some (.slice y1 y.slots.length g1) ∧ (w11.alloc (.cells #[.int .i64 zz.state, .slice t1 zz.slots.length i1, .slice t2 zz.rings.length i2, .slice t3 zz.spoilt.length i3, .slice t4 zz.wait.length i4] 30)).cell? ⟨w10.heap.size, 2, none⟩ = some (.slice y2 y.rings.length g2) ∧ (w11.alloc (.cells #[.int .i64 zz.state, .slice t1 zz.slots.length i1, .slice t2 zz.rings.length i2, .slice t3 zz.spoilt.length i3, .slice t4 zz.wait.length i4] 30)).cell? ⟨w10.heap.size, 3, none⟩ = some (.slice y3 y.spoilt.length g3) ∧ (w11.alloc (.cells #[.int .i64 zz.state, .slice t1 zz.slots.length i1, .slice t2 zz.rings.length i2, .slice t3 zz.spoilt.length i3, .slice t4 zz.wait.length i4] 30)).cell? ⟨w10.heap.size, 4, none⟩ = some (.slice y4 y.wait.length g4) := ⟨(KY.out.cell 0), (KY.out.cell 1), (KY.out.cell 2), (KY.out.cell 3), (KY.out.cell 4)⟩
      obtain ⟨q0, q1, q2, q3, q4⟩ : (w11.alloc (.cells #[.int .i64 zz.state, .slice t1 zz.slots.length i1, .slice t2 zz.rings.length i2, .slice t3 zz.spoilt.length i3, .slice t4 zz.wait.length i4] 30)).cell? ⟨w11.heap.size, 0, none⟩ = some (.int .i64 zz.state) ∧ (w11.alloc (.cells #[.int .i64 zz.state, .slice t1 zz.slots.length i1, .slice t2 zz.rings.length i2, .slice t3 zz.spoilt.length i3, .slice t4 zz.wait.length i4] 30)).cell? ⟨w11.heap.size, 1, none⟩ = some (.slice t1 zz.slots.length i1) ∧ (w11.alloc (.cells #[.int .i64 zz.state, .slice t1 zz.slots.length i1, .slice t2 zz.rings.length i2, .slice t3 zz.spoilt.length i3, .slice t4 zz.wait.length i4] 30)).cell? ⟨w11.heap.size, 2, none⟩ = some (.slice t2 zz.rings.length i2) ∧ (w11.alloc (.cells #[.int .i64 zz.state, .slice t1 zz.slots.length i1, .slice t2 zz.rings.length i2, .slice t3 zz.spoilt.length i3, .slice t4 zz.wait.length i4] 30)).cell? ⟨w11.heap.size, 3, none⟩ = some (.slice t3 zz.spoilt.length i3) ∧ (w11.alloc (.cells #[.int .i64 zz.state, .slice t1 zz.slots.length i1, .slice t2 zz.rings.length i2, .slice t3 zz.spoilt.length i3, .slice t4 zz.wait.length i4] 30)).cell? ⟨w11.heap.size, 4, none⟩ = some (.slice t4 zz.wait.length i4) := ⟨(KZ.out.cell 0), (KZ.out.cell 1), (KZ.out.cell 2), (KZ.out.cell 3), (KZ.out.cell 4)⟩
      go_upto_region 10 with (fail)
      generalize w11.alloc (.cells #[.int .i64 zz.state, .slice t1 zz.slots.length i1, .slice t2 zz.rings.length i2, .slice t3 zz.spoilt.length i3, .slice t4 zz.wait.length i4] 30) = W11 at hAl KO KY KZ VD OY OZ B p0 p1 p2 p3 p4 b0 b1 b2 b3 b4 q0 q1 q2 q3 q4 ⊢
      obtain ⟨hsl, hyr, hzr, hoth, hst⟩ := Hs.out
      have HT := Lib.hid (fun (W : World) (hB : Below W11.heap.size W11 W) => lpaTx_same y1 t1 g1 i1 y.slots W (by have := (OY.out.reads); obtain ⟨_, _, _, _, ee, ⟨_, _, e1, l1, m1, _⟩, _⟩ := this; omega) ((sl1 OY.out.reads).below hB) (by rw [hsl]; exact (sl1 OZ.out.reads).below hB))
      rw [hsl] at HT
      obtain ⟨_, _, _, _, ey, oy⟩ := OY.out
      cases ey
      obtain ⟨_, _, _, _, ez, oz⟩ := OZ.out
      cases ez
      obtain ⟨gy, cgy, cury, fy, _, _⟩ := own_form oy.2.1 (show y.rings.length ≠ 0 by omega)
      cases fy
      obtain ⟨gz, cgz, curz, fz, _, _⟩ := own_form oz.2.1 (show zz.rings.length ≠ 0 by omega)
      cases fz
      have ry0 := (own_cell oy.2.1 0 (show 0 < y.rings.length * 1 by omega)).1
      have ry1 := (own_cell oy.2.1 1 (show 1 < y.rings.length * 1 by omega)).1
      have rz0 := (own_cell oz.2.1 0 (show 0 < zz.rings.length * 1 by omega)).1
      have rz1 := (own_cell oz.2.1 1 (show 1 < zz.rings.length * 1 by omega)).1
      rw [txC_get _ _ (by omega)] at ry0 ry1 rz0 rz1
      rw [hyr] at b2
      rw [hzr] at q2
      rw [hsl] at b1
      have hoth' : y.rings.getD 1 ByteArray.empty = zz.rings.getD 1 ByteArray.empty := hoth
      rw [hoth'] at ry1
      generalize zz.rings.getD 1 ByteArray.empty = tt0 at ry1 rz1
      clear hoth hoth' oy oz
      rcases hst with ⟨hs, e1, e2⟩ | ⟨hs, e1⟩
      · rw [e2] at rz0
        clear e2
        rw [hs] at p0
        rw [e1] at ry0
        clear hs e1 hyr hzr hsl
        have g0 := cell_regrown p0
        have g1 := cell_regrown b1
        have g2 := cell_regrown b2
        have g3 := cell_regrown q1
        have g4 := cell_regrown q2
        have g5 := cell_regrown ry0
        have g6 := cell_regrown ry1
        have g7 := cell_regrown rz0
        have g8 := cell_regrown rz1
        refine wp_region_quiet_below (by kernel_rfl) (by kernel_rfl) ?_
        repeat (go_big_quiet_step (((go_at_call 37); with_reducible exact Calls.regrown_of (HT.out _ (below_regrown _ _ _)))))
        refine wpQuiet_nil ?_
        intro w12 hw12
        have hb12 : Below W11.heap.size W11 w12 := by obtain ⟨q, rfl⟩ := hw12; exact below_regrown _ _ _
        go_wp2
        go_ret
        exact ⟨rfl, below_trans B.out hb12 B.out.size⟩
      · rcases hs with hs | hs
        · skip
          rw [hs] at p0
          rw [e1] at ry0
          clear hs e1 hyr hzr hsl
          have g0 := cell_regrown p0
          have g1 := cell_regrown b1
          have g2 := cell_regrown b2
          have g3 := cell_regrown q1
          have g4 := cell_regrown q2
          have g5 := cell_regrown ry0
          have g6 := cell_regrown ry1
          have g7 := cell_regrown rz0
          have g8 := cell_regrown rz1
          refine wp_region_quiet_below (by kernel_rfl) (by kernel_rfl) ?_
          repeat (go_big_quiet_step (((go_at_call 37); with_reducible exact Calls.regrown_of (HT.out _ (below_regrown _ _ _)))))
          refine wpQuiet_nil ?_
          intro w12 hw12
          have hb12 : Below W11.heap.size W11 w12 := by obtain ⟨q, rfl⟩ := hw12; exact below_regrown _ _ _
          go_wp2
          go_ret
          exact ⟨rfl, below_trans B.out hb12 B.out.size⟩
        · skip
          rw [hs] at p0
          rw [e1] at ry0
          clear hs e1 hyr hzr hsl
          have g0 := cell_regrown p0
          have g1 := cell_regrown b1
          have g2 := cell_regrown b2
          have g3 := cell_regrown q1
          have g4 := cell_regrown q2
          have g5 := cell_regrown ry0
          have g6 := cell_regrown ry1
          have g7 := cell_regrown rz0
          have g8 := cell_regrown rz1
          refine wp_region_quiet_below (by kernel_rfl) (by kernel_rfl) ?_
          repeat (go_big_quiet_step (((go_at_call 37); with_reducible exact Calls.regrown_of (HT.out _ (below_regrown _ _ _)))))
          refine wpQuiet_nil ?_
          intro w12 hw12
          have hb12 : Below W11.heap.size W11 w12 := by obtain ⟨q, rfl⟩ := hw12; exact below_regrown _ _ _
          go_wp2
          go_ret
          exact ⟨rfl, below_trans B.out hb12 B.out.size⟩
    · have hm1 : ((len1 : Int)).tmod 2 = 1 := by rw [Int.tmod_eq_emod_of_nonneg (by omega)]; omega
      have hm2 : (len1 : Int) % 2 = 1 := by omega
      obtain ⟨mm, y, zz, HP, HF1, HF2, hsl, hyr, hzr, hoth, hst⟩ := rings d hfine 1 (by omega)
      have Hs := Lib.hid (And.intro hsl (And.intro hyr (And.intro hzr (And.intro hoth hst))))
      clear hfine hmod hsl hyr hzr hoth hst
      obtain ⟨p0, p1, p2, p3, p4⟩ : w8.cell? ⟨w1.heap.size, 0, none⟩ = some (.int .i64 d.state) ∧ w8.cell? ⟨w1.heap.size, 1, none⟩ = some (.slice o1 d.slots.length c1) ∧ w8.cell? ⟨w1.heap.size, 2, none⟩ = some (.slice o2 d.rings.length c2) ∧ w8.cell? ⟨w1.heap.size, 3, none⟩ = some (.slice o3 d.spoilt.length c3) ∧ w8.cell? ⟨w1.heap.size, 4, none⟩ = some (.slice o4 d.wait.length c4) := ⟨(KO.out.cell 0), (KO.out.cell 1), (KO.out.cell 2), (KO.out.cell 3), (KO.out.cell 4)⟩
      go_wp2_with fail
      refine (HP.out _ _ VD.out).mono ?_
      rintro e w9 ⟨v9, rfl, ow, hB9⟩
      clear p0 p1 p2 p3 p4
      have KO := Lib.hid (KO.out.below hB9 KO.out.lt)
      have VD := Lib.hid (VD.out.below hB9)
      have B := Lib.hid (below_trans B.out hB9 B.out.size)
      have VM := Lib.hid ow.reads
      have hx := ow.reads
      obtain ⟨_, _, _, _, rfl, ⟨m1, f1, rfl, _⟩, ⟨m2, f2, rfl, _⟩, ⟨m3, f3, rfl, _⟩, ⟨m4, f4, rfl, _⟩⟩ := hx
      clear ow hB9
      go_wp2_with fail
      refine (HF1.out _ _ VM.out).mono ?_
      rintro e w10 ⟨v10, rfl, ow, hB10⟩
      have KO := Lib.hid (KO.out.below hB10 KO.out.lt)
      have VD := Lib.hid (VD.out.below hB10)
      have VM := Lib.hid (VM.out.below hB10)
      have B := Lib.hid (below_trans B.out hB10 B.out.size)
      have OY := Lib.hid ow
      have hx := ow.reads
      obtain ⟨_, _, _, _, rfl, ⟨y1, g1, rfl, _⟩, ⟨y2, g2, rfl, _⟩, ⟨y3, g3, rfl, _⟩, ⟨y4, g4, rfl, _⟩⟩ := hx
      clear ow hB10 VM
      have hAl := Lib.hid (show Below w10.heap.size w10 (w10.alloc (.cells #[.int .i64 y.state, .slice y1 y.slots.length g1, .slice y2 y.rings.length g2, .slice y3 y.spoilt.length g3, .slice y4 y.wait.length g4] 30)) from (Below.refl _ _).alloc (Nat.le_refl _) _)
      have KY := Lib.hid (Blk.new w10 #[.int .i64 y.state, .slice y1 y.slots.length g1, .slice y2 y.rings.length g2, .slice y3 y.spoilt.length g3, .slice y4 y.wait.length g4] 30)
      have KO := Lib.hid (KO.out.below hAl.out KO.out.lt)
      have VD := Lib.hid (VD.out.below hAl.out)
      have OY := Lib.hid (OY.out.below hAl.out)
      have B := Lib.hid (below_trans B.out hAl.out B.out.size)
      obtain ⟨p0, p1, p2, p3, p4⟩ : (w10.alloc (.cells #[.int .i64 y.state, .slice y1 y.slots.length g1, .slice y2 y.rings.length g2, .slice y3 y.spoilt.length g3, .slice y4 y.wait.length g4] 30)).cell? ⟨w1.heap.size, 0, none⟩ = some (.int .i64 d.state) ∧ (w10.alloc (.cells #[.int .i64 y.state, .slice y1 y.slots.length g1, .slice y2 y.rings.length g2, .slice y3 y.spoilt.length g3, .slice y4 y.wait.length g4] 30)).cell? ⟨w1.heap.size, 1, none⟩ = some (.slice o1 d.slots.length c1) ∧ (w10.alloc (.cells #[.int .i64 y.state, .slice y1 y.slots.length g1, .slice y2 y.rings.length g2, .slice y3 y.spoilt.length g3, .slice y4 y.wait.length g4] 30)).cell? ⟨w1.heap.size, 2, none⟩ = some (.slice o2 d.rings.length c2) ∧ (w10.alloc (.cells #[.int .i64 y.state, .slice y1 y.slots.length g1, .slice y2 y.rings.length g2, .slice y3 y.spoilt.length g3, .slice y4 y.wait.length g4] 30)).cell? ⟨w1.heap.size, 3, none⟩ = some (.slice o3 d.spoilt.length c3) ∧ (w10.alloc (.cells #[.int .i64 y.state, .slice y1 y.slots.length g1, .slice y2 y.rings.length g2, .slice y3 y.spoilt.length g3, .slice y4 y.wait.length g4] 30)).cell? ⟨w1.heap.size, 4, none⟩ = some (.slice o4 d.wait.length c4) := ⟨(KO.out.cell 0), (KO.out.cell 1), (KO.out.cell 2), (KO.out.cell 3), (KO.out.cell 4)⟩
      go_wp2_with fail
      generalize w10.alloc (.cells #[.int .i64 y.state, .slice y1 y.slots.length g1, .slice y2 y.rings.length g2, .slice y3 y.spoilt.length g3, .slice y4 y.wait.length g4] 30) = W10 at hAl KO KY VD OY B p0 p1 p2 p3 p4 ⊢
      refine (HF2.out _ _ VD.out).mono ?_
      rintro e w11 ⟨v11, rfl, ow, hB11⟩
      clear p0 p1 p2 p3 p4
      have KO := Lib.hid (KO.out.below hB11 KO.out.lt)
      have KY := Lib.hid (KY.out.below hB11 KY.out.lt)
      have VD := Lib.hid (VD.out.below hB11)
      have OY := Lib.hid (OY.out.below hB11)
      have B := Lib.hid (below_trans B.out hB11 B.out.size)
      have OZ := Lib.hid ow
      have hx := ow.reads
      obtain ⟨_, _, _, _, rfl, ⟨t1, i1, rfl, _⟩, ⟨t2, i2, rfl, _⟩, ⟨t3, i3, rfl, _⟩, ⟨t4, i4, rfl, _⟩⟩ := hx
      clear ow hB11
      have hAl := Lib.hid (show Below w11.heap.size w11 (w11.alloc (.cells #[.int .i64 zz.state, .slice t1 zz.slots.length i1, .slice t2 zz.rings.length i2, .slice t3 zz.spoilt.length i3, .slice t4 zz.wait.length i4] 30)) from (Below.refl _ _).alloc (Nat.le_refl _) _)
      have KZ := Lib.hid (Blk.new w11 #[.int .i64 zz.state, .slice t1 zz.slots.length i1, .slice t2 zz.rings.length i2, .slice t3 zz.spoilt.length i3, .slice t4 zz.wait.length i4] 30)
      have KO := Lib.hid (KO.out.below hAl.out KO.out.lt)
      have KY := Lib.hid (KY.out.below hAl.out KY.out.lt)
      have VD := Lib.hid (VD.out.below hAl.out)
      have OY := Lib.hid (OY.out.below hAl.out)
      have OZ := Lib.hid (OZ.out.below hAl.out)
      have B := Lib.hid (below_trans B.out hAl.out B.out.size)
      obtain ⟨p0, p1, p2, p3, p4⟩ : (w11.alloc (.cells #[.int .i64 zz.state, .slice t1 zz.slots.length i1, .slice t2 zz.rings.length i2, .slice t3 zz.spoilt.length i3, .slice t4 zz.wait.length i4] 30)).cell? ⟨w1.heap.size, 0, none⟩ = some (.int .i64 d.state) ∧ (w11.alloc (.cells #[.int .i64 zz.state, .slice t1 zz.slots.length i1, .slice t2 zz.rings.length i2, .slice t3 zz.spoilt.length i3, .slice t4 zz.wait.length i4] 30)).cell? ⟨w1.heap.size, 1, none⟩ = some (.slice o1 d.slots.length c1) ∧ (w11.alloc (.cells #[.int .i64 zz.state, .slice t1 zz.slots.length i1, .slice t2 zz.rings.length i2, .slice t3 zz.spoilt.length i3, .slice t4 zz.wait.length i4] 30)).cell? ⟨w1.heap.size, 2, none⟩ = some (.slice o2 d.rings.length c2) ∧ (w11.alloc (.cells #[.int .i64 zz.state, .slice t1 zz.slots.length i1, .slice t2 zz.rings.length i2, .slice t3 zz.spoilt.length i3, .slice t4 zz.wait.length i4] 30)).cell? ⟨w1.heap.size, 3, none⟩ = some (.slice o3 d.spoilt.length c3) ∧ (w11.alloc (.cells #[.int .i64 zz.state, .slice t1 zz.slots.length i1, .slice t2 zz.rings.length i2, .slice t3 zz.spoilt.length i3, .slice t4 zz.wait.length i4] 30)).cell? ⟨w1.heap.size, 4, none⟩ = some (.slice o4 d.wait.length c4) := ⟨(KO.out.cell 0), (KO.out.cell 1), (KO.out.cell 2), (KO.out.cell 3), (KO.out.cell 4)⟩
      obtain ⟨b0, b1, b2, b3, b4⟩ : (w11.alloc (.cells #[.int .i64 zz.state, .slice t1 zz.slots.length i1, .slice t2 zz.rings.length i2, .slice t3 zz.spoilt.length i3, .slice t4 zz.wait.length i4] 30)).cell? ⟨w10.heap.size, 0, none⟩ = some (.int .i64 y.state) ∧ (w11.alloc (.cells #[.int .i64 zz.state, .slice t1 zz.slots.length i1, .slice t2 zz.rings.length i2, .slice t3 zz.spoilt.length i3, .slice t4 zz.wait.length i4] 30)).cell? ⟨w10.heap.size, 1, none⟩ = some (.slice y1 y.slots.length g1) ∧ (w11.alloc (.cells #[.int .i64 zz.state, .slice t1 zz.slots.length i1, .slice t2 zz.rings.length i2, .slice t3 zz.spoilt.length i3, .slice t4 zz.wait.length i4] 30)).cell? ⟨w10.heap.size, 2, none⟩ = some (.slice y2 y.rings.length g2) ∧ (w11.alloc (.cells #[.int .i64 zz.state, .slice t1 zz.slots.length i1, .slice t2 zz.rings.length i2, .slice t3 zz.spoilt.length i3, .slice t4 zz.wait.length i4] 30)).cell? ⟨w10.heap.size, 3, none⟩ = some (.slice y3 y.spoilt.length g3) ∧ (w11.alloc (.cells #[.int .i64 zz.state, .slice t1 zz.slots.length i1, .slice t2 zz.rings.length i2, .slice t3 zz.spoilt.length i3, .slice t4 zz.wait.length i4] 30)).cell? ⟨w10.heap.size, 4, none⟩ = some (.slice y4 y.wait.length g4) := ⟨(KY.out.cell 0), (KY.out.cell 1), (KY.out.cell 2), (KY.out.cell 3), (KY.out.cell 4)⟩
      obtain ⟨q0, q1, q2, q3, q4⟩ : (w11.alloc (.cells #[.int .i64 zz.state, .slice t1 zz.slots.length i1, .slice t2 zz.rings.length i2, .slice t3 zz.spoilt.length i3, .slice t4 zz.wait.length i4] 30)).cell? ⟨w11.heap.size, 0, none⟩ = some (.int .i64 zz.state) ∧ (w11.alloc (.cells #[.int .i64 zz.state, .slice t1 zz.slots.length i1, .slice t2 zz.rings.length i2, .slice t3 zz.spoilt.length i3, .slice t4 zz.wait.length i4] 30)).cell? ⟨w11.heap.size, 1, none⟩ = some (.slice t1 zz.slots.length i1) ∧ (w11.alloc (.cells #[.int .i64 zz.state, .slice t1 zz.slots.length i1, .slice t2 zz.rings.length i2, .slice t3 zz.spoilt.length i3, .slice t4 zz.wait.length i4] 30)).cell? ⟨w11.heap.size, 2, none⟩ = some (.slice t2 zz.rings.length i2) ∧ (w11.alloc (.cells #[.int .i64 zz.state, .slice t1 zz.slots.length i1, .slice t2 zz.rings.length i2, .slice t3 zz.spoilt.length i3, .slice t4 zz.wait.length i4] 30)).cell? ⟨w11.heap.size, 3, none⟩ = some (.slice t3 zz.spoilt.length i3) ∧ (w11.alloc (.cells #[.int .i64 zz.state, .slice t1 zz.slots.length i1, .slice t2 zz.rings.length i2, .slice t3 zz.spoilt.length i3, .slice t4 zz.wait.length i4] 30)).cell? ⟨w11.heap.size, 4, none⟩ = some (.slice t4 zz.wait.length i4) := ⟨(KZ.out.cell 0), (KZ.out.cell 1), (KZ.out.cell 2), (KZ.out.cell 3), (KZ.out.cell 4)⟩
      go_upto_region 10 with (fail)
      generalize w11.alloc (.cells #[.int .i64 zz.state, .slice t1 zz.slots.length i1, .slice t2 zz.rings.length i2, .slice t3 zz.spoilt.length i3, .slice t4 zz.wait.length i4] 30) = W11 at hAl KO KY KZ VD OY OZ B p0 p1 p2 p3 p4 b0 b1 b2 b3 b4 q0 q1 q2 q3 q4 ⊢
      obtain ⟨hsl, hyr, hzr, hoth, hst⟩ := Hs.out
      have HT := Lib.hid (fun (W : World) (hB : Below W11.heap.size W11 W) => lpaTx_same y1 t1 g1 i1 y.slots W (by have := (OY.out.reads); obtain ⟨_, _, _, _, ee, ⟨_, _, e1, l1, m1, _⟩, _⟩ := this; omega) ((sl1 OY.out.reads).below hB) (by rw [hsl]; exact (sl1 OZ.out.reads).below hB))
      rw [hsl] at HT
      obtain ⟨_, _, _, _, ey, oy⟩ := OY.out
      cases ey
      obtain ⟨_, _, _, _, ez, oz⟩ := OZ.out
      cases ez
      obtain ⟨gy, cgy, cury, fy, _, _⟩ := own_form oy.2.1 (show y.rings.length ≠ 0 by omega)
      cases fy
      obtain ⟨gz, cgz, curz, fz, _, _⟩ := own_form oz.2.1 (show zz.rings.length ≠ 0 by omega)
      cases fz
      have ry0 := (own_cell oy.2.1 0 (show 0 < y.rings.length * 1 by omega)).1
      have ry1 := (own_cell oy.2.1 1 (show 1 < y.rings.length * 1 by omega)).1
      have rz0 := (own_cell oz.2.1 0 (show 0 < zz.rings.length * 1 by omega)).1
      have rz1 := (own_cell oz.2.1 1 (show 1 < zz.rings.length * 1 by omega)).1
      rw [txC_get _ _ (by omega)] at ry0 ry1 rz0 rz1
      rw [hyr] at b2
      rw [hzr] at q2
      rw [hsl] at b1
      have hoth' : y.rings.getD 0 ByteArray.empty = zz.rings.getD 0 ByteArray.empty := hoth
      rw [hoth'] at ry0
      generalize zz.rings.getD 0 ByteArray.empty = tt0 at ry0 rz0
      clear hoth hoth' oy oz
      rcases hst with ⟨hs, e1, e2⟩ | ⟨hs, e1⟩
      · rw [e2] at rz1
        clear e2
        rw [hs] at p0
        rw [e1] at ry1
        clear hs e1 hyr hzr hsl
        have g0 := cell_regrown p0
        have g1 := cell_regrown b1
        have g2 := cell_regrown b2
        have g3 := cell_regrown q1
        have g4 := cell_regrown q2
        have g5 := cell_regrown ry0
        have g6 := cell_regrown ry1
        have g7 := cell_regrown rz0
        have g8 := cell_regrown rz1
        refine wp_region_quiet_below (by kernel_rfl) (by kernel_rfl) ?_
        repeat (go_big_quiet_step (((go_at_call 37); with_reducible exact Calls.regrown_of (HT.out _ (below_regrown _ _ _)))))
        refine wpQuiet_nil ?_
        intro w12 hw12
        have hb12 : Below W11.heap.size W11 w12 := by obtain ⟨q, rfl⟩ := hw12; exact below_regrown _ _ _
        go_wp2
        go_ret
        exact ⟨rfl, below_trans B.out hb12 B.out.size⟩
      · rcases hs with hs | hs
        · skip
          rw [hs] at p0
          rw [e1] at ry1
          clear hs e1 hyr hzr hsl
          have g0 := cell_regrown p0
          have g1 := cell_regrown b1
          have g2 := cell_regrown b2
          have g3 := cell_regrown q1
          have g4 := cell_regrown q2
          have g5 := cell_regrown ry0
          have g6 := cell_regrown ry1
          have g7 := cell_regrown rz0
          have g8 := cell_regrown rz1
          refine wp_region_quiet_below (by kernel_rfl) (by kernel_rfl) ?_
          repeat (go_big_quiet_step (((go_at_call 37); with_reducible exact Calls.regrown_of (HT.out _ (below_regrown _ _ _)))))
          refine wpQuiet_nil ?_
          intro w12 hw12
          have hb12 : Below W11.heap.size W11 w12 := by obtain ⟨q, rfl⟩ := hw12; exact below_regrown _ _ _
          go_wp2
          go_ret
          exact ⟨rfl, below_trans B.out hb12 B.out.size⟩
        · skip
          rw [hs] at p0
          rw [e1] at ry1
          clear hs e1 hyr hzr hsl
          have g0 := cell_regrown p0
          have g1 := cell_regrown b1
          have g2 := cell_regrown b2
          have g3 := cell_regrown q1
          have g4 := cell_regrown q2
          have g5 := cell_regrown ry0
          have g6 := cell_regrown ry1
          have g7 := cell_regrown rz0
          have g8 := cell_regrown rz1
          refine wp_region_quiet_below (by kernel_rfl) (by kernel_rfl) ?_
          repeat (go_big_quiet_step (((go_at_call 37); with_reducible exact Calls.regrown_of (HT.out _ (below_regrown _ _ _)))))
          refine wpQuiet_nil ?_
          intro w12 hw12
          have hb12 : Below W11.heap.size W11 w12 := by obtain ⟨q, rfl⟩ := hw12; exact below_regrown _ _ _
          go_wp2
          go_ret
          exact ⟨rfl, below_trans B.out hb12 B.out.size⟩

set_option maxRecDepth 100000 in
set_option maxHeartbeats 1000000 in
theorem walk (a0 : Option Addr) (len0 cap0 : Nat) (z0 : List Int) (a1 : Option Addr) (len1 cap1 : Nat) (z1 : List Int) (w : World) (w0 : IsBytes w a0 len0 cap0 z0) (w1 : IsBytes w a1 len1 cap1 z1) :
    Calls Try.prog 10 #[.slice a0 len0 cap0, .slice a1 len1 cap1] w fun e w' => e = .returned (.bool true) ∧ Below w.heap.size w w' := by
  have hm : len0 ≤ maxLen := by have := w0.opened; omega
  have hm1 : len1 ≤ maxLen := by have := w1.opened; omega
  by_cases h0 : len0 ≤ 1048576
  · by_cases h1 : len1 ≤ 1048576
    · exact main a0 len0 cap0 z0 a1 len1 cap1 w h0 h1 w0
    · have d0 : decide (1048576 < (len0 : Int)) = false := by simp; omega
      have d1 : decide (1048576 < (len1 : Int)) = true := by simp; omega
      clear w0 w1
      go_enter Try.func10, Try.ntmps10
      go_wp2
      go_ret
      exact ⟨rfl, Below.refl _ _⟩
  · have d0 : decide (1048576 < (len0 : Int)) = true := by simp; omega
    clear w0 w1
    go_enter Try.func10, Try.ntmps10
    go_wp2
    go_ret
    exact ⟨rfl, Below.refl _ _⟩

set_option maxRecDepth 100000 in
theorem lifted (os : Os) (started : os.Started) (H : Type) (enc : TypeId × Value → H) :
    ReturnsInHanded {} Try.checked os 10 .any (Rows.fnDiskRingSpec.pre6 enc Try.prog Try.f10 Rows.fnDiskRingRow.domain false) (Rows.fnDiskRingSpec.post enc Try.prog Try.f10 false true false false) := by
  refine returnsInHanded_of_change (C := Try.checked) own started (by kernel_rfl) Try.func10
    (ChangeSpec.witness6 (enc := enc) (C := Try.checked) false ⟨#[], #[.slice none 0 0, .slice none 0 0], []⟩ 8 (by kernel_rfl) (by kernel_rfl) (by kernel_rfl) (by kernel_rfl)) ?_
  intro W base args ds gs before hval0 hW hcnd _
  have hval : ∀ (j : Nat) t v, Try.f10.params[j]? = some t → args[j]? = some v → Value.okWide Try.prog W .any base t v := hval0
  have hW' := hW
  obtain ⟨p, q, hA0, hV, rfl, hfz, hnd⟩ := hW
  have hA : DataW.TrodAll enc Try.prog W 0 (fun _ => true) true Try.f10.params.toList args.toList ds p := hA0
  rw [Try.params10] at hA hval
  obtain ⟨v0, vs0, d0, ds0, p0, q0, hargs, rfl, rfl, h0, r0⟩ := trodAll_cons hA
  obtain ⟨v1, vs1, d1, ds1, p1, q1, rfl, rfl, rfl, h1, r1⟩ := trodAll_cons r0
  obtain ⟨rfl, rfl, rfl⟩ := trodAll_nil r1
  obtain rfl : args = #[v0, v1] := by cases args; simp_all
  obtain ⟨rfl, rfl⟩ := trodVars_none hV
  have k0 := h0
  have lt0 : ∀ x ∈ p0, x.block < W.heap.size := by obtain ⟨m, hm⟩ := k0; exact DataW.trod_lt m _ _ _ hm
  obtain ⟨a0, len0, cap0, rfl⟩ := okWide_slice Try.underlying36 (hval 0 36 v0 rfl rfl)
  obtain ⟨z0, w0⟩ : ∃ zs, IsBytes W a0 len0 cap0 zs := by
    obtain ⟨fuel, hf⟩ := h0
    rcases open_ints Try.underlying36 Try.underlying5 (by kernel_rfl) hf with ⟨hcs, _⟩ | ⟨x, l, c, zs, hcs, _, hl, hm, hz, _, hcell, hwz⟩
    · simp [Value.cells] at hcs
      obtain ⟨rfl, rfl, rfl⟩ := hcs
      exact ⟨[], .inl ⟨rfl, rfl, rfl, rfl⟩⟩
    · simp [Value.cells] at hcs
      obtain ⟨rfl, rfl, rfl⟩ := hcs
      exact ⟨zs, .inr ⟨_, rfl, hl, hm, by simpa using hz, hcell, hwz⟩⟩
  have k1 := h1
  have lt1 : ∀ x ∈ p1, x.block < W.heap.size := by obtain ⟨m, hm⟩ := k1; exact DataW.trod_lt m _ _ _ hm
  obtain ⟨a1, len1, cap1, rfl⟩ := okWide_slice Try.underlying36 (hval 1 36 v1 rfl rfl)
  obtain ⟨z1, w1⟩ : ∃ zs, IsBytes W a1 len1 cap1 zs := by
    obtain ⟨fuel, hf⟩ := h1
    rcases open_ints Try.underlying36 Try.underlying5 (by kernel_rfl) hf with ⟨hcs, _⟩ | ⟨x, l, c, zs, hcs, _, hl, hm, hz, _, hcell, hwz⟩
    · simp [Value.cells] at hcs
      obtain ⟨rfl, rfl, rfl⟩ := hcs
      exact ⟨[], .inl ⟨rfl, rfl, rfl, rfl⟩⟩
    · simp [Value.cells] at hcs
      obtain ⟨rfl, rfl, rfl⟩ := hcs
      exact ⟨zs, .inr ⟨_, rfl, hl, hm, by simpa using hz, hcell, hwz⟩⟩
  clear hA0 hval0
  refine (walk a0 len0 cap0 z0 a1 len1 cap1 z1 W w0 w1).mono fun e W' ⟨he, bel⟩ => ?_
  subst he
  exact ⟨_, rfl, _, _, _, [], _, [], hW', trodAll_mk1 (shut_bool Try.underlying4 _), (trodAll_cons_mk (Below.trod laidOut (by kernel_rfl) (of_decide_eq_true (by kernel_rfl)) k0 bel lt0) (trodAll_cons_mk (Below.trod laidOut (by kernel_rfl) (of_decide_eq_true (by kernel_rfl)) k1 bel lt1) trodAll_mk0)), rfl, bel.frame _, fun h => by cases h⟩

theorem over : Rows.fnDiskRingRow.holds Try.pinned (OpenSpec.ofChange Rows.fnDiskRingSpec) :=
  OpenClaim.holds_of_wide 10 Try.f10 rfl rfl rfl rfl rfl rfl rfl ⟨rfl, rfl, rfl, rfl, rfl⟩ rfl rfl rfl rfl rfl (by kernel_rfl) Try.func10 (by kernel_rfl)
    (of_decide_eq_true (by kernel_rfl)) (by unfold Func.isWrapper; first | (rw [if_pos (by decide +kernel)]; kernel_rfl) | (rw [if_neg (by decide +kernel)]; exact ⟨rfl, rfl⟩))
    (fun os started H enc _ => lifted os started H enc)

end FnDiskRing

theorem FnDiskRing_holds : Rows.FnDiskRingSaid := FnDiskRing.over

end Go.Proofs.Ytbkagnlomlnhcaa

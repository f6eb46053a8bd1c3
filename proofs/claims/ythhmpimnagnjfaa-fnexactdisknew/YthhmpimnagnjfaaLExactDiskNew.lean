/- 'laws.FnExactDiskNew' returns true at every number: DiskNew of the program answers as DiskNew of the specification, field by field; its answer owns its memory, behind another call too. Conditions: none. -/
import Derived.Test.YthhmpimnagnjfaaK
import Derived.Test.YthhmpimnagnjfaaG9
import Derived.Test.YthhmpimnagnjfaaH1
namespace Go.Proofs.Ythhmpimnagnjfaa
open Go.ChangeShapes Go.WideShapes Go.ChangeAt Go.RowKit Go.Sort
namespace FnExactDiskNew
set_option linter.unusedVariables false

theorem mkN_new (st : Int) : mkN (diskNew st) ≤ 1000 := by
  by_cases h : StateOk st
  · rw [diskNew_yes h]; simp [mkN, twelve, two2, twelveB]
  · rw [diskNew_no h]; simp [mkN, disk0]

set_option maxRecDepth 100000 in
set_option maxHeartbeats 2000000 in
theorem walk (st : Int) (w : World) (hw : (Lit.int .i64 st).wf = true) :
    Calls Try.prog 11 #[.int .i64 st] w fun e w' => e = .returned (.bool true) ∧ Below w.heap.size w w' := by
  clear hw
  have HS := Lib.hid (fun W => specNew_any st W)
  have HI := Lib.hid (fun W => implNew_any st W)
  have hN := mkN_new st
  generalize diskNew st = d at HS HI hN
  have HM := Lib.hid (fun base v W h1 ho => markDisk_any base 1 v d W h1 (by omega) (by omega) ho)
  have HH := Lib.hid (fun v W hv => heldDisk_any 1 v d W (by omega) (by omega) hv)
  have d1 : decide (((1 + mkN d : Nat) : Int) < 0) = false := decide_eq_false (by omega)
  have d2 : (((1 + mkN d : Nat) : Int) != ((1 + mkN d : Nat) : Int)) = false := by simp
  generalize 1 + mkN d = m at HM HH d1 d2
  clear hN
  go_enter Try.func11, Try.ntmps11
  go_wp2_with fail
  refine (HS.out _).mono ?_
  rintro e w1 ⟨v1, rfl, o1, B1⟩
  have V1 := Lib.hid o1.reads
  have hx := o1.reads
  obtain ⟨_, _, _, _, rfl, ⟨a1, c1, rfl, _⟩, ⟨a2, c2, rfl, _⟩, ⟨a3, c3, rfl, _⟩, ⟨a4, c4, rfl, _⟩⟩ := hx
  have HB1 := Lib.hid B1
  have K1 := Lib.hid (Blk.new w1 #[.int .i64 d.state, .slice a1 d.slots.length c1, .slice a2 d.rings.length c2, .slice a3 d.spoilt.length c3, .slice a4 d.wait.length c4] 28)
  have C1 := Lib.hid (show Below w1.heap.size w1 (w1.alloc (.cells #[.int .i64 d.state, .slice a1 d.slots.length c1, .slice a2 d.rings.length c2, .slice a3 d.spoilt.length c3, .slice a4 d.wait.length c4] 28)) from (Below.refl _ _).alloc (Nat.le_refl _) _)
  clear o1 B1
  go_wp2_with fail
  generalize hW : w1.alloc (.cells #[.int .i64 d.state, .slice a1 d.slots.length c1, .slice a2 d.rings.length c2, .slice a3 d.spoilt.length c3, .slice a4 d.wait.length c4] 28) = W1 at K1 C1 ⊢
  clear hW
  refine (HI.out _).mono ?_
  rintro e w2 ⟨v2, rfl, o2, B2⟩
  have hx := o2.reads
  obtain ⟨_, _, _, _, rfl, ⟨b1, e1, rfl, _⟩, ⟨b2, e2, rfl, _⟩, ⟨b3, e3, rfl, _⟩, ⟨b4, e4, rfl, _⟩⟩ := hx
  have D2 := Lib.hid (show Below w2.heap.size w2 (w2.alloc (.cells #[.int .i64 d.state, .slice b1 d.slots.length e1, .slice b2 d.rings.length e2, .slice b3 d.spoilt.length e3, .slice b4 d.wait.length e4] 28)) from (Below.refl _ _).alloc (Nat.le_refl _) _)
  have B2' := below_trans B2 D2.out B2.size
  have KB := Lib.hid (Blk.new w2 #[.int .i64 d.state, .slice b1 d.slots.length e1, .slice b2 d.rings.length e2, .slice b3 d.spoilt.length e3, .slice b4 d.wait.length e4] 28)
  have KA := Lib.hid (K1.out.below B2' K1.out.lt)
  have OB := Lib.hid (o2.below D2.out)
  have E2 := Lib.hid B2'
  have C2 := Lib.hid (below_trans C1.out B2' C1.out.size)
  clear o2 B2 B2' D2
  obtain ⟨p0, p1, p2, p3, p4⟩ : (w2.alloc (.cells #[.int .i64 d.state, .slice b1 d.slots.length e1, .slice b2 d.rings.length e2, .slice b3 d.spoilt.length e3, .slice b4 d.wait.length e4] 28)).cell? ⟨w1.heap.size, 0, none⟩ = some (.int .i64 d.state) ∧ (w2.alloc (.cells #[.int .i64 d.state, .slice b1 d.slots.length e1, .slice b2 d.rings.length e2, .slice b3 d.spoilt.length e3, .slice b4 d.wait.length e4] 28)).cell? ⟨w1.heap.size, 1, none⟩ = some (.slice a1 d.slots.length c1) ∧ (w2.alloc (.cells #[.int .i64 d.state, .slice b1 d.slots.length e1, .slice b2 d.rings.length e2, .slice b3 d.spoilt.length e3, .slice b4 d.wait.length e4] 28)).cell? ⟨w1.heap.size, 2, none⟩ = some (.slice a2 d.rings.length c2) ∧ (w2.alloc (.cells #[.int .i64 d.state, .slice b1 d.slots.length e1, .slice b2 d.rings.length e2, .slice b3 d.spoilt.length e3, .slice b4 d.wait.length e4] 28)).cell? ⟨w1.heap.size, 3, none⟩ = some (.slice a3 d.spoilt.length c3) ∧ (w2.alloc (.cells #[.int .i64 d.state, .slice b1 d.slots.length e1, .slice b2 d.rings.length e2, .slice b3 d.spoilt.length e3, .slice b4 d.wait.length e4] 28)).cell? ⟨w1.heap.size, 4, none⟩ = some (.slice a4 d.wait.length c4) := ⟨(KA.out.cell 0), (KA.out.cell 1), (KA.out.cell 2), (KA.out.cell 3), (KA.out.cell 4)⟩
  obtain ⟨q0, q1, q2, q3, q4⟩ : (w2.alloc (.cells #[.int .i64 d.state, .slice b1 d.slots.length e1, .slice b2 d.rings.length e2, .slice b3 d.spoilt.length e3, .slice b4 d.wait.length e4] 28)).cell? ⟨w2.heap.size, 0, none⟩ = some (.int .i64 d.state) ∧ (w2.alloc (.cells #[.int .i64 d.state, .slice b1 d.slots.length e1, .slice b2 d.rings.length e2, .slice b3 d.spoilt.length e3, .slice b4 d.wait.length e4] 28)).cell? ⟨w2.heap.size, 1, none⟩ = some (.slice b1 d.slots.length e1) ∧ (w2.alloc (.cells #[.int .i64 d.state, .slice b1 d.slots.length e1, .slice b2 d.rings.length e2, .slice b3 d.spoilt.length e3, .slice b4 d.wait.length e4] 28)).cell? ⟨w2.heap.size, 2, none⟩ = some (.slice b2 d.rings.length e2) ∧ (w2.alloc (.cells #[.int .i64 d.state, .slice b1 d.slots.length e1, .slice b2 d.rings.length e2, .slice b3 d.spoilt.length e3, .slice b4 d.wait.length e4] 28)).cell? ⟨w2.heap.size, 3, none⟩ = some (.slice b3 d.spoilt.length e3) ∧ (w2.alloc (.cells #[.int .i64 d.state, .slice b1 d.slots.length e1, .slice b2 d.rings.length e2, .slice b3 d.spoilt.length e3, .slice b4 d.wait.length e4] 28)).cell? ⟨w2.heap.size, 4, none⟩ = some (.slice b4 d.wait.length e4) := ⟨(KB.out.cell 0), (KB.out.cell 1), (KB.out.cell 2), (KB.out.cell 3), (KB.out.cell 4)⟩
  go_wp2_with fail
  generalize hW : w2.alloc (.cells #[.int .i64 d.state, .slice b1 d.slots.length e1, .slice b2 d.rings.length e2, .slice b3 d.spoilt.length e3, .slice b4 d.wait.length e4] 28) = W2 at KA KB OB E2 C2 p0 p1 p2 p3 p4 q0 q1 q2 q3 q4 ⊢
  clear hW
  refine (eqDisk_same _ _ d _ OB.out.reads (V1.out.below C2.out)).mono ?_
  rintro e w3 ⟨rfl, B3⟩
  have KA := Lib.hid (KA.out.below B3 KA.out.lt)
  have KB := Lib.hid (KB.out.below B3 KB.out.lt)
  have OB := Lib.hid (OB.out.below B3)
  have E3 := Lib.hid (below_trans E2.out B3 E2.out.size)
  have C3 := Lib.hid (below_trans C2.out B3 C2.out.size)
  clear p0 p1 p2 p3 p4 q0 q1 q2 q3 q4
  obtain ⟨p0, p1, p2, p3, p4⟩ : w3.cell? ⟨w1.heap.size, 0, none⟩ = some (.int .i64 d.state) ∧ w3.cell? ⟨w1.heap.size, 1, none⟩ = some (.slice a1 d.slots.length c1) ∧ w3.cell? ⟨w1.heap.size, 2, none⟩ = some (.slice a2 d.rings.length c2) ∧ w3.cell? ⟨w1.heap.size, 3, none⟩ = some (.slice a3 d.spoilt.length c3) ∧ w3.cell? ⟨w1.heap.size, 4, none⟩ = some (.slice a4 d.wait.length c4) := ⟨(KA.out.cell 0), (KA.out.cell 1), (KA.out.cell 2), (KA.out.cell 3), (KA.out.cell 4)⟩
  obtain ⟨q0, q1, q2, q3, q4⟩ : w3.cell? ⟨w2.heap.size, 0, none⟩ = some (.int .i64 d.state) ∧ w3.cell? ⟨w2.heap.size, 1, none⟩ = some (.slice b1 d.slots.length e1) ∧ w3.cell? ⟨w2.heap.size, 2, none⟩ = some (.slice b2 d.rings.length e2) ∧ w3.cell? ⟨w2.heap.size, 3, none⟩ = some (.slice b3 d.spoilt.length e3) ∧ w3.cell? ⟨w2.heap.size, 4, none⟩ = some (.slice b4 d.wait.length e4) := ⟨(KB.out.cell 0), (KB.out.cell 1), (KB.out.cell 2), (KB.out.cell 3), (KB.out.cell 4)⟩
  clear B3
  go_wp2_with fail
  refine (HM.out W1.heap.size _ _ E3.out.size OB.out).mono ?_
  rintro e w4 ⟨rfl, B4, o4, ot4⟩
  have KA := Lib.hid (ot4 _ _ _ (by decide) (by decide) (by decide) KA.out)
  have KB := Lib.hid (ot4 _ _ _ (by decide) (by decide) (by decide) KB.out)
  have OB := Lib.hid o4
  have C4 := Lib.hid (C3.out.trans (B4.mono C1.out.size))
  clear p0 p1 p2 p3 p4 q0 q1 q2 q3 q4
  obtain ⟨p0, p1, p2, p3, p4⟩ : w4.cell? ⟨w1.heap.size, 0, none⟩ = some (.int .i64 d.state) ∧ w4.cell? ⟨w1.heap.size, 1, none⟩ = some (.slice a1 d.slots.length c1) ∧ w4.cell? ⟨w1.heap.size, 2, none⟩ = some (.slice a2 d.rings.length c2) ∧ w4.cell? ⟨w1.heap.size, 3, none⟩ = some (.slice a3 d.spoilt.length c3) ∧ w4.cell? ⟨w1.heap.size, 4, none⟩ = some (.slice a4 d.wait.length c4) := ⟨(KA.out.cell 0), (KA.out.cell 1), (KA.out.cell 2), (KA.out.cell 3), (KA.out.cell 4)⟩
  obtain ⟨q0, q1, q2, q3, q4⟩ : w4.cell? ⟨w2.heap.size, 0, none⟩ = some (.int .i64 d.state) ∧ w4.cell? ⟨w2.heap.size, 1, none⟩ = some (.slice b1 d.slots.length e1) ∧ w4.cell? ⟨w2.heap.size, 2, none⟩ = some (.slice b2 d.rings.length e2) ∧ w4.cell? ⟨w2.heap.size, 3, none⟩ = some (.slice b3 d.spoilt.length e3) ∧ w4.cell? ⟨w2.heap.size, 4, none⟩ = some (.slice b4 d.wait.length e4) := ⟨(KB.out.cell 0), (KB.out.cell 1), (KB.out.cell 2), (KB.out.cell 3), (KB.out.cell 4)⟩
  clear B4 o4 ot4
  go_wp2_with fail
  refine (HH.out _ _ OB.out.reads).mono ?_
  rintro e w5 ⟨rfl, B5⟩
  have KA := Lib.hid (KA.out.below B5 KA.out.lt)
  have KB := Lib.hid (KB.out.below B5 KB.out.lt)
  have OB := Lib.hid (OB.out.below B5)
  have C5 := Lib.hid (below_trans C4.out B5 C4.out.size)
  clear p0 p1 p2 p3 p4 q0 q1 q2 q3 q4
  clear B5
  go_wp2_with fail
  refine (HI.out _).mono ?_
  rintro e w6 ⟨v6, rfl, o6, B6⟩
  have hx := o6.reads
  obtain ⟨_, _, _, _, rfl, ⟨g1, f1, rfl, _⟩, ⟨g2, f2, rfl, _⟩, ⟨g3, f3, rfl, _⟩, ⟨g4, f4, rfl, _⟩⟩ := hx
  have D6 := Lib.hid (show Below w6.heap.size w6 (w6.alloc (.cells #[.int .i64 d.state, .slice g1 d.slots.length f1, .slice g2 d.rings.length f2, .slice g3 d.spoilt.length f3, .slice g4 d.wait.length f4] 28)) from (Below.refl _ _).alloc (Nat.le_refl _) _)
  have B6' := below_trans B6 D6.out B6.size
  have KH := Lib.hid (Blk.new w6 #[.int .i64 d.state, .slice g1 d.slots.length f1, .slice g2 d.rings.length f2, .slice g3 d.spoilt.length f3, .slice g4 d.wait.length f4] 28)
  have KA := Lib.hid (KA.out.below B6' KA.out.lt)
  have KB := Lib.hid (KB.out.below B6' KB.out.lt)
  have OB := Lib.hid (OB.out.below B6')
  have VH := Lib.hid (o6.reads.below D6.out)
  have C6 := Lib.hid (below_trans C5.out B6' C5.out.size)
  clear o6 B6 B6' D6
  obtain ⟨p0, p1, p2, p3, p4⟩ : (w6.alloc (.cells #[.int .i64 d.state, .slice g1 d.slots.length f1, .slice g2 d.rings.length f2, .slice g3 d.spoilt.length f3, .slice g4 d.wait.length f4] 28)).cell? ⟨w1.heap.size, 0, none⟩ = some (.int .i64 d.state) ∧ (w6.alloc (.cells #[.int .i64 d.state, .slice g1 d.slots.length f1, .slice g2 d.rings.length f2, .slice g3 d.spoilt.length f3, .slice g4 d.wait.length f4] 28)).cell? ⟨w1.heap.size, 1, none⟩ = some (.slice a1 d.slots.length c1) ∧ (w6.alloc (.cells #[.int .i64 d.state, .slice g1 d.slots.length f1, .slice g2 d.rings.length f2, .slice g3 d.spoilt.length f3, .slice g4 d.wait.length f4] 28)).cell? ⟨w1.heap.size, 2, none⟩ = some (.slice a2 d.rings.length c2) ∧ (w6.alloc (.cells #[.int .i64 d.state, .slice g1 d.slots.length f1, .slice g2 d.rings.length f2, .slice g3 d.spoilt.length f3, .slice g4 d.wait.length f4] 28)).cell? ⟨w1.heap.size, 3, none⟩ = some (.slice a3 d.spoilt.length c3) ∧ (w6.alloc (.cells #[.int .i64 d.state, .slice g1 d.slots.length f1, .slice g2 d.rings.length f2, .slice g3 d.spoilt.length f3, .slice g4 d.wait.length f4] 28)).cell? ⟨w1.heap.size, 4, none⟩ = some (.slice a4 d.wait.length c4) := ⟨(KA.out.cell 0), (KA.out.cell 1), (KA.out.cell 2), (KA.out.cell 3), (KA.out.cell 4)⟩
  obtain ⟨q0, q1, q2, q3, q4⟩ : (w6.alloc (.cells #[.int .i64 d.state, .slice g1 d.slots.length f1, .slice g2 d.rings.length f2, .slice g3 d.spoilt.length f3, .slice g4 d.wait.length f4] 28)).cell? ⟨w2.heap.size, 0, none⟩ = some (.int .i64 d.state) ∧ (w6.alloc (.cells #[.int .i64 d.state, .slice g1 d.slots.length f1, .slice g2 d.rings.length f2, .slice g3 d.spoilt.length f3, .slice g4 d.wait.length f4] 28)).cell? ⟨w2.heap.size, 1, none⟩ = some (.slice b1 d.slots.length e1) ∧ (w6.alloc (.cells #[.int .i64 d.state, .slice g1 d.slots.length f1, .slice g2 d.rings.length f2, .slice g3 d.spoilt.length f3, .slice g4 d.wait.length f4] 28)).cell? ⟨w2.heap.size, 2, none⟩ = some (.slice b2 d.rings.length e2) ∧ (w6.alloc (.cells #[.int .i64 d.state, .slice g1 d.slots.length f1, .slice g2 d.rings.length f2, .slice g3 d.spoilt.length f3, .slice g4 d.wait.length f4] 28)).cell? ⟨w2.heap.size, 3, none⟩ = some (.slice b3 d.spoilt.length e3) ∧ (w6.alloc (.cells #[.int .i64 d.state, .slice g1 d.slots.length f1, .slice g2 d.rings.length f2, .slice g3 d.spoilt.length f3, .slice g4 d.wait.length f4] 28)).cell? ⟨w2.heap.size, 4, none⟩ = some (.slice b4 d.wait.length e4) := ⟨(KB.out.cell 0), (KB.out.cell 1), (KB.out.cell 2), (KB.out.cell 3), (KB.out.cell 4)⟩
  obtain ⟨r0, r1, r2, r3, r4⟩ : (w6.alloc (.cells #[.int .i64 d.state, .slice g1 d.slots.length f1, .slice g2 d.rings.length f2, .slice g3 d.spoilt.length f3, .slice g4 d.wait.length f4] 28)).cell? ⟨w6.heap.size, 0, none⟩ = some (.int .i64 d.state) ∧ (w6.alloc (.cells #[.int .i64 d.state, .slice g1 d.slots.length f1, .slice g2 d.rings.length f2, .slice g3 d.spoilt.length f3, .slice g4 d.wait.length f4] 28)).cell? ⟨w6.heap.size, 1, none⟩ = some (.slice g1 d.slots.length f1) ∧ (w6.alloc (.cells #[.int .i64 d.state, .slice g1 d.slots.length f1, .slice g2 d.rings.length f2, .slice g3 d.spoilt.length f3, .slice g4 d.wait.length f4] 28)).cell? ⟨w6.heap.size, 2, none⟩ = some (.slice g2 d.rings.length f2) ∧ (w6.alloc (.cells #[.int .i64 d.state, .slice g1 d.slots.length f1, .slice g2 d.rings.length f2, .slice g3 d.spoilt.length f3, .slice g4 d.wait.length f4] 28)).cell? ⟨w6.heap.size, 3, none⟩ = some (.slice g3 d.spoilt.length f3) ∧ (w6.alloc (.cells #[.int .i64 d.state, .slice g1 d.slots.length f1, .slice g2 d.rings.length f2, .slice g3 d.spoilt.length f3, .slice g4 d.wait.length f4] 28)).cell? ⟨w6.heap.size, 4, none⟩ = some (.slice g4 d.wait.length f4) := ⟨(KH.out.cell 0), (KH.out.cell 1), (KH.out.cell 2), (KH.out.cell 3), (KH.out.cell 4)⟩
  go_wp2_with fail
  generalize hW : w6.alloc (.cells #[.int .i64 d.state, .slice g1 d.slots.length f1, .slice g2 d.rings.length f2, .slice g3 d.spoilt.length f3, .slice g4 d.wait.length f4] 28) = W6 at KA KB KH OB VH C6 p0 p1 p2 p3 p4 q0 q1 q2 q3 q4 r0 r1 r2 r3 r4 ⊢
  clear hW
  refine (eqDisk_same _ _ d _ VH.out (V1.out.below C6.out)).mono ?_
  rintro e w7 ⟨rfl, B7⟩
  have KB := Lib.hid (KB.out.below B7 KB.out.lt)
  have OB := Lib.hid (OB.out.below B7)
  have C7 := Lib.hid (below_trans C6.out B7 C6.out.size)
  clear p0 p1 p2 p3 p4 q0 q1 q2 q3 q4 r0 r1 r2 r3 r4
  obtain ⟨q0, q1, q2, q3, q4⟩ : w7.cell? ⟨w2.heap.size, 0, none⟩ = some (.int .i64 d.state) ∧ w7.cell? ⟨w2.heap.size, 1, none⟩ = some (.slice b1 d.slots.length e1) ∧ w7.cell? ⟨w2.heap.size, 2, none⟩ = some (.slice b2 d.rings.length e2) ∧ w7.cell? ⟨w2.heap.size, 3, none⟩ = some (.slice b3 d.spoilt.length e3) ∧ w7.cell? ⟨w2.heap.size, 4, none⟩ = some (.slice b4 d.wait.length e4) := ⟨(KB.out.cell 0), (KB.out.cell 1), (KB.out.cell 2), (KB.out.cell 3), (KB.out.cell 4)⟩
  clear B7
  go_wp2_with fail
  refine (HH.out _ _ OB.out.reads).mono ?_
  rintro e w8 ⟨rfl, B8⟩
  have C8 := Lib.hid (below_trans C7.out B8 C7.out.size)
  clear B8
  go_wp2
  go_ret
  exact ⟨rfl, HB1.out.trans (C8.out.mono HB1.out.size)⟩

set_option maxRecDepth 100000 in
theorem lifted (os : Os) (started : os.Started) (H : Type) (enc : TypeId × Value → H) :
    ReturnsInHanded {} Try.checked os 11 .any (Rows.fnExactDiskNewSpec.pre6 enc Try.prog Try.f11 Rows.fnExactDiskNewRow.domain false) (Rows.fnExactDiskNewSpec.post enc Try.prog Try.f11 false true false false) := by
  refine returnsInHanded_of_change (C := Try.checked) own started (by kernel_rfl) Try.func11
    (ChangeSpec.witness6 (enc := enc) (C := Try.checked) false ⟨#[], #[.int .i64 0], []⟩ 8 (by kernel_rfl) (by kernel_rfl) (by kernel_rfl) (by kernel_rfl)) ?_
  intro W base args ds gs before hval0 hW hcnd _
  have hval : ∀ (j : Nat) t v, Try.f11.params[j]? = some t → args[j]? = some v → Value.okWide Try.prog W .any base t v := hval0
  have hW' := hW
  obtain ⟨p, q, hA0, hV, rfl, hfz, hnd⟩ := hW
  have hA : DataW.TrodAll enc Try.prog W 0 (fun _ => true) true Try.f11.params.toList args.toList ds p := hA0
  rw [Try.params11] at hA hval
  obtain ⟨v0, vs0, d0, ds0, p0, q0, hargs, rfl, rfl, h0, r0⟩ := trodAll_cons hA
  obtain ⟨rfl, rfl, rfl⟩ := trodAll_nil r0
  obtain rfl : args = #[v0] := by cases args; simp_all
  obtain ⟨rfl, rfl⟩ := trodVars_none hV
  have k0 := h0
  have lt0 : ∀ x ∈ p0, x.block < W.heap.size := by obtain ⟨m, hm⟩ := k0; exact DataW.trod_lt m _ _ _ hm
  obtain ⟨a0, rfl, rfl, e0, w0⟩ := open_int Try.underlying3 (hval 0 3 v0 rfl rfl) h0
  clear hA0 hval0
  refine (walk a0 W w0).mono fun e W' ⟨he, bel⟩ => ?_
  subst he
  exact ⟨_, rfl, _, _, _, [], _, [], hW', trodAll_mk1 (shut_bool Try.underlying4 _), (trodAll_cons_mk (Below.trod laidOut (by kernel_rfl) (of_decide_eq_true (by kernel_rfl)) k0 bel lt0) trodAll_mk0), rfl, bel.frame _, fun h => by cases h⟩

theorem over : Rows.fnExactDiskNewRow.holds Try.pinned (OpenSpec.ofChange Rows.fnExactDiskNewSpec) :=
  OpenClaim.holds_of_wide 11 Try.f11 rfl rfl rfl rfl rfl rfl rfl ⟨rfl, rfl, rfl, rfl, rfl⟩ rfl rfl rfl rfl rfl (by kernel_rfl) Try.func11 (by kernel_rfl)
    (of_decide_eq_true (by kernel_rfl)) (by unfold Func.isWrapper; first | (rw [if_pos (by decide +kernel)]; kernel_rfl) | (rw [if_neg (by decide +kernel)]; exact ⟨rfl, rfl⟩))
    (fun os started H enc _ => lifted os started H enc)

end FnExactDiskNew

theorem FnExactDiskNew_holds : Rows.FnExactDiskNewSaid := FnExactDiskNew.over

end Go.Proofs.Ythhmpimnagnjfaa

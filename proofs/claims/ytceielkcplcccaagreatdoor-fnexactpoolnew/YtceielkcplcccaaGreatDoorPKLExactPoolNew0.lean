/- 'laws.FnExactPoolNew' returns true at every number: PoolNew of the program answers as PoolNew of the specification; its answer owns its memory, behind another call too. Conditions: the tables of the standard library are as they are laid. -/
import Derived.Test.YtceielkcplcccaaGreatDoorPKK
import Derived.Test.YtceielkcplcccaaGreatDoorPKPN2
import Derived.Test.YtceielkcplcccaaGreatDoorPKPN4
namespace Go.Proofs.YtceielkcplcccaaGreatDoor
open Go.ChangeShapes Go.WideShapes Go.ChangeAt Go.RowKit Go.Sort
namespace FnExactPoolNew
set_option linter.unusedVariables false

theorem own_at {w : World} {base : Nat} {a : Option Addr} {n c : Nat} {ds : List DiskD} (h : OwnDks w base (.slice a n c) ds) : DksAt w a ds := by
  obtain ⟨a', c', he, _, _, hx⟩ := h.reads
  injection he with he _ _
  rw [he]; exact hx
theorem both_new (n : Int) : ∃ (R : List DiskD) (o : Bool), R.length ≤ 4 ∧ (∀ j, j < R.length → mkN (R.getD j disk0) ≤ 1000) ∧
    Hid (∀ W, Calls Tryz.prog 4 #[.int .i64 n] W fun e w' => ∃ a c r1 r2, e = .returned (.tuple #[.agg #[.slice a R.length c, .bool o, .int .i64 0, .slice r1 0 0, .int .i64 0, .slice r2 0 0], .bool o]) ∧ DksAt w' a R ∧ Below W.heap.size W w') ∧
    Hid (∀ W, Hid (Tab W) → Calls Tryz.prog 5 #[.int .i64 n] W fun e w' => ∃ a c, e = .returned (.tuple #[.agg #[.slice a R.length c, .bool o, .int .i64 0, .slice none 0 0, .int .i64 0, .slice none 0 0], .bool o]) ∧ OwnDks w' W.heap.size (.slice a R.length c) R ∧ Below W.heap.size W w') := by
  by_cases h : Pool n
  · obtain ⟨m, rfl⟩ := Int.eq_ofNat_of_zero_le (show 0 ≤ n by unfold Pool at h; omega)
    have hm : 3 ≤ m ∧ m ≤ 4 := by unfold Pool at h; omega
    refine ⟨List.replicate m (ringD (rootT (m : Int) ⟨0, []⟩)), true, by simp; omega, ringD_few _ _, ?_, ?_⟩
    · intro W
      refine (specPoolNew_yes m hm W).mono ?_
      rintro e w' ⟨a, c, r1, r2, rfl, ho, hB⟩
      rw [List.length_replicate]
      exact ⟨a, c, r1, r2, rfl, own_at ho, hB⟩
    · intro W hT
      refine (implPoolNew_yes m hm W hT).mono ?_
      rintro e w' ⟨a, c, rfl, ho, hB⟩
      rw [List.length_replicate]
      exact ⟨a, c, rfl, ho, hB⟩
  · refine ⟨[], false, by simp, fun j hj => by simp at hj, ?_, ?_⟩
    · intro W
      refine (specPoolNew_no n h W).mono ?_
      rintro e w' ⟨rfl, hB⟩
      exact ⟨none, 0, none, none, rfl, .inl rfl, hB⟩
    · intro W hT
      refine (implPoolNew_no n h W).mono ?_
      rintro e w' ⟨rfl, hB⟩
      exact ⟨none, 0, rfl, OwnDks.nil _ _, hB⟩

set_option maxRecDepth 100000 in
set_option maxHeartbeats 4000000 in
theorem main (n : Int) (w : World) (HT : Hid (Tab w)) :
    Calls Tryz.prog 3 #[.int .i64 n] w fun e w' => e = .returned (.bool true) ∧ Below w.heap.size w w' := by
  obtain ⟨R, o, hl4, hf, HS, HI⟩ := both_new n
  have hlm : R.length ≤ maxLen := by unfold maxLen; omega
  have HF := Lib.hid hf
  have HM := Lib.hid (fun base a c W h1 ho => markPool_any base c 1 a o R W h1 (by omega) HF (by omega) ho)
  have HH := Lib.hid (fun a c W hv => heldPool_any c 1 a o R W (by omega) HF (by omega) hv)
  have dm : decide (((dkAt 1 R R.length : Nat) : Int) < 0) = false := decide_eq_false (by omega)
  have dq : (((dkAt 1 R R.length : Nat) : Int) != ((dkAt 1 R R.length : Nat) : Int)) = false := by simp
  have eo : (o != o) = false := by simp
  generalize dkAt 1 R R.length = m at HM HH dm dq
  generalize mkDkTo 1 R R.length = Q at HM HH
  clear hf
  go_enter Tryz.func3, Tryz.ntmps3
  go_wp2_with fail
  refine (HS.out _).mono ?_
  rintro e w1 ⟨a1, c1, r1, r2, rfl, x1, B1⟩
  have X1 := Lib.hid x1
  have HB1 := Lib.hid B1
  have K1 := Lib.hid (Blk.new w1 #[.slice a1 R.length c1, .bool o, .int .i64 0, .slice r1 0 0, .int .i64 0, .slice r2 0 0] 27)
  have C1 := Lib.hid (show Below w1.heap.size w1 (w1.alloc (.cells #[.slice a1 R.length c1, .bool o, .int .i64 0, .slice r1 0 0, .int .i64 0, .slice r2 0 0] 27)) from (Below.refl _ _).alloc (Nat.le_refl _) _)
  clear x1 B1
  go_wp2_with fail
  generalize hW : w1.alloc (.cells #[.slice a1 R.length c1, .bool o, .int .i64 0, .slice r1 0 0, .int .i64 0, .slice r2 0 0] 27) = W1 at K1 C1 ⊢
  clear hW
  refine (HI.out _ (HT.out.below (HB1.out.trans (C1.out.mono HB1.out.size)))).mono ?_
  rintro e w2 ⟨a2, c2, rfl, o2, B2⟩
  have D2 := Lib.hid (show Below w2.heap.size w2 (w2.alloc (.cells #[.slice a2 R.length c2, .bool o, .int .i64 0, .slice none 0 0, .int .i64 0, .slice none 0 0] 27)) from (Below.refl _ _).alloc (Nat.le_refl _) _)
  have B2' := B2.trans (D2.out.mono B2.size)
  have KB := Lib.hid (Blk.new w2 #[.slice a2 R.length c2, .bool o, .int .i64 0, .slice none 0 0, .int .i64 0, .slice none 0 0] 27)
  have KA := Lib.hid (K1.out.below B2' K1.out.lt)
  have OB := Lib.hid (OwnDk.below o2 D2.out)
  have E2 := Lib.hid B2'
  have hs1 : w1.heap.size ≤ W1.heap.size := C1.out.size
  have C2 := Lib.hid (C1.out.trans (B2'.mono hs1))
  clear o2 B2 B2' D2 K1
  have hw12 : W1.heap.size ≤ (w2.alloc (.cells #[.slice a2 R.length c2, .bool o, .int .i64 0, .slice none 0 0, .int .i64 0, .slice none 0 0] 27)).heap.size := E2.out.size
  have p0 : (w2.alloc (.cells #[.slice a2 R.length c2, .bool o, .int .i64 0, .slice none 0 0, .int .i64 0, .slice none 0 0] 27)).cell? ⟨w1.heap.size, 0, none⟩ = some (.slice a1 R.length c1) := KA.out.cell 0
  have p1 : (w2.alloc (.cells #[.slice a2 R.length c2, .bool o, .int .i64 0, .slice none 0 0, .int .i64 0, .slice none 0 0] 27)).cell? ⟨w1.heap.size, 1, none⟩ = some (.bool o) := KA.out.cell 1
  have p2 : (w2.alloc (.cells #[.slice a2 R.length c2, .bool o, .int .i64 0, .slice none 0 0, .int .i64 0, .slice none 0 0] 27)).cell? ⟨w1.heap.size, 2, none⟩ = some (.int .i64 0) := KA.out.cell 2
  have p3 : (w2.alloc (.cells #[.slice a2 R.length c2, .bool o, .int .i64 0, .slice none 0 0, .int .i64 0, .slice none 0 0] 27)).cell? ⟨w1.heap.size, 3, none⟩ = some (.slice r1 0 0) := KA.out.cell 3
  have p4 : (w2.alloc (.cells #[.slice a2 R.length c2, .bool o, .int .i64 0, .slice none 0 0, .int .i64 0, .slice none 0 0] 27)).cell? ⟨w1.heap.size, 4, none⟩ = some (.int .i64 0) := KA.out.cell 4
  have p5 : (w2.alloc (.cells #[.slice a2 R.length c2, .bool o, .int .i64 0, .slice none 0 0, .int .i64 0, .slice none 0 0] 27)).cell? ⟨w1.heap.size, 5, none⟩ = some (.slice r2 0 0) := KA.out.cell 5
  have q0 : (w2.alloc (.cells #[.slice a2 R.length c2, .bool o, .int .i64 0, .slice none 0 0, .int .i64 0, .slice none 0 0] 27)).cell? ⟨w2.heap.size, 0, none⟩ = some (.slice a2 R.length c2) := KB.out.cell 0
  have q1 : (w2.alloc (.cells #[.slice a2 R.length c2, .bool o, .int .i64 0, .slice none 0 0, .int .i64 0, .slice none 0 0] 27)).cell? ⟨w2.heap.size, 1, none⟩ = some (.bool o) := KB.out.cell 1
  have q2 : (w2.alloc (.cells #[.slice a2 R.length c2, .bool o, .int .i64 0, .slice none 0 0, .int .i64 0, .slice none 0 0] 27)).cell? ⟨w2.heap.size, 2, none⟩ = some (.int .i64 0) := KB.out.cell 2
  have q3 : (w2.alloc (.cells #[.slice a2 R.length c2, .bool o, .int .i64 0, .slice none 0 0, .int .i64 0, .slice none 0 0] 27)).cell? ⟨w2.heap.size, 3, none⟩ = some (.slice none 0 0) := KB.out.cell 3
  have q4 : (w2.alloc (.cells #[.slice a2 R.length c2, .bool o, .int .i64 0, .slice none 0 0, .int .i64 0, .slice none 0 0] 27)).cell? ⟨w2.heap.size, 4, none⟩ = some (.int .i64 0) := KB.out.cell 4
  have q5 : (w2.alloc (.cells #[.slice a2 R.length c2, .bool o, .int .i64 0, .slice none 0 0, .int .i64 0, .slice none 0 0] 27)).cell? ⟨w2.heap.size, 5, none⟩ = some (.slice none 0 0) := KB.out.cell 5
  go_wp2_with fail
  generalize hW : w2.alloc (.cells #[.slice a2 R.length c2, .bool o, .int .i64 0, .slice none 0 0, .int .i64 0, .slice none 0 0] 27) = W2 at KA KB OB E2 C2 hw12 ⊢
  clear hW
  clear p0 p1 p2 p3 p4 p5 q0 q1 q2 q3 q4 q5
  refine (eqPool_any a2 a1 none none r1 r2 c2 c1 o R _ hlm (own_at OB.out) (X1.out.below C2.out)).mono ?_
  rintro e w3 ⟨rfl, B3⟩
  have KA := Lib.hid (KA.out.below B3 KA.out.lt)
  have KB := Lib.hid (KB.out.below B3 KB.out.lt)
  have OB := Lib.hid (OwnDk.below OB.out B3)
  have E3 := Lib.hid (E2.out.trans (B3.mono E2.out.size))
  have C3 := Lib.hid (C2.out.trans (B3.mono C2.out.size))
  clear B3
  have p0 : w3.cell? ⟨w1.heap.size, 0, none⟩ = some (.slice a1 R.length c1) := KA.out.cell 0
  have p1 : w3.cell? ⟨w1.heap.size, 1, none⟩ = some (.bool o) := KA.out.cell 1
  have p2 : w3.cell? ⟨w1.heap.size, 2, none⟩ = some (.int .i64 0) := KA.out.cell 2
  have p3 : w3.cell? ⟨w1.heap.size, 3, none⟩ = some (.slice r1 0 0) := KA.out.cell 3
  have p4 : w3.cell? ⟨w1.heap.size, 4, none⟩ = some (.int .i64 0) := KA.out.cell 4
  have p5 : w3.cell? ⟨w1.heap.size, 5, none⟩ = some (.slice r2 0 0) := KA.out.cell 5
  have q0 : w3.cell? ⟨w2.heap.size, 0, none⟩ = some (.slice a2 R.length c2) := KB.out.cell 0
  have q1 : w3.cell? ⟨w2.heap.size, 1, none⟩ = some (.bool o) := KB.out.cell 1
  have q2 : w3.cell? ⟨w2.heap.size, 2, none⟩ = some (.int .i64 0) := KB.out.cell 2
  have q3 : w3.cell? ⟨w2.heap.size, 3, none⟩ = some (.slice none 0 0) := KB.out.cell 3
  have q4 : w3.cell? ⟨w2.heap.size, 4, none⟩ = some (.int .i64 0) := KB.out.cell 4
  have q5 : w3.cell? ⟨w2.heap.size, 5, none⟩ = some (.slice none 0 0) := KB.out.cell 5
  go_wp2_with fail
  refine (HM.out W1.heap.size a2 c2 _ E3.out.size OB.out).mono ?_
  rintro e w4 ⟨rfl, B4, o4, ot4⟩
  have KA := Lib.hid (ot4 _ _ _ (by decide) (by decide) (by decide) (by decide) KA.out)
  have KB := Lib.hid (ot4 _ _ _ (by decide) (by decide) (by decide) (by decide) KB.out)
  have XB := Lib.hid o4
  have C4 := Lib.hid (C3.out.trans (B4.mono hs1))
  clear p0 p1 p2 p3 p4 p5 q0 q1 q2 q3 q4 q5
  have p0 : w4.cell? ⟨w1.heap.size, 0, none⟩ = some (.slice a1 R.length c1) := KA.out.cell 0
  have p1 : w4.cell? ⟨w1.heap.size, 1, none⟩ = some (.bool o) := KA.out.cell 1
  have p2 : w4.cell? ⟨w1.heap.size, 2, none⟩ = some (.int .i64 0) := KA.out.cell 2
  have p3 : w4.cell? ⟨w1.heap.size, 3, none⟩ = some (.slice r1 0 0) := KA.out.cell 3
  have p4 : w4.cell? ⟨w1.heap.size, 4, none⟩ = some (.int .i64 0) := KA.out.cell 4
  have p5 : w4.cell? ⟨w1.heap.size, 5, none⟩ = some (.slice r2 0 0) := KA.out.cell 5
  have q0 : w4.cell? ⟨w2.heap.size, 0, none⟩ = some (.slice a2 R.length c2) := KB.out.cell 0
  have q1 : w4.cell? ⟨w2.heap.size, 1, none⟩ = some (.bool o) := KB.out.cell 1
  have q2 : w4.cell? ⟨w2.heap.size, 2, none⟩ = some (.int .i64 0) := KB.out.cell 2
  have q3 : w4.cell? ⟨w2.heap.size, 3, none⟩ = some (.slice none 0 0) := KB.out.cell 3
  have q4 : w4.cell? ⟨w2.heap.size, 4, none⟩ = some (.int .i64 0) := KB.out.cell 4
  have q5 : w4.cell? ⟨w2.heap.size, 5, none⟩ = some (.slice none 0 0) := KB.out.cell 5
  clear B4 o4 ot4 OB
  go_wp2_with fail
  refine (HH.out a2 c2 _ XB).mono ?_
  rintro e w5 ⟨rfl, B5⟩
  have KA := Lib.hid (KA.out.below B5 KA.out.lt)
  have KB := Lib.hid (KB.out.below B5 KB.out.lt)
  have XB := Lib.hid (XB.out.below B5)
  have C5 := Lib.hid (C4.out.trans (B5.mono C4.out.size))
  clear p0 p1 p2 p3 p4 p5 q0 q1 q2 q3 q4 q5
  clear B5
  go_wp2_with fail
  refine (HI.out _ (HT.out.below (HB1.out.trans (C5.out.mono HB1.out.size)))).mono ?_
  rintro e w6 ⟨a6, c6, rfl, o6, B6⟩
  have D6 := Lib.hid (show Below w6.heap.size w6 (w6.alloc (.cells #[.slice a6 R.length c6, .bool o, .int .i64 0, .slice none 0 0, .int .i64 0, .slice none 0 0] 27)) from (Below.refl _ _).alloc (Nat.le_refl _) _)
  have B6' := B6.trans (D6.out.mono B6.size)
  have KH := Lib.hid (Blk.new w6 #[.slice a6 R.length c6, .bool o, .int .i64 0, .slice none 0 0, .int .i64 0, .slice none 0 0] 27)
  have KA := Lib.hid (KA.out.below B6' KA.out.lt)
  have KB := Lib.hid (KB.out.below B6' KB.out.lt)
  have XB := Lib.hid (XB.out.below B6')
  have XH := Lib.hid ((own_at o6).below D6.out)
  have C6 := Lib.hid (C5.out.trans (B6'.mono C5.out.size))
  clear o6 B6 B6' D6
  have p0 : (w6.alloc (.cells #[.slice a6 R.length c6, .bool o, .int .i64 0, .slice none 0 0, .int .i64 0, .slice none 0 0] 27)).cell? ⟨w1.heap.size, 0, none⟩ = some (.slice a1 R.length c1) := KA.out.cell 0
  have p1 : (w6.alloc (.cells #[.slice a6 R.length c6, .bool o, .int .i64 0, .slice none 0 0, .int .i64 0, .slice none 0 0] 27)).cell? ⟨w1.heap.size, 1, none⟩ = some (.bool o) := KA.out.cell 1
  have p2 : (w6.alloc (.cells #[.slice a6 R.length c6, .bool o, .int .i64 0, .slice none 0 0, .int .i64 0, .slice none 0 0] 27)).cell? ⟨w1.heap.size, 2, none⟩ = some (.int .i64 0) := KA.out.cell 2
  have p3 : (w6.alloc (.cells #[.slice a6 R.length c6, .bool o, .int .i64 0, .slice none 0 0, .int .i64 0, .slice none 0 0] 27)).cell? ⟨w1.heap.size, 3, none⟩ = some (.slice r1 0 0) := KA.out.cell 3
  have p4 : (w6.alloc (.cells #[.slice a6 R.length c6, .bool o, .int .i64 0, .slice none 0 0, .int .i64 0, .slice none 0 0] 27)).cell? ⟨w1.heap.size, 4, none⟩ = some (.int .i64 0) := KA.out.cell 4
  have p5 : (w6.alloc (.cells #[.slice a6 R.length c6, .bool o, .int .i64 0, .slice none 0 0, .int .i64 0, .slice none 0 0] 27)).cell? ⟨w1.heap.size, 5, none⟩ = some (.slice r2 0 0) := KA.out.cell 5
  have q0 : (w6.alloc (.cells #[.slice a6 R.length c6, .bool o, .int .i64 0, .slice none 0 0, .int .i64 0, .slice none 0 0] 27)).cell? ⟨w2.heap.size, 0, none⟩ = some (.slice a2 R.length c2) := KB.out.cell 0
  have q1 : (w6.alloc (.cells #[.slice a6 R.length c6, .bool o, .int .i64 0, .slice none 0 0, .int .i64 0, .slice none 0 0] 27)).cell? ⟨w2.heap.size, 1, none⟩ = some (.bool o) := KB.out.cell 1
  have q2 : (w6.alloc (.cells #[.slice a6 R.length c6, .bool o, .int .i64 0, .slice none 0 0, .int .i64 0, .slice none 0 0] 27)).cell? ⟨w2.heap.size, 2, none⟩ = some (.int .i64 0) := KB.out.cell 2
  have q3 : (w6.alloc (.cells #[.slice a6 R.length c6, .bool o, .int .i64 0, .slice none 0 0, .int .i64 0, .slice none 0 0] 27)).cell? ⟨w2.heap.size, 3, none⟩ = some (.slice none 0 0) := KB.out.cell 3
  have q4 : (w6.alloc (.cells #[.slice a6 R.length c6, .bool o, .int .i64 0, .slice none 0 0, .int .i64 0, .slice none 0 0] 27)).cell? ⟨w2.heap.size, 4, none⟩ = some (.int .i64 0) := KB.out.cell 4
  have q5 : (w6.alloc (.cells #[.slice a6 R.length c6, .bool o, .int .i64 0, .slice none 0 0, .int .i64 0, .slice none 0 0] 27)).cell? ⟨w2.heap.size, 5, none⟩ = some (.slice none 0 0) := KB.out.cell 5
  have r0 : (w6.alloc (.cells #[.slice a6 R.length c6, .bool o, .int .i64 0, .slice none 0 0, .int .i64 0, .slice none 0 0] 27)).cell? ⟨w6.heap.size, 0, none⟩ = some (.slice a6 R.length c6) := KH.out.cell 0
  have r1 : (w6.alloc (.cells #[.slice a6 R.length c6, .bool o, .int .i64 0, .slice none 0 0, .int .i64 0, .slice none 0 0] 27)).cell? ⟨w6.heap.size, 1, none⟩ = some (.bool o) := KH.out.cell 1
  have r2 : (w6.alloc (.cells #[.slice a6 R.length c6, .bool o, .int .i64 0, .slice none 0 0, .int .i64 0, .slice none 0 0] 27)).cell? ⟨w6.heap.size, 2, none⟩ = some (.int .i64 0) := KH.out.cell 2
  have r3 : (w6.alloc (.cells #[.slice a6 R.length c6, .bool o, .int .i64 0, .slice none 0 0, .int .i64 0, .slice none 0 0] 27)).cell? ⟨w6.heap.size, 3, none⟩ = some (.slice none 0 0) := KH.out.cell 3
  have r4 : (w6.alloc (.cells #[.slice a6 R.length c6, .bool o, .int .i64 0, .slice none 0 0, .int .i64 0, .slice none 0 0] 27)).cell? ⟨w6.heap.size, 4, none⟩ = some (.int .i64 0) := KH.out.cell 4
  have r5 : (w6.alloc (.cells #[.slice a6 R.length c6, .bool o, .int .i64 0, .slice none 0 0, .int .i64 0, .slice none 0 0] 27)).cell? ⟨w6.heap.size, 5, none⟩ = some (.slice none 0 0) := KH.out.cell 5
  go_wp2_with fail
  generalize hW : w6.alloc (.cells #[.slice a6 R.length c6, .bool o, .int .i64 0, .slice none 0 0, .int .i64 0, .slice none 0 0] 27) = W6 at KA KB KH XB XH C6 ⊢
  clear hW
  clear p0 p1 p2 p3 p4 p5 q0 q1 q2 q3 q4 q5 r0 r1 r2 r3 r4 r5
  refine (eqPool_any a6 a1 none none r1 r2 c6 c1 o R _ hlm XH (X1.out.below C6.out)).mono ?_
  rintro e w7 ⟨rfl, B7⟩
  have KB := Lib.hid (KB.out.below B7 KB.out.lt)
  have XB := Lib.hid (XB.out.below B7)
  have C7 := Lib.hid (C6.out.trans (B7.mono C6.out.size))
  have q0 : w7.cell? ⟨w2.heap.size, 0, none⟩ = some (.slice a2 R.length c2) := KB.out.cell 0
  have q1 : w7.cell? ⟨w2.heap.size, 1, none⟩ = some (.bool o) := KB.out.cell 1
  have q2 : w7.cell? ⟨w2.heap.size, 2, none⟩ = some (.int .i64 0) := KB.out.cell 2
  have q3 : w7.cell? ⟨w2.heap.size, 3, none⟩ = some (.slice none 0 0) := KB.out.cell 3
  have q4 : w7.cell? ⟨w2.heap.size, 4, none⟩ = some (.int .i64 0) := KB.out.cell 4
  have q5 : w7.cell? ⟨w2.heap.size, 5, none⟩ = some (.slice none 0 0) := KB.out.cell 5
  clear B7
  go_wp2_with fail
  refine (HH.out a2 c2 _ XB).mono ?_
  rintro e w8 ⟨rfl, B8⟩
  have C8 := Lib.hid (C7.out.trans (B8.mono C7.out.size))
  clear B8
  go_wp2
  go_ret
  exact ⟨rfl, HB1.out.trans (C8.out.mono HB1.out.size)⟩

theorem walk (a0 : Int) (w : World) (w0 : (Lit.int .i64 a0).wf = true) (wT : Tab w) :
    Calls Tryz.prog 3 #[.int .i64 a0] w fun e w' => e = .returned (.bool true) ∧ Below w.heap.size w w' := main a0 w wT

end FnExactPoolNew
end Go.Proofs.YtceielkcplcccaaGreatDoor

/- 'laws.FnExactDiskSpoil' returns true at every argument: DiskSpoil of the program answers as DiskSpoil of the specification, field by field; it writes into no argument and keeps nothing of one; its answer owns its memory, behind another call too. Conditions: none. -/
import Derived.Test.YtbkagnlomlnhcaaK
import Derived.Test.YtbkagnlomlnhcaaG4
import Derived.Test.YtbkagnlomlnhcaaGX
import Derived.Test.YtbkagnlomlnhcaaHY
import Derived.Test.YtbkagnlomlnhcaaV8
namespace Go.Proofs.Ytbkagnlomlnhcaa
open Go.ChangeShapes Go.WideShapes Go.ChangeAt Go.RowKit Go.Sort
namespace FnExactDiskSpoil
set_option linter.unusedVariables false

theorem spoil_marks {d : DiskD} (h : DiskFine d) (k b : Nat) (c : Int) : 1 + mkN (spoilD d k b c) ≤ 1000 := by
  obtain ⟨h1, h2, h3⟩ := spoil_rows (fine_sizes h).1 k b c
  have h4 := h.2.1.2.2.2
  unfold mkN
  rw [(spoil_wait d k b c).1]
  omega
theorem small_marks {d : DiskD} (h : DiskSmall d) : 1 + mkN d ≤ 100000000 := by
  have h1 := h.1.1
  have h2 := h.2.1.1
  have h3 := h.2.2.1
  have h4 := h.2.2.2.1
  unfold mkN
  omega

set_option maxRecDepth 100000 in
set_option maxHeartbeats 4000000 in
theorem main (v : Value) (d r : DiskD) (z y c : Int) (w : World) (hv : DiskV w v d) (hb : DiskBd d) (hr : 1 + mkN r ≤ 1000)
    (HS : Hid (∀ (u : Value) (W : World), DiskV W u d → Calls Try.prog 16 #[u, .int .i64 z, .int .i64 y, .int .i64 c] W (NewDisk r W)))
    (HI : Hid (∀ (u : Value) (W : World), DiskV W u d → Calls Try.prog 18 #[u, .int .i64 z, .int .i64 y, .int .i64 c] W (NewDisk r W))) :
    Calls Try.prog 3 #[v, .int .i64 z, .int .i64 y, .int .i64 c] w fun e w' => e = .returned (.bool true) ∧ Below w.heap.size w w' := by
  have HV := Lib.hid hv
  have Hb := Lib.hid hb
  obtain ⟨_, _, _, _, rfl, ⟨o1, c1, rfl, _⟩, ⟨o2, c2, rfl, _⟩, ⟨o3, c3, rfl, _⟩, ⟨o4, c4, rfl, _⟩⟩ := hv
  have hAl := Lib.hid (show Below w.heap.size w (w.alloc (.cells #[.int .i64 d.state, .slice o1 d.slots.length c1, .slice o2 d.rings.length c2, .slice o3 d.spoilt.length c3, .slice o4 d.wait.length c4] 26)) from (Below.refl _ _).alloc (Nat.le_refl _) _)
  have KO := Lib.hid (Blk.new w #[.int .i64 d.state, .slice o1 d.slots.length c1, .slice o2 d.rings.length c2, .slice o3 d.spoilt.length c3, .slice o4 d.wait.length c4] 26)
  have HM := Lib.hid (fun base v W h1 ho => markDisk_any base 1 v r W h1 (by omega) (by omega) ho)
  have HH := Lib.hid (fun v W hv => heldDisk_any 1 v r W (by omega) (by omega) hv)
  have dm1 : decide (((1 + mkN r : Nat) : Int) < 0) = false := decide_eq_false (by omega)
  have dm2 : (((1 + mkN r : Nat) : Int) != ((1 + mkN r : Nat) : Int)) = false := by simp
  generalize 1 + mkN r = m at HM HH dm1 dm2
  clear hb hr
  go_enter Try.func3, Try.ntmps3
  go_wp2_with fail
  generalize w.alloc (.cells #[.int .i64 d.state, .slice o1 d.slots.length c1, .slice o2 d.rings.length c2, .slice o3 d.spoilt.length c3, .slice o4 d.wait.length c4] 26) = W0 at hAl KO ⊢
  refine (szDisk_any _ _ 1048576 _ (HV.out.below hAl.out) Hb.out (Nat.le_refl _)).mono ?_
  rintro e w1 ⟨he, hB1⟩
  have B := hAl
  have KO := Lib.hid (KO.out.below hB1 KO.out.lt)
  have B := Lib.hid (below_trans B.out hB1 B.out.size)
  clear hB1
  obtain ⟨p0, p1, p2, p3, p4⟩ : w1.cell? ⟨w.heap.size, 0, none⟩ = some (.int .i64 d.state) ∧ w1.cell? ⟨w.heap.size, 1, none⟩ = some (.slice o1 d.slots.length c1) ∧ w1.cell? ⟨w.heap.size, 2, none⟩ = some (.slice o2 d.rings.length c2) ∧ w1.cell? ⟨w.heap.size, 3, none⟩ = some (.slice o3 d.spoilt.length c3) ∧ w1.cell? ⟨w.heap.size, 4, none⟩ = some (.slice o4 d.wait.length c4) := ⟨(KO.out.cell 0), (KO.out.cell 1), (KO.out.cell 2), (KO.out.cell 3), (KO.out.cell 4)⟩
  rcases he with rfl | ⟨lf, rfl, hlf, hsm⟩
  · go_wp2
    go_ret
    exact ⟨rfl, B.out⟩
  · have d0 : decide ((lf : Int) < 0) = false := by simp
    have HSm := Lib.hid hsm
    have HMx := Lib.hid (fun base v W h1 ho => markDisk_keeps base 1 v d W h1 (by omega) (small_marks hsm) ho)
    have dx : decide (((1 + mkN d : Nat) : Int) < 0) = false := decide_eq_false (by omega)
    generalize 1 + mkN d = mx at HMx dx
    clear hlf hsm
    go_wp2_with fail
    refine (toDisk_any _ _ _ HSm (HV.out.below B.out)).mono ?_
    rintro e w2 ⟨v2, rfl, o2, hB2⟩
    have V2 := Lib.hid o2.reads
    have KO := Lib.hid (KO.out.below hB2 KO.out.lt)
    have B := Lib.hid (below_trans B.out hB2 B.out.size)
    clear o2 hB2
    clear p0 p1 p2 p3 p4
    go_wp2_with fail
    refine (HS.out _ _ V2.out).mono ?_
    rintro e w3 ⟨v3, rfl, o3, hB3⟩
    have V3 := Lib.hid o3.reads
    have hx := o3.reads
    obtain ⟨_, _, _, _, rfl, ⟨a1, m1, rfl, _⟩, ⟨a2, m2, rfl, _⟩, ⟨a3, m3, rfl, _⟩, ⟨a4, m4, rfl, _⟩⟩ := hx
    have KO := Lib.hid (KO.out.below hB3 KO.out.lt)
    have B := Lib.hid (below_trans B.out hB3 B.out.size)
    have hw3 := B.out.size
    clear o3 hB3
    have hAl := Lib.hid (show Below w3.heap.size w3 (w3.alloc (.cells #[.int .i64 r.state, .slice a1 r.slots.length m1, .slice a2 r.rings.length m2, .slice a3 r.spoilt.length m3, .slice a4 r.wait.length m4] 30)) from (Below.refl _ _).alloc (Nat.le_refl _) _)
    have KA := Lib.hid (Blk.new w3 #[.int .i64 r.state, .slice a1 r.slots.length m1, .slice a2 r.rings.length m2, .slice a3 r.spoilt.length m3, .slice a4 r.wait.length m4] 30)
    have KO := Lib.hid (KO.out.below hAl.out KO.out.lt)
    have B := Lib.hid (below_trans B.out hAl.out B.out.size)
    have C := hAl
    obtain ⟨p0, p1, p2, p3, p4⟩ : (w3.alloc (.cells #[.int .i64 r.state, .slice a1 r.slots.length m1, .slice a2 r.rings.length m2, .slice a3 r.spoilt.length m3, .slice a4 r.wait.length m4] 30)).cell? ⟨w.heap.size, 0, none⟩ = some (.int .i64 d.state) ∧ (w3.alloc (.cells #[.int .i64 r.state, .slice a1 r.slots.length m1, .slice a2 r.rings.length m2, .slice a3 r.spoilt.length m3, .slice a4 r.wait.length m4] 30)).cell? ⟨w.heap.size, 1, none⟩ = some (.slice o1 d.slots.length c1) ∧ (w3.alloc (.cells #[.int .i64 r.state, .slice a1 r.slots.length m1, .slice a2 r.rings.length m2, .slice a3 r.spoilt.length m3, .slice a4 r.wait.length m4] 30)).cell? ⟨w.heap.size, 2, none⟩ = some (.slice o2 d.rings.length c2) ∧ (w3.alloc (.cells #[.int .i64 r.state, .slice a1 r.slots.length m1, .slice a2 r.rings.length m2, .slice a3 r.spoilt.length m3, .slice a4 r.wait.length m4] 30)).cell? ⟨w.heap.size, 3, none⟩ = some (.slice o3 d.spoilt.length c3) ∧ (w3.alloc (.cells #[.int .i64 r.state, .slice a1 r.slots.length m1, .slice a2 r.rings.length m2, .slice a3 r.spoilt.length m3, .slice a4 r.wait.length m4] 30)).cell? ⟨w.heap.size, 4, none⟩ = some (.slice o4 d.wait.length c4) := ⟨(KO.out.cell 0), (KO.out.cell 1), (KO.out.cell 2), (KO.out.cell 3), (KO.out.cell 4)⟩
    go_wp2_with fail
    generalize w3.alloc (.cells #[.int .i64 r.state, .slice a1 r.slots.length m1, .slice a2 r.rings.length m2, .slice a3 r.spoilt.length m3, .slice a4 r.wait.length m4] 30) = WA at hAl KA KO B C p0 p1 p2 p3 p4 ⊢
    refine (toDisk_any _ _ _ HSm (HV.out.below B.out)).mono ?_
    rintro e w4 ⟨v4, rfl, o4, hB4⟩
    have hx := o4.reads
    obtain ⟨_, _, _, _, rfl, ⟨x1, e1, rfl, _⟩, ⟨x2, e2, rfl, _⟩, ⟨x3, e3, rfl, _⟩, ⟨x4, e4, rfl, _⟩⟩ := hx
    have HX := Lib.hid o4
    have hAlA : w3.heap.size ≤ WA.heap.size := hAl.out.size
    have hW3 : w.heap.size ≤ w3.heap.size := hw3
    have hWA4 := hB4.size
    have KO := Lib.hid (KO.out.below hB4 KO.out.lt)
    have KA := Lib.hid (KA.out.below hB4 KA.out.lt)
    have B := Lib.hid (below_trans B.out hB4 B.out.size)
    have C := Lib.hid (below_trans C.out hB4 C.out.size)
    clear o4 hB4
    clear p0 p1 p2 p3 p4
    have hAl := Lib.hid (show Below w4.heap.size w4 (w4.alloc (.cells #[.int .i64 d.state, .slice x1 d.slots.length e1, .slice x2 d.rings.length e2, .slice x3 d.spoilt.length e3, .slice x4 d.wait.length e4] 30)) from (Below.refl _ _).alloc (Nat.le_refl _) _)
    have KX := Lib.hid (Blk.new w4 #[.int .i64 d.state, .slice x1 d.slots.length e1, .slice x2 d.rings.length e2, .slice x3 d.spoilt.length e3, .slice x4 d.wait.length e4] 30)
    have KO := Lib.hid (KO.out.below hAl.out KO.out.lt)
    have KA := Lib.hid (KA.out.below hAl.out KA.out.lt)
    have B := Lib.hid (below_trans B.out hAl.out B.out.size)
    have C := Lib.hid (below_trans C.out hAl.out C.out.size)
    have HX := Lib.hid (HX.out.below hAl.out)
    obtain ⟨s0, s1, s2, s3, s4⟩ : (w4.alloc (.cells #[.int .i64 d.state, .slice x1 d.slots.length e1, .slice x2 d.rings.length e2, .slice x3 d.spoilt.length e3, .slice x4 d.wait.length e4] 30)).cell? ⟨w4.heap.size, 0, none⟩ = some (.int .i64 d.state) ∧ (w4.alloc (.cells #[.int .i64 d.state, .slice x1 d.slots.length e1, .slice x2 d.rings.length e2, .slice x3 d.spoilt.length e3, .slice x4 d.wait.length e4] 30)).cell? ⟨w4.heap.size, 1, none⟩ = some (.slice x1 d.slots.length e1) ∧ (w4.alloc (.cells #[.int .i64 d.state, .slice x1 d.slots.length e1, .slice x2 d.rings.length e2, .slice x3 d.spoilt.length e3, .slice x4 d.wait.length e4] 30)).cell? ⟨w4.heap.size, 2, none⟩ = some (.slice x2 d.rings.length e2) ∧ (w4.alloc (.cells #[.int .i64 d.state, .slice x1 d.slots.length e1, .slice x2 d.rings.length e2, .slice x3 d.spoilt.length e3, .slice x4 d.wait.length e4] 30)).cell? ⟨w4.heap.size, 3, none⟩ = some (.slice x3 d.spoilt.length e3) ∧ (w4.alloc (.cells #[.int .i64 d.state, .slice x1 d.slots.length e1, .slice x2 d.rings.length e2, .slice x3 d.spoilt.length e3, .slice x4 d.wait.length e4] 30)).cell? ⟨w4.heap.size, 4, none⟩ = some (.slice x4 d.wait.length e4) := ⟨(KX.out.cell 0), (KX.out.cell 1), (KX.out.cell 2), (KX.out.cell 3), (KX.out.cell 4)⟩
    go_wp2_with fail
    generalize hWX : w4.alloc (.cells #[.int .i64 d.state, .slice x1 d.slots.length e1, .slice x2 d.rings.length e2, .slice x3 d.spoilt.length e3, .slice x4 d.wait.length e4] 30) = WX at hAl KA KO KX B C HX s0 s1 s2 s3 s4 ⊢
    have hX4 : w4.heap.size ≤ WX.heap.size := hAl.out.size
    have HXlt := Lib.hid (show ∀ cs, (Value.agg #[.int .i64 d.state, .slice x1 d.slots.length e1, .slice x2 d.rings.length e2, .slice x3 d.spoilt.length e3, .slice x4 d.wait.length e4]) = .agg cs → ∀ u ∈ cs.toList, ∀ E, u.ownBlock = some E → WA.heap.size ≤ E ∧ E < WX.heap.size from HX.out.rows_lt)
    clear hWX
    refine (HI.out _ _ HX.out.reads).mono ?_
    rintro e w5 ⟨v5, rfl, o5, hB5⟩
    have hx := o5.reads
    obtain ⟨_, _, _, _, rfl, ⟨g1, f1, rfl, _⟩, ⟨g2, f2, rfl, _⟩, ⟨g3, f3, rfl, _⟩, ⟨g4, f4, rfl, _⟩⟩ := hx
    have HG := Lib.hid o5
    have hWX5 := hB5.size
    have KO := Lib.hid (KO.out.below hB5 KO.out.lt)
    have KA := Lib.hid (KA.out.below hB5 KA.out.lt)
    have KX := Lib.hid (KX.out.below hB5 KX.out.lt)
    have B := Lib.hid (below_trans B.out hB5 B.out.size)
    have C := Lib.hid (below_trans C.out hB5 C.out.size)
    have HX := Lib.hid (HX.out.below hB5)
    clear o5 hB5
    clear s0 s1 s2 s3 s4
    have hAl := Lib.hid (show Below w5.heap.size w5 (w5.alloc (.cells #[.int .i64 r.state, .slice g1 r.slots.length f1, .slice g2 r.rings.length f2, .slice g3 r.spoilt.length f3, .slice g4 r.wait.length f4] 30)) from (Below.refl _ _).alloc (Nat.le_refl _) _)
    have KG := Lib.hid (Blk.new w5 #[.int .i64 r.state, .slice g1 r.slots.length f1, .slice g2 r.rings.length f2, .slice g3 r.spoilt.length f3, .slice g4 r.wait.length f4] 30)
    have KO := Lib.hid (KO.out.below hAl.out KO.out.lt)
    have KA := Lib.hid (KA.out.below hAl.out KA.out.lt)
    have KX := Lib.hid (KX.out.below hAl.out KX.out.lt)
    have B := Lib.hid (below_trans B.out hAl.out B.out.size)
    have C := Lib.hid (below_trans C.out hAl.out C.out.size)
    have HX := Lib.hid (HX.out.below hAl.out)
    have HG := Lib.hid (HG.out.below hAl.out)
    obtain ⟨q0, q1, q2, q3, q4⟩ : (w5.alloc (.cells #[.int .i64 r.state, .slice g1 r.slots.length f1, .slice g2 r.rings.length f2, .slice g3 r.spoilt.length f3, .slice g4 r.wait.length f4] 30)).cell? ⟨w3.heap.size, 0, none⟩ = some (.int .i64 r.state) ∧ (w5.alloc (.cells #[.int .i64 r.state, .slice g1 r.slots.length f1, .slice g2 r.rings.length f2, .slice g3 r.spoilt.length f3, .slice g4 r.wait.length f4] 30)).cell? ⟨w3.heap.size, 1, none⟩ = some (.slice a1 r.slots.length m1) ∧ (w5.alloc (.cells #[.int .i64 r.state, .slice g1 r.slots.length f1, .slice g2 r.rings.length f2, .slice g3 r.spoilt.length f3, .slice g4 r.wait.length f4] 30)).cell? ⟨w3.heap.size, 2, none⟩ = some (.slice a2 r.rings.length m2) ∧ (w5.alloc (.cells #[.int .i64 r.state, .slice g1 r.slots.length f1, .slice g2 r.rings.length f2, .slice g3 r.spoilt.length f3, .slice g4 r.wait.length f4] 30)).cell? ⟨w3.heap.size, 3, none⟩ = some (.slice a3 r.spoilt.length m3) ∧ (w5.alloc (.cells #[.int .i64 r.state, .slice g1 r.slots.length f1, .slice g2 r.rings.length f2, .slice g3 r.spoilt.length f3, .slice g4 r.wait.length f4] 30)).cell? ⟨w3.heap.size, 4, none⟩ = some (.slice a4 r.wait.length m4) := ⟨(KA.out.cell 0), (KA.out.cell 1), (KA.out.cell 2), (KA.out.cell 3), (KA.out.cell 4)⟩
    obtain ⟨t0, t1, t2, t3, t4⟩ : (w5.alloc (.cells #[.int .i64 r.state, .slice g1 r.slots.length f1, .slice g2 r.rings.length f2, .slice g3 r.spoilt.length f3, .slice g4 r.wait.length f4] 30)).cell? ⟨w5.heap.size, 0, none⟩ = some (.int .i64 r.state) ∧ (w5.alloc (.cells #[.int .i64 r.state, .slice g1 r.slots.length f1, .slice g2 r.rings.length f2, .slice g3 r.spoilt.length f3, .slice g4 r.wait.length f4] 30)).cell? ⟨w5.heap.size, 1, none⟩ = some (.slice g1 r.slots.length f1) ∧ (w5.alloc (.cells #[.int .i64 r.state, .slice g1 r.slots.length f1, .slice g2 r.rings.length f2, .slice g3 r.spoilt.length f3, .slice g4 r.wait.length f4] 30)).cell? ⟨w5.heap.size, 2, none⟩ = some (.slice g2 r.rings.length f2) ∧ (w5.alloc (.cells #[.int .i64 r.state, .slice g1 r.slots.length f1, .slice g2 r.rings.length f2, .slice g3 r.spoilt.length f3, .slice g4 r.wait.length f4] 30)).cell? ⟨w5.heap.size, 3, none⟩ = some (.slice g3 r.spoilt.length f3) ∧ (w5.alloc (.cells #[.int .i64 r.state, .slice g1 r.slots.length f1, .slice g2 r.rings.length f2, .slice g3 r.spoilt.length f3, .slice g4 r.wait.length f4] 30)).cell? ⟨w5.heap.size, 4, none⟩ = some (.slice g4 r.wait.length f4) := ⟨(KG.out.cell 0), (KG.out.cell 1), (KG.out.cell 2), (KG.out.cell 3), (KG.out.cell 4)⟩
    have hG5 : WX.heap.size ≤ (w5.alloc (.cells #[.int .i64 r.state, .slice g1 r.slots.length f1, .slice g2 r.rings.length f2, .slice g3 r.spoilt.length f3, .slice g4 r.wait.length f4] 30)).heap.size := Nat.le_trans hWX5 hAl.out.size
    go_wp2_with fail
    generalize w5.alloc (.cells #[.int .i64 r.state, .slice g1 r.slots.length f1, .slice g2 r.rings.length f2, .slice g3 r.spoilt.length f3, .slice g4 r.wait.length f4] 30) = WG at hAl KA KO KX KG B C HX HG hG5 q0 q1 q2 q3 q4 t0 t1 t2 t3 t4 ⊢
    refine (eqDisk_same _ _ r _ HG.out.reads (V3.out.below C.out)).mono ?_
    rintro e w6 ⟨rfl, hB6⟩
    have hG6 := Nat.le_trans hG5 hB6.size
    have KO := Lib.hid (KO.out.below hB6 KO.out.lt)
    have KA := Lib.hid (KA.out.below hB6 KA.out.lt)
    have KX := Lib.hid (KX.out.below hB6 KX.out.lt)
    have KG := Lib.hid (KG.out.below hB6 KG.out.lt)
    have B := Lib.hid (below_trans B.out hB6 B.out.size)
    have C := Lib.hid (below_trans C.out hB6 C.out.size)
    have HX := Lib.hid (HX.out.below hB6)
    have HG := Lib.hid (HG.out.below hB6)
    clear hB6
    clear q0 q1 q2 q3 q4 t0 t1 t2 t3 t4
    obtain ⟨p0, p1, p2, p3, p4⟩ : w6.cell? ⟨w.heap.size, 0, none⟩ = some (.int .i64 d.state) ∧ w6.cell? ⟨w.heap.size, 1, none⟩ = some (.slice o1 d.slots.length c1) ∧ w6.cell? ⟨w.heap.size, 2, none⟩ = some (.slice o2 d.rings.length c2) ∧ w6.cell? ⟨w.heap.size, 3, none⟩ = some (.slice o3 d.spoilt.length c3) ∧ w6.cell? ⟨w.heap.size, 4, none⟩ = some (.slice o4 d.wait.length c4) := ⟨(KO.out.cell 0), (KO.out.cell 1), (KO.out.cell 2), (KO.out.cell 3), (KO.out.cell 4)⟩
    obtain ⟨s0, s1, s2, s3, s4⟩ : w6.cell? ⟨w4.heap.size, 0, none⟩ = some (.int .i64 d.state) ∧ w6.cell? ⟨w4.heap.size, 1, none⟩ = some (.slice x1 d.slots.length e1) ∧ w6.cell? ⟨w4.heap.size, 2, none⟩ = some (.slice x2 d.rings.length e2) ∧ w6.cell? ⟨w4.heap.size, 3, none⟩ = some (.slice x3 d.spoilt.length e3) ∧ w6.cell? ⟨w4.heap.size, 4, none⟩ = some (.slice x4 d.wait.length e4) := ⟨(KX.out.cell 0), (KX.out.cell 1), (KX.out.cell 2), (KX.out.cell 3), (KX.out.cell 4)⟩
    have cur : Hid (Below w6.heap.size w6 w6.drew) := (Below.refl _ _).drew
    go_wp2_with fail
    go_region_held3 (fun w' => (w'.cell? ⟨w.heap.size, 0, none⟩ = some (.int .i64 d.state) ∧ w'.cell? ⟨w.heap.size, 1, none⟩ = some (.slice o1 d.slots.length c1) ∧ w'.cell? ⟨w.heap.size, 2, none⟩ = some (.slice o2 d.rings.length c2) ∧ w'.cell? ⟨w.heap.size, 3, none⟩ = some (.slice o3 d.spoilt.length c3) ∧ w'.cell? ⟨w.heap.size, 4, none⟩ = some (.slice o4 d.wait.length c4)) ∧ (w'.cell? ⟨w4.heap.size, 0, none⟩ = some (.int .i64 d.state) ∧ w'.cell? ⟨w4.heap.size, 1, none⟩ = some (.slice x1 d.slots.length e1) ∧ w'.cell? ⟨w4.heap.size, 2, none⟩ = some (.slice x2 d.rings.length e2) ∧ w'.cell? ⟨w4.heap.size, 3, none⟩ = some (.slice x3 d.spoilt.length e3) ∧ w'.cell? ⟨w4.heap.size, 4, none⟩ = some (.slice x4 d.wait.length e4))) (first | with_reducible exact hc7 | with_reducible exact hc6 | go_keep)
      (first
        | (go_at_call 17; refine (toDisk_any _ _ _ HSm (HV.out.below (below_trans B.out cur.out B.out.size))).mono ?_; rintro e w7 ⟨v7, rfl, o7, hB7⟩; have V7 := Lib.hid o7.reads; have hx := o7.reads; obtain ⟨_, _, _, _, rfl, ⟨z1, j1, rfl, _⟩, ⟨z2, j2, rfl, _⟩, ⟨z3, j3, rfl, _⟩, ⟨z4, j4, rfl, _⟩⟩ := hx; have cur := Lib.hid (below_trans cur.out hB7 cur.out.size); have hc6 := (⟨⟨((KO.out.below cur.out KO.out.lt).cell 0), ((KO.out.below cur.out KO.out.lt).cell 1), ((KO.out.below cur.out KO.out.lt).cell 2), ((KO.out.below cur.out KO.out.lt).cell 3), ((KO.out.below cur.out KO.out.lt).cell 4)⟩, ⟨((KX.out.below cur.out KX.out.lt).cell 0), ((KX.out.below cur.out KX.out.lt).cell 1), ((KX.out.below cur.out KX.out.lt).cell 2), ((KX.out.below cur.out KX.out.lt).cell 3), ((KX.out.below cur.out KX.out.lt).cell 4)⟩⟩ : (w7.cell? ⟨w.heap.size, 0, none⟩ = some (.int .i64 d.state) ∧ w7.cell? ⟨w.heap.size, 1, none⟩ = some (.slice o1 d.slots.length c1) ∧ w7.cell? ⟨w.heap.size, 2, none⟩ = some (.slice o2 d.rings.length c2) ∧ w7.cell? ⟨w.heap.size, 3, none⟩ = some (.slice o3 d.spoilt.length c3) ∧ w7.cell? ⟨w.heap.size, 4, none⟩ = some (.slice o4 d.wait.length c4)) ∧ (w7.cell? ⟨w4.heap.size, 0, none⟩ = some (.int .i64 d.state) ∧ w7.cell? ⟨w4.heap.size, 1, none⟩ = some (.slice x1 d.slots.length e1) ∧ w7.cell? ⟨w4.heap.size, 2, none⟩ = some (.slice x2 d.rings.length e2) ∧ w7.cell? ⟨w4.heap.size, 3, none⟩ = some (.slice x3 d.spoilt.length e3) ∧ w7.cell? ⟨w4.heap.size, 4, none⟩ = some (.slice x4 d.wait.length e4))); clear o7 hB7)
        | (go_at_call 19; refine (eqDisk_same _ _ d _ (HX.out.reads.below cur.out) V7.out).mono ?_; rintro e w8 ⟨rfl, hB8⟩; have cur := Lib.hid (below_trans cur.out hB8 cur.out.size); have hc7 := (⟨⟨((KO.out.below cur.out KO.out.lt).cell 0), ((KO.out.below cur.out KO.out.lt).cell 1), ((KO.out.below cur.out KO.out.lt).cell 2), ((KO.out.below cur.out KO.out.lt).cell 3), ((KO.out.below cur.out KO.out.lt).cell 4)⟩, ⟨((KX.out.below cur.out KX.out.lt).cell 0), ((KX.out.below cur.out KX.out.lt).cell 1), ((KX.out.below cur.out KX.out.lt).cell 2), ((KX.out.below cur.out KX.out.lt).cell 3), ((KX.out.below cur.out KX.out.lt).cell 4)⟩⟩ : (w8.cell? ⟨w.heap.size, 0, none⟩ = some (.int .i64 d.state) ∧ w8.cell? ⟨w.heap.size, 1, none⟩ = some (.slice o1 d.slots.length c1) ∧ w8.cell? ⟨w.heap.size, 2, none⟩ = some (.slice o2 d.rings.length c2) ∧ w8.cell? ⟨w.heap.size, 3, none⟩ = some (.slice o3 d.spoilt.length c3) ∧ w8.cell? ⟨w.heap.size, 4, none⟩ = some (.slice o4 d.wait.length c4)) ∧ (w8.cell? ⟨w4.heap.size, 0, none⟩ = some (.int .i64 d.state) ∧ w8.cell? ⟨w4.heap.size, 1, none⟩ = some (.slice x1 d.slots.length e1) ∧ w8.cell? ⟨w4.heap.size, 2, none⟩ = some (.slice x2 d.rings.length e2) ∧ w8.cell? ⟨w4.heap.size, 3, none⟩ = some (.slice x3 d.spoilt.length e3) ∧ w8.cell? ⟨w4.heap.size, 4, none⟩ = some (.slice x4 d.wait.length e4))); clear hB8))
    clear p0 p1 p2 p3 p4 s0 s1 s2 s3 s4
    have hG8 := Nat.le_trans hG6 cur.out.size
    have KO := Lib.hid (KO.out.below cur.out KO.out.lt)
    have KA := Lib.hid (KA.out.below cur.out KA.out.lt)
    have KX := Lib.hid (KX.out.below cur.out KX.out.lt)
    have KG := Lib.hid (KG.out.below cur.out KG.out.lt)
    have B := Lib.hid (below_trans B.out cur.out B.out.size)
    have C := Lib.hid (below_trans C.out cur.out C.out.size)
    have HX := Lib.hid (HX.out.below cur.out)
    have HG := Lib.hid (HG.out.below cur.out)
    obtain ⟨s0, s1, s2, s3, s4⟩ : w8.cell? ⟨w4.heap.size, 0, none⟩ = some (.int .i64 d.state) ∧ w8.cell? ⟨w4.heap.size, 1, none⟩ = some (.slice x1 d.slots.length e1) ∧ w8.cell? ⟨w4.heap.size, 2, none⟩ = some (.slice x2 d.rings.length e2) ∧ w8.cell? ⟨w4.heap.size, 3, none⟩ = some (.slice x3 d.spoilt.length e3) ∧ w8.cell? ⟨w4.heap.size, 4, none⟩ = some (.slice x4 d.wait.length e4) := ⟨(KX.out.cell 0), (KX.out.cell 1), (KX.out.cell 2), (KX.out.cell 3), (KX.out.cell 4)⟩
    clear cur
    go_wp2_with fail
    refine (HMx.out WA.heap.size _ _ (Nat.le_trans hWA4 (Nat.le_trans hX4 hG8)) HX.out).mono ?_
    rintro e w9 ⟨rfl, hB9, _, ot9, kp9⟩
    have hG9 : WX.heap.size ≤ w9.heap.size := Nat.le_trans hG8 hB9.size
    have HG := Lib.hid (HG.out.heap (fun E h1 h2 => kp9 E h2 (fun cs e u hu hE => by have := (HXlt.out cs e u hu E hE).2; omega)))
    have KO := Lib.hid (ot9 _ _ _ (by decide) (by decide) (by decide) KO.out)
    have KA := Lib.hid (ot9 _ _ _ (by decide) (by decide) (by decide) KA.out)
    have KG := Lib.hid (ot9 _ _ _ (by decide) (by decide) (by decide) KG.out)
    have B := Lib.hid (B.out.trans (hB9.mono (by omega)))
    have C := Lib.hid (C.out.trans (hB9.mono hAlA))
    clear hB9 ot9 kp9
    clear s0 s1 s2 s3 s4
    obtain ⟨q0, q1, q2, q3, q4⟩ : w9.cell? ⟨w3.heap.size, 0, none⟩ = some (.int .i64 r.state) ∧ w9.cell? ⟨w3.heap.size, 1, none⟩ = some (.slice a1 r.slots.length m1) ∧ w9.cell? ⟨w3.heap.size, 2, none⟩ = some (.slice a2 r.rings.length m2) ∧ w9.cell? ⟨w3.heap.size, 3, none⟩ = some (.slice a3 r.spoilt.length m3) ∧ w9.cell? ⟨w3.heap.size, 4, none⟩ = some (.slice a4 r.wait.length m4) := ⟨(KA.out.cell 0), (KA.out.cell 1), (KA.out.cell 2), (KA.out.cell 3), (KA.out.cell 4)⟩
    obtain ⟨t0, t1, t2, t3, t4⟩ : w9.cell? ⟨w5.heap.size, 0, none⟩ = some (.int .i64 r.state) ∧ w9.cell? ⟨w5.heap.size, 1, none⟩ = some (.slice g1 r.slots.length f1) ∧ w9.cell? ⟨w5.heap.size, 2, none⟩ = some (.slice g2 r.rings.length f2) ∧ w9.cell? ⟨w5.heap.size, 3, none⟩ = some (.slice g3 r.spoilt.length f3) ∧ w9.cell? ⟨w5.heap.size, 4, none⟩ = some (.slice g4 r.wait.length f4) := ⟨(KG.out.cell 0), (KG.out.cell 1), (KG.out.cell 2), (KG.out.cell 3), (KG.out.cell 4)⟩
    go_wp2_with fail
    refine (eqDisk_same _ _ r _ HG.out.reads (V3.out.below C.out)).mono ?_
    rintro e w10 ⟨rfl, hB10⟩
    have hG10 := Nat.le_trans hG9 hB10.size
    have KO := Lib.hid (KO.out.below hB10 KO.out.lt)
    have KA := Lib.hid (KA.out.below hB10 KA.out.lt)
    have KG := Lib.hid (KG.out.below hB10 KG.out.lt)
    have B := Lib.hid (below_trans B.out hB10 B.out.size)
    have C := Lib.hid (below_trans C.out hB10 C.out.size)
    have HG := Lib.hid (HG.out.below hB10)
    clear hB10
    clear q0 q1 q2 q3 q4 t0 t1 t2 t3 t4
    obtain ⟨t0, t1, t2, t3, t4⟩ : w10.cell? ⟨w5.heap.size, 0, none⟩ = some (.int .i64 r.state) ∧ w10.cell? ⟨w5.heap.size, 1, none⟩ = some (.slice g1 r.slots.length f1) ∧ w10.cell? ⟨w5.heap.size, 2, none⟩ = some (.slice g2 r.rings.length f2) ∧ w10.cell? ⟨w5.heap.size, 3, none⟩ = some (.slice g3 r.spoilt.length f3) ∧ w10.cell? ⟨w5.heap.size, 4, none⟩ = some (.slice g4 r.wait.length f4) := ⟨(KG.out.cell 0), (KG.out.cell 1), (KG.out.cell 2), (KG.out.cell 3), (KG.out.cell 4)⟩
    go_wp2_with fail
    refine (HM.out WX.heap.size _ _ hG10 HG.out).mono ?_
    rintro e w11 ⟨rfl, hB11, o11, ot11⟩
    have KO := Lib.hid (ot11 _ _ _ (by decide) (by decide) (by decide) KO.out)
    have KA := Lib.hid (ot11 _ _ _ (by decide) (by decide) (by decide) KA.out)
    have KG := Lib.hid (ot11 _ _ _ (by decide) (by decide) (by decide) KG.out)
    have HG := Lib.hid o11
    have B := Lib.hid (B.out.trans (hB11.mono (by omega)))
    have C := Lib.hid (C.out.trans (hB11.mono (by omega)))
    clear hB11 o11 ot11
    clear t0 t1 t2 t3 t4
    obtain ⟨t0, t1, t2, t3, t4⟩ : w11.cell? ⟨w5.heap.size, 0, none⟩ = some (.int .i64 r.state) ∧ w11.cell? ⟨w5.heap.size, 1, none⟩ = some (.slice g1 r.slots.length f1) ∧ w11.cell? ⟨w5.heap.size, 2, none⟩ = some (.slice g2 r.rings.length f2) ∧ w11.cell? ⟨w5.heap.size, 3, none⟩ = some (.slice g3 r.spoilt.length f3) ∧ w11.cell? ⟨w5.heap.size, 4, none⟩ = some (.slice g4 r.wait.length f4) := ⟨(KG.out.cell 0), (KG.out.cell 1), (KG.out.cell 2), (KG.out.cell 3), (KG.out.cell 4)⟩
    go_wp2_with fail
    refine (HH.out _ _ HG.out.reads).mono ?_
    rintro e w12 ⟨rfl, hB12⟩
    have KO := Lib.hid (KO.out.below hB12 KO.out.lt)
    have KA := Lib.hid (KA.out.below hB12 KA.out.lt)
    have KG := Lib.hid (KG.out.below hB12 KG.out.lt)
    have B := Lib.hid (below_trans B.out hB12 B.out.size)
    have C := Lib.hid (below_trans C.out hB12 C.out.size)
    have HG := Lib.hid (HG.out.below hB12)
    clear hB12
    clear t0 t1 t2 t3 t4
    obtain ⟨p0, p1, p2, p3, p4⟩ : w12.cell? ⟨w.heap.size, 0, none⟩ = some (.int .i64 d.state) ∧ w12.cell? ⟨w.heap.size, 1, none⟩ = some (.slice o1 d.slots.length c1) ∧ w12.cell? ⟨w.heap.size, 2, none⟩ = some (.slice o2 d.rings.length c2) ∧ w12.cell? ⟨w.heap.size, 3, none⟩ = some (.slice o3 d.spoilt.length c3) ∧ w12.cell? ⟨w.heap.size, 4, none⟩ = some (.slice o4 d.wait.length c4) := ⟨(KO.out.cell 0), (KO.out.cell 1), (KO.out.cell 2), (KO.out.cell 3), (KO.out.cell 4)⟩
    go_wp2_with fail
    refine (toDisk_any _ _ _ HSm (HV.out.below B.out)).mono ?_
    rintro e w13 ⟨v13, rfl, o13, hB13⟩
    have V13 := Lib.hid o13.reads
    have KO := Lib.hid (KO.out.below hB13 KO.out.lt)
    have KA := Lib.hid (KA.out.below hB13 KA.out.lt)
    have KG := Lib.hid (KG.out.below hB13 KG.out.lt)
    have B := Lib.hid (below_trans B.out hB13 B.out.size)
    have C := Lib.hid (below_trans C.out hB13 C.out.size)
    have HG := Lib.hid (HG.out.below hB13)
    clear o13 hB13
    clear p0 p1 p2 p3 p4
    go_wp2_with fail
    refine (HI.out _ _ V13.out).mono ?_
    rintro e w14 ⟨v14, rfl, o14, hB14⟩
    have V14 := Lib.hid o14.reads
    have hx := o14.reads
    obtain ⟨_, _, _, _, rfl, ⟨h1, i1, rfl, _⟩, ⟨h2, i2, rfl, _⟩, ⟨h3, i3, rfl, _⟩, ⟨h4, i4, rfl, _⟩⟩ := hx
    have KO := Lib.hid (KO.out.below hB14 KO.out.lt)
    have KA := Lib.hid (KA.out.below hB14 KA.out.lt)
    have KG := Lib.hid (KG.out.below hB14 KG.out.lt)
    have B := Lib.hid (below_trans B.out hB14 B.out.size)
    have C := Lib.hid (below_trans C.out hB14 C.out.size)
    have HG := Lib.hid (HG.out.below hB14)
    clear o14 hB14
    have hAl := Lib.hid (show Below w14.heap.size w14 (w14.alloc (.cells #[.int .i64 r.state, .slice h1 r.slots.length i1, .slice h2 r.rings.length i2, .slice h3 r.spoilt.length i3, .slice h4 r.wait.length i4] 30)) from (Below.refl _ _).alloc (Nat.le_refl _) _)
    have KH := Lib.hid (Blk.new w14 #[.int .i64 r.state, .slice h1 r.slots.length i1, .slice h2 r.rings.length i2, .slice h3 r.spoilt.length i3, .slice h4 r.wait.length i4] 30)
    have KO := Lib.hid (KO.out.below hAl.out KO.out.lt)
    have KA := Lib.hid (KA.out.below hAl.out KA.out.lt)
    have KG := Lib.hid (KG.out.below hAl.out KG.out.lt)
    have B := Lib.hid (below_trans B.out hAl.out B.out.size)
    have C := Lib.hid (below_trans C.out hAl.out C.out.size)
    have HG := Lib.hid (HG.out.below hAl.out)
    have V14 := Lib.hid (V14.out.below hAl.out)
    obtain ⟨q0, q1, q2, q3, q4⟩ : (w14.alloc (.cells #[.int .i64 r.state, .slice h1 r.slots.length i1, .slice h2 r.rings.length i2, .slice h3 r.spoilt.length i3, .slice h4 r.wait.length i4] 30)).cell? ⟨w3.heap.size, 0, none⟩ = some (.int .i64 r.state) ∧ (w14.alloc (.cells #[.int .i64 r.state, .slice h1 r.slots.length i1, .slice h2 r.rings.length i2, .slice h3 r.spoilt.length i3, .slice h4 r.wait.length i4] 30)).cell? ⟨w3.heap.size, 1, none⟩ = some (.slice a1 r.slots.length m1) ∧ (w14.alloc (.cells #[.int .i64 r.state, .slice h1 r.slots.length i1, .slice h2 r.rings.length i2, .slice h3 r.spoilt.length i3, .slice h4 r.wait.length i4] 30)).cell? ⟨w3.heap.size, 2, none⟩ = some (.slice a2 r.rings.length m2) ∧ (w14.alloc (.cells #[.int .i64 r.state, .slice h1 r.slots.length i1, .slice h2 r.rings.length i2, .slice h3 r.spoilt.length i3, .slice h4 r.wait.length i4] 30)).cell? ⟨w3.heap.size, 3, none⟩ = some (.slice a3 r.spoilt.length m3) ∧ (w14.alloc (.cells #[.int .i64 r.state, .slice h1 r.slots.length i1, .slice h2 r.rings.length i2, .slice h3 r.spoilt.length i3, .slice h4 r.wait.length i4] 30)).cell? ⟨w3.heap.size, 4, none⟩ = some (.slice a4 r.wait.length m4) := ⟨(KA.out.cell 0), (KA.out.cell 1), (KA.out.cell 2), (KA.out.cell 3), (KA.out.cell 4)⟩
    obtain ⟨y0, y1, y2, y3, y4⟩ : (w14.alloc (.cells #[.int .i64 r.state, .slice h1 r.slots.length i1, .slice h2 r.rings.length i2, .slice h3 r.spoilt.length i3, .slice h4 r.wait.length i4] 30)).cell? ⟨w14.heap.size, 0, none⟩ = some (.int .i64 r.state) ∧ (w14.alloc (.cells #[.int .i64 r.state, .slice h1 r.slots.length i1, .slice h2 r.rings.length i2, .slice h3 r.spoilt.length i3, .slice h4 r.wait.length i4] 30)).cell? ⟨w14.heap.size, 1, none⟩ = some (.slice h1 r.slots.length i1) ∧ (w14.alloc (.cells #[.int .i64 r.state, .slice h1 r.slots.length i1, .slice h2 r.rings.length i2, .slice h3 r.spoilt.length i3, .slice h4 r.wait.length i4] 30)).cell? ⟨w14.heap.size, 2, none⟩ = some (.slice h2 r.rings.length i2) ∧ (w14.alloc (.cells #[.int .i64 r.state, .slice h1 r.slots.length i1, .slice h2 r.rings.length i2, .slice h3 r.spoilt.length i3, .slice h4 r.wait.length i4] 30)).cell? ⟨w14.heap.size, 3, none⟩ = some (.slice h3 r.spoilt.length i3) ∧ (w14.alloc (.cells #[.int .i64 r.state, .slice h1 r.slots.length i1, .slice h2 r.rings.length i2, .slice h3 r.spoilt.length i3, .slice h4 r.wait.length i4] 30)).cell? ⟨w14.heap.size, 4, none⟩ = some (.slice h4 r.wait.length i4) := ⟨(KH.out.cell 0), (KH.out.cell 1), (KH.out.cell 2), (KH.out.cell 3), (KH.out.cell 4)⟩
    go_wp2_with fail
    generalize w14.alloc (.cells #[.int .i64 r.state, .slice h1 r.slots.length i1, .slice h2 r.rings.length i2, .slice h3 r.spoilt.length i3, .slice h4 r.wait.length i4] 30) = WH at hAl KA KO KG KH B C HG V14 q0 q1 q2 q3 q4 y0 y1 y2 y3 y4 ⊢
    refine (eqDisk_same _ _ r _ V14.out (V3.out.below C.out)).mono ?_
    rintro e w15 ⟨rfl, hB15⟩
    have KG := Lib.hid (KG.out.below hB15 KG.out.lt)
    have B := Lib.hid (below_trans B.out hB15 B.out.size)
    have HG := Lib.hid (HG.out.below hB15)
    clear hB15
    clear q0 q1 q2 q3 q4 y0 y1 y2 y3 y4
    obtain ⟨t0, t1, t2, t3, t4⟩ : w15.cell? ⟨w5.heap.size, 0, none⟩ = some (.int .i64 r.state) ∧ w15.cell? ⟨w5.heap.size, 1, none⟩ = some (.slice g1 r.slots.length f1) ∧ w15.cell? ⟨w5.heap.size, 2, none⟩ = some (.slice g2 r.rings.length f2) ∧ w15.cell? ⟨w5.heap.size, 3, none⟩ = some (.slice g3 r.spoilt.length f3) ∧ w15.cell? ⟨w5.heap.size, 4, none⟩ = some (.slice g4 r.wait.length f4) := ⟨(KG.out.cell 0), (KG.out.cell 1), (KG.out.cell 2), (KG.out.cell 3), (KG.out.cell 4)⟩
    go_wp2_with fail
    refine (HH.out _ _ HG.out.reads).mono ?_
    rintro e w16 ⟨rfl, hB16⟩
    have B := Lib.hid (below_trans B.out hB16 B.out.size)
    clear hB16
    go_wp2
    go_ret
    exact ⟨rfl, B.out⟩

set_option maxRecDepth 100000 in
theorem walk (v : Value) (d : DiskD) (z y c : Int) (w : World) (hv : DiskV w v d) (hb : DiskBd d) (hz : (Lit.int .i64 z).wf = true) (hy : (Lit.int .i64 y).wf = true) (hc : (Lit.int .i64 c).wf = true) :
    Calls Try.prog 3 #[v, .int .i64 z, .int .i64 y, .int .i64 c] w fun e w' => e = .returned (.bool true) ∧ Below w.heap.size w w' := by
  clear hz hy hc
  by_cases h : SpoilOk d z y c
  · obtain ⟨h1, h2, h3, h4⟩ := h
    obtain ⟨k, rfl⟩ := Int.eq_ofNat_of_zero_le h2.1
    obtain ⟨b, rfl⟩ := Int.eq_ofNat_of_zero_le h3.1
    have hk : k < 12 := by have := h2.2; omega
    have hb3 : b < 3 := by have := h3.2; omega
    exact main v d (spoilD d k b (c % 256)) (k : Int) (b : Int) c w hv hb (spoil_marks h1 k b _) (fun u W hu => specSpoil_ok u d k b c W h1 hk hb3 h4 hu) (fun u W hu => implSpoil_ok u d k b c W h1 hk hb3 h4 hu)
  · exact main v d disk0 z y c w hv hb (by decide) (fun u W hu => specSpoil_no u d z y c W h hu) (fun u W hu => implSpoil_no u d z y c W h hu)

set_option maxRecDepth 100000 in
theorem lifted (os : Os) (started : os.Started) (H : Type) (enc : TypeId × Value → H) :
    ReturnsInHanded {} Try.checked os 3 .any (Rows.fnExactDiskSpoilSpec.pre6 enc Try.prog Try.f3 Rows.fnExactDiskSpoilRow.domain false) (Rows.fnExactDiskSpoilSpec.post enc Try.prog Try.f3 false true false false) := by
  refine returnsInHanded_of_change (C := Try.checked) own started (by kernel_rfl) Try.func3
    (ChangeSpec.witness6 (enc := enc) (C := Try.checked) false ⟨#[], #[.agg #[.int .i64 0, .slice none 0 0, .slice none 0 0, .slice none 0 0, .slice none 0 0], .int .i64 0, .int .i64 0, .int .i64 0], []⟩ 8 (by kernel_rfl) (by kernel_rfl) (by kernel_rfl) (by kernel_rfl)) ?_
  intro W base args ds gs before hval0 hW hcnd _
  have hval : ∀ (j : Nat) t v, Try.f3.params[j]? = some t → args[j]? = some v → Value.okWide Try.prog W .any base t v := hval0
  have hW' := hW
  obtain ⟨p, q, hA0, hV, rfl, hfz, hnd⟩ := hW
  have hA : DataW.TrodAll enc Try.prog W 0 (fun _ => true) true Try.f3.params.toList args.toList ds p := hA0
  rw [Try.params3] at hA hval
  obtain ⟨v0, vs0, d0, ds0, p0, q0, hargs, rfl, rfl, h0, r0⟩ := trodAll_cons hA
  obtain ⟨v1, vs1, d1, ds1, p1, q1, rfl, rfl, rfl, h1, r1⟩ := trodAll_cons r0
  obtain ⟨v2, vs2, d2, ds2, p2, q2, rfl, rfl, rfl, h2, r2⟩ := trodAll_cons r1
  obtain ⟨v3, vs3, d3, ds3, p3, q3, rfl, rfl, rfl, h3, r3⟩ := trodAll_cons r2
  obtain ⟨rfl, rfl, rfl⟩ := trodAll_nil r3
  obtain rfl : args = #[v0, v1, v2, v3] := by cases args; simp_all
  obtain ⟨rfl, rfl⟩ := trodVars_none hV
  have k0 := h0
  have lt0 : ∀ x ∈ p0, x.block < W.heap.size := by obtain ⟨m, hm⟩ := k0; exact DataW.trod_lt m _ _ _ hm
  obtain ⟨x0, w0, wn0⟩ := in_disk (hval 0 26 v0 rfl rfl) h0
  have k1 := h1
  have lt1 : ∀ x ∈ p1, x.block < W.heap.size := by obtain ⟨m, hm⟩ := k1; exact DataW.trod_lt m _ _ _ hm
  obtain ⟨a1, rfl, rfl, e1, w1⟩ := open_int Try.underlying3 (hval 1 3 v1 rfl rfl) h1
  have k2 := h2
  have lt2 : ∀ x ∈ p2, x.block < W.heap.size := by obtain ⟨m, hm⟩ := k2; exact DataW.trod_lt m _ _ _ hm
  obtain ⟨a2, rfl, rfl, e2, w2⟩ := open_int Try.underlying3 (hval 2 3 v2 rfl rfl) h2
  have k3 := h3
  have lt3 : ∀ x ∈ p3, x.block < W.heap.size := by obtain ⟨m, hm⟩ := k3; exact DataW.trod_lt m _ _ _ hm
  obtain ⟨a3, rfl, rfl, e3, w3⟩ := open_int Try.underlying3 (hval 3 3 v3 rfl rfl) h3
  clear hA0 hval0
  refine (walk v0 x0 a1 a2 a3 W w0 wn0 w1 w2 w3).mono fun e W' ⟨he, bel⟩ => ?_
  subst he
  exact ⟨_, rfl, _, _, _, [], _, [], hW', trodAll_mk1 (shut_bool Try.underlying4 _), (trodAll_cons_mk (Below.trod laidOut (by kernel_rfl) (of_decide_eq_true (by kernel_rfl)) k0 bel lt0) (trodAll_cons_mk (Below.trod laidOut (by kernel_rfl) (of_decide_eq_true (by kernel_rfl)) k1 bel lt1) (trodAll_cons_mk (Below.trod laidOut (by kernel_rfl) (of_decide_eq_true (by kernel_rfl)) k2 bel lt2) (trodAll_cons_mk (Below.trod laidOut (by kernel_rfl) (of_decide_eq_true (by kernel_rfl)) k3 bel lt3) trodAll_mk0)))), rfl, bel.frame _, fun h => by cases h⟩

theorem over : Rows.fnExactDiskSpoilRow.holds Try.pinned (OpenSpec.ofChange Rows.fnExactDiskSpoilSpec) :=
  OpenClaim.holds_of_wide 3 Try.f3 rfl rfl rfl rfl rfl rfl rfl ⟨rfl, rfl, rfl, rfl, rfl⟩ rfl rfl rfl rfl rfl (by kernel_rfl) Try.func3 (by kernel_rfl)
    (of_decide_eq_true (by kernel_rfl)) (by unfold Func.isWrapper; first | (rw [if_pos (by decide +kernel)]; kernel_rfl) | (rw [if_neg (by decide +kernel)]; exact ⟨rfl, rfl⟩))
    (fun os started H enc _ => lifted os started H enc)

end FnExactDiskSpoil

theorem FnExactDiskSpoil_holds : Rows.FnExactDiskSpoilSaid := FnExactDiskSpoil.over

end Go.Proofs.Ytbkagnlomlnhcaa

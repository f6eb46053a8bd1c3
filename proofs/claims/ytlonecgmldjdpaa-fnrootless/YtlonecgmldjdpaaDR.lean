/- What is drawn for RootOk, RootPlaces, SpaceFree and SpaceTake: a number of disks, and roots; nothing old turns. Conditions: none. -/
import Derived.Test.YtlonecgmldjdpaaDG
namespace Go.Proofs.Ytlonecgmldjdpaa
open Go.RowKit Go.Sort

/-- A DRAWN NUMBER AND ROOT. -/
def DrawnRoot (w : World) (e : Ending) (w' : World) : Prop :=
  ∃ (n t : Int) (a : Option Addr) (c : Nat) (vs : List VolD), e = .returned (.tuple #[.int .i64 n, .agg #[.int .i64 t, .slice a vs.length c]]) ∧ Pool n ∧ LV w' w.heap.size (.slice a vs.length c) vs ∧ vs.length ≤ 5 ∧ Below w.heap.size w w'

set_option maxRecDepth 100000 in
set_option maxHeartbeats 2000000 in
theorem drawRootOk_any (a : Option Addr) (len cap : Nat) (z : List Int) (w : World) (h : IsBytes w a len cap z) :
    Calls Try.prog 16 #[.slice a len cap] w (DrawnRoot w) := by
  have hB0 : Below w.heap.size w (w.alloc (.cells #[.int .i64 0, .slice none 0 0] 25)) := (Below.refl _ _).alloc (Nat.le_refl _) _
  have H := Lib.hid (h.below hB0)
  have HB0 := Lib.hid hB0
  have HX0 := Lib.hid (Bx.new w #[.int .i64 0, .slice none 0 0] 25)
  clear h hB0
  go_enter Try.func16, Try.ntmps16
  go_wp2_with fail
  refine (l6Open_any a len cap z _ H.out).mono ?_
  rintro e w1 ⟨B, rfl, hR1, hB1⟩
  have hB : w.heap.size + 1 ≤ B := by have := hR1.1; simp at this; exact this
  have HX1 : Hid (Bx w1 w.heap.size #[.int .i64 0, .slice none 0 0] 25) := (hB1.block w.heap.size (by simp)).trans HX0.out
  have HB1 := Lib.hid (HB0.out.trans (hB1.mono HB0.out.size))
  have HR1 := Lib.hid hR1
  clear hR1 hB1 HX0 H
  go_wp2_with fail
  refine (l71Disks_any _ B 0 _ (by omega) HR1.out).mono ?_
  rintro e w2 ⟨n, rfl, hn, hR2, hg2⟩
  have HX2 := Lib.hid (HX1.out.kept hg2 (fun e => by injection e with e; omega))
  have HB2 := Lib.hid (HB1.out.trans (Below.ofGrown hg2 (by omega) HB1.out.size))
  have HR2 := Lib.hid hR2
  have Hn := Lib.hid hn
  have hs2 : w.heap.size + 1 ≤ w2.heap.size := HX2.out.lt
  clear hR2 hg2 hn HX1
  go_wp2_with fail
  refine (l71Off_any _ B (0 + 1) n _ (by omega) Hn.out HR2.out).mono ?_
  rintro e w3 ⟨t, o, vs, q, rfl, hL, hv, hq, hR3, hg3⟩
  have hX3 := HX2.out.kept hg3 (fun e => by injection e with e; omega)
  have hB3 := HB2.out.trans (Below.ofGrown hg3 (by omega) HB2.out.size)
  have hL' := hL
  obtain ⟨ao, co, rfl, _⟩ := hL'
  have m0 : w3.cell? ⟨w.heap.size, 0, none⟩ = some (.int .i64 0) := hX3.cell 0
  have m1 : w3.cell? ⟨w.heap.size, 1, none⟩ = some (.slice none 0 0) := hX3.cell 1
  have f0 := hX3.frozen 0
  have f1 := hX3.frozen 1
  have hgR : w3.grownBy ((w3.setCell ⟨w.heap.size, 0, none⟩ (.int .i64 t)).setCell ⟨w.heap.size, 1, none⟩ (.slice ao vs.length co)) (some w.heap.size) := (gset _ _ _ _).trans (gset _ _ _ _)
  have HE := Lib.hid ((hL.kept hgR (fun b e => by cases e; omega)).low (show w.heap.size ≤ w2.heap.size by omega))
  have HW := Lib.hid ((hB3.setCell (p := ⟨w.heap.size, 0, none⟩) (Nat.le_refl _) (.int .i64 t)).setCell (p := ⟨w.heap.size, 1, none⟩) (Nat.le_refl _) (.slice ao vs.length co))
  clear hL hR3 hg3 hX3 hB3 hgR
  go_wp2
  exact bodyPost_ret (v := .tuple #[.int .i64 n, .agg #[.int .i64 t, .slice ao vs.length co]]) (by simp [results, Try.results16, go_sem, m0, m1]) rfl ⟨n, t, ao, co, vs, rfl, Hn.out, HE.out, hv, HW.out⟩

set_option maxRecDepth 100000 in
set_option maxHeartbeats 2000000 in
theorem drawPlaces_any (a : Option Addr) (len cap : Nat) (z : List Int) (w : World) (h : IsBytes w a len cap z) :
    Calls Try.prog 10 #[.slice a len cap] w (DrawnRoot w) := by
  have hB0 : Below w.heap.size w (w.alloc (.cells #[.int .i64 0, .slice none 0 0] 25)) := (Below.refl _ _).alloc (Nat.le_refl _) _
  have H := Lib.hid (h.below hB0)
  have HB0 := Lib.hid hB0
  have HX0 := Lib.hid (Bx.new w #[.int .i64 0, .slice none 0 0] 25)
  clear h hB0
  go_enter Try.func10, Try.ntmps10
  go_wp2_with fail
  refine (drawRootOk_any a len cap z _ H.out).mono ?_
  rintro e w3 ⟨n, t, ao, co, vs, rfl, hn, hL, hv, hB1⟩
  have hX3 : Bx w3 w.heap.size #[.int .i64 0, .slice none 0 0] 25 := (hB1.block w.heap.size (by simp)).trans HX0.out
  have hB3 := HB0.out.trans (hB1.mono HB0.out.size)
  simp only [World.size_alloc] at hL
  have m0 : w3.cell? ⟨w.heap.size, 0, none⟩ = some (.int .i64 0) := hX3.cell 0
  have m1 : w3.cell? ⟨w.heap.size, 1, none⟩ = some (.slice none 0 0) := hX3.cell 1
  have f0 := hX3.frozen 0
  have f1 := hX3.frozen 1
  have hgR : w3.grownBy ((w3.setCell ⟨w.heap.size, 0, none⟩ (.int .i64 t)).setCell ⟨w.heap.size, 1, none⟩ (.slice ao vs.length co)) (some w.heap.size) := (gset _ _ _ _).trans (gset _ _ _ _)
  have HE := Lib.hid ((hL.kept hgR (fun b e => by cases e; omega)).low (show w.heap.size ≤ w.heap.size + 1 by omega))
  have HW := Lib.hid ((hB3.setCell (p := ⟨w.heap.size, 0, none⟩) (Nat.le_refl _) (.int .i64 t)).setCell (p := ⟨w.heap.size, 1, none⟩) (Nat.le_refl _) (.slice ao vs.length co))
  have Hn := Lib.hid hn
  clear hL hX3 hB3 hgR hn
  go_wp2
  exact bodyPost_ret (v := .tuple #[.int .i64 n, .agg #[.int .i64 t, .slice ao vs.length co]]) (by simp [results, Try.results10, go_sem, m0, m1]) rfl ⟨n, t, ao, co, vs, rfl, Hn.out, HE.out, hv, HW.out⟩

/-- TWO DRAWN ROOTS. -/
def DrawnTwo (w : World) (e : Ending) (w' : World) : Prop :=
  ∃ (n ta tb : Int) (aa ab : Option Addr) (ca cb : Nat) (va vb : List VolD), e = .returned (.tuple #[.int .i64 n, .agg #[.int .i64 ta, .slice aa va.length ca], .agg #[.int .i64 tb, .slice ab vb.length cb]]) ∧ Pool n ∧ LV w' w.heap.size (.slice aa va.length ca) va ∧ LV w' w.heap.size (.slice ab vb.length cb) vb ∧ va.length ≤ 5 ∧ vb.length ≤ 5 ∧ Below w.heap.size w w'
def DrawnTake (w : World) (e : Ending) (w' : World) : Prop :=
  ∃ (n ta tb k : Int) (aa ab : Option Addr) (ca cb : Nat) (va vb : List VolD), e = .returned (.tuple #[.int .i64 n, .agg #[.int .i64 ta, .slice aa va.length ca], .agg #[.int .i64 tb, .slice ab vb.length cb], .int .i64 k]) ∧ Pool n ∧ LV w' w.heap.size (.slice aa va.length ca) va ∧ LV w' w.heap.size (.slice ab vb.length cb) vb ∧ va.length ≤ 5 ∧ vb.length ≤ 5 ∧ -10 ≤ k ∧ k ≤ 10 ∧ Below w.heap.size w w'
/-- TWO BOXES FILLED: what lies above them stays. -/
theorem two_set {w w4 : World} {ta tb : Int} {aa ab : Option Addr} {ca cb na nb : Nat} {vs : List VolD} {o : Value} {lo : Nat} (h : LV w4 lo o vs) (hlo : w.heap.size + 2 ≤ lo) :
    LV ((((w4.setCell ⟨w.heap.size, 0, none⟩ (.int .i64 ta)).setCell ⟨w.heap.size, 1, none⟩ (.slice aa na ca)).setCell ⟨w.heap.size + 1, 0, none⟩ (.int .i64 tb)).setCell ⟨w.heap.size + 1, 1, none⟩ (.slice ab nb cb)) w.heap.size o vs := by
  have h1 : w4.grownBy ((w4.setCell ⟨w.heap.size, 0, none⟩ (.int .i64 ta)).setCell ⟨w.heap.size, 1, none⟩ (.slice aa na ca)) (some w.heap.size) := (gset _ _ _ _).trans (gset _ _ _ _)
  have h2 : ((w4.setCell ⟨w.heap.size, 0, none⟩ (.int .i64 ta)).setCell ⟨w.heap.size, 1, none⟩ (.slice aa na ca)).grownBy ((((w4.setCell ⟨w.heap.size, 0, none⟩ (.int .i64 ta)).setCell ⟨w.heap.size, 1, none⟩ (.slice aa na ca)).setCell ⟨w.heap.size + 1, 0, none⟩ (.int .i64 tb)).setCell ⟨w.heap.size + 1, 1, none⟩ (.slice ab nb cb)) (some (w.heap.size + 1)) := (gset _ _ _ _).trans (gset _ _ _ _)
  exact ((h.kept h1 (fun b e => by cases e; omega)).kept h2 (fun b e => by cases e; omega)).low (by omega)
theorem two_below {w w4 : World} {ta tb : Int} {aa ab : Option Addr} {ca cb na nb : Nat} (h : Below w.heap.size w w4) :
    Below w.heap.size w ((((w4.setCell ⟨w.heap.size, 0, none⟩ (.int .i64 ta)).setCell ⟨w.heap.size, 1, none⟩ (.slice aa na ca)).setCell ⟨w.heap.size + 1, 0, none⟩ (.int .i64 tb)).setCell ⟨w.heap.size + 1, 1, none⟩ (.slice ab nb cb)) :=
  (((h.setCell (p := ⟨w.heap.size, 0, none⟩) (Nat.le_refl _) _).setCell (p := ⟨w.heap.size, 1, none⟩) (Nat.le_refl _) _).setCell (p := ⟨w.heap.size + 1, 0, none⟩) (Nat.le_succ _) _).setCell (p := ⟨w.heap.size + 1, 1, none⟩) (Nat.le_succ _) _

set_option maxRecDepth 100000 in
set_option maxHeartbeats 4000000 in
theorem drawFree_any (a : Option Addr) (len cap : Nat) (z : List Int) (w : World) (h : IsBytes w a len cap z) :
    Calls Try.prog 18 #[.slice a len cap] w (DrawnTwo w) := by
  have hB0 : Below w.heap.size w ((w.alloc (.cells #[.int .i64 0, .slice none 0 0] 25)).alloc (.cells #[.int .i64 0, .slice none 0 0] 25)) := ((Below.refl _ _).alloc (Nat.le_refl _) _).alloc (by simp) _
  have H := Lib.hid (h.below hB0)
  have HB0 := Lib.hid hB0
  have HX0 : Hid (Bx ((w.alloc (.cells #[.int .i64 0, .slice none 0 0] 25)).alloc (.cells #[.int .i64 0, .slice none 0 0] 25)) w.heap.size #[.int .i64 0, .slice none 0 0] 25) := (Bx.new w _ _).kept (World.grownBy_alloc _ _ none) (by simp)
  have HY0 : Hid (Bx ((w.alloc (.cells #[.int .i64 0, .slice none 0 0] 25)).alloc (.cells #[.int .i64 0, .slice none 0 0] 25)) (w.heap.size + 1) #[.int .i64 0, .slice none 0 0] 25) := by
    have := Bx.new (w.alloc (.cells #[.int .i64 0, .slice none 0 0] 25)) #[.int .i64 0, .slice none 0 0] 25
    simp only [World.size_alloc] at this
    exact this
  clear h hB0
  go_enter Try.func18, Try.ntmps18
  go_wp2_with fail
  refine (l6Open_any a len cap z _ H.out).mono ?_
  rintro e w1 ⟨B, rfl, hR1, hB1⟩
  have hB : w.heap.size + 2 ≤ B := by have := hR1.1; simp at this; exact this
  have HX1 : Hid (Bx w1 w.heap.size #[.int .i64 0, .slice none 0 0] 25) := (hB1.block w.heap.size (by simp; omega)).trans HX0.out
  have HY1 : Hid (Bx w1 (w.heap.size + 1) #[.int .i64 0, .slice none 0 0] 25) := (hB1.block (w.heap.size + 1) (by simp)).trans HY0.out
  have HB1 := Lib.hid (HB0.out.trans (hB1.mono HB0.out.size))
  have HR1 := Lib.hid hR1
  clear hR1 hB1 HX0 HY0 H
  go_wp2_with fail
  refine (l71Disks_any _ B 0 _ (by omega) HR1.out).mono ?_
  rintro e w2 ⟨n, rfl, hn, hR2, hg2⟩
  have HX2 := Lib.hid (HX1.out.kept hg2 (fun e => by injection e with e; omega))
  have HY2 := Lib.hid (HY1.out.kept hg2 (fun e => by injection e with e; omega))
  have HB2 := Lib.hid (HB1.out.trans (Below.ofGrown hg2 (by omega) HB1.out.size))
  have HR2 := Lib.hid hR2
  have Hn := Lib.hid hn
  have hs2 : w.heap.size + 2 ≤ w2.heap.size := HY2.out.lt
  have hBl := hR2.lt
  clear hR2 hg2 hn HX1 HY1
  go_wp2_with fail
  refine (l71Off_any _ B (0 + 1) n _ (by omega) Hn.out HR2.out).mono ?_
  rintro e w3 ⟨ta, oa, va, q3, rfl, hLa, hva, hq3, hR3, hg3⟩
  have HX3 := Lib.hid (HX2.out.kept hg3 (fun e => by injection e with e; omega))
  have HY3 := Lib.hid (HY2.out.kept hg3 (fun e => by injection e with e; omega))
  have HB3 := Lib.hid (HB2.out.trans (Below.ofGrown hg3 (by omega) HB2.out.size))
  have HR3 := Lib.hid hR3
  have HLa := Lib.hid hLa
  have hs3 : w2.heap.size ≤ w3.heap.size := hg3.size
  obtain ⟨aa, ca, rfl, _⟩ := hLa
  clear hR3 hg3 HX2 HY2
  go_wp2_with fail
  refine (l71Root_any _ B q3 n _ (by omega) Hn.out HR3.out).mono ?_
  rintro e w4 ⟨tb, ob, vb, q4, rfl, hOb, hvb, hq4, hR4, hg4⟩
  have hX := HX3.out.kept hg4 (fun e => by injection e with e; omega)
  have hY := HY3.out.kept hg4 (fun e => by injection e with e; omega)
  have hW := HB3.out.trans (Below.ofGrown hg4 (by omega) HB3.out.size)
  have hLa := HLa.out.kept hg4 (fun b e => by cases e; omega)
  have hLb := hOb.lv
  have hLb' := hLb
  obtain ⟨ab, cb, rfl, _⟩ := hLb'
  have m0 : w4.cell? ⟨w.heap.size, 0, none⟩ = some (.int .i64 0) := hX.cell 0
  have m1 : w4.cell? ⟨w.heap.size, 1, none⟩ = some (.slice none 0 0) := hX.cell 1
  have f0 := hX.frozen 0
  have f1 := hX.frozen 1
  have m2 : w4.cell? ⟨w.heap.size + 1, 0, none⟩ = some (.int .i64 0) := hY.cell 0
  have m3 : w4.cell? ⟨w.heap.size + 1, 1, none⟩ = some (.slice none 0 0) := hY.cell 1
  have f2 := hY.frozen 0
  have f3 := hY.frozen 1
  have HA := Lib.hid (fun ta tb => two_set (ta := ta) (tb := tb) (aa := aa) (ab := ab) (ca := ca) (cb := cb) (na := va.length) (nb := vb.length) hLa hs2)
  have HB := Lib.hid (fun ta tb => two_set (ta := ta) (tb := tb) (aa := aa) (ab := ab) (ca := ca) (cb := cb) (na := va.length) (nb := vb.length) hLb (Nat.le_trans hs2 hs3))
  have HW := Lib.hid (fun ta tb => two_below (ta := ta) (tb := tb) (aa := aa) (ab := ab) (ca := ca) (cb := cb) (na := va.length) (nb := vb.length) hW)
  clear hX hY hW hLa hLb hOb hR4 hg4
  go_wp2
  exact bodyPost_ret (v := .tuple #[.int .i64 n, .agg #[.int .i64 ta, .slice aa va.length ca], .agg #[.int .i64 tb, .slice ab vb.length cb]]) (by simp [results, Try.results18, go_sem, m0, m1, m2, m3]) rfl ⟨n, ta, tb, aa, ab, ca, cb, va, vb, rfl, Hn.out, HA.out _ _, HB.out _ _, hva, by omega, HW.out _ _⟩

end Go.Proofs.Ytlonecgmldjdpaa

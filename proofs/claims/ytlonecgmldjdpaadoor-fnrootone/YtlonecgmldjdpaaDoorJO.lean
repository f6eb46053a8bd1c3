/- 'laws.FnRootOne' returns true at every pair of codes: of two drawn roots RootText of the program answers as RootText of the specification, and if both are ok they are the same just if their texts are. Conditions: the table of powers of ten is as the language has it. What the listed tables give the walks of the seat's laws; that the world in which the program has begun meets the condition. Conditions: none. The card. Conditions: none beyond the card's. -/
import Derived.Test.YtlonecgmldjdpaaDoorQB
import Derived.Test.YtlonecgmldjdpaaDoorK
import Derived.Test.YtlonecgmldjdpaaDoorJW1
import Derived.Test.YtlonecgmldjdpaaDoorMI
import Derived.Test.YtlonecgmldjdpaaDoorP2
import Derived.Test.YtlonecgmldjdpaaDoorTie
import Derived.Test.YtlonecgmldjdpaaDoorCards
import Derived.LaidMore
import Derived.Stop.Joined
import Derived.Lib.LaidTab
import Derived.Test.YtlonecgmldjdpaaDoorQ7
namespace Go.Proofs.YtlonecgmldjdpaaDoor
open Go.RowKit Go.Sort

set_option maxRecDepth 100000 in
set_option maxHeartbeats 2000000 in
theorem drawText_any (a : Option Addr) (len cap : Nat) (z : List Int) (w : World) (h : IsBytes w a len cap z) :
    Calls Tryd.prog 5 #[.slice a len cap] w (DrawnRoot w) := by
  have hB0 : Below w.heap.size w (w.alloc (.cells #[.int .i64 0, .slice none 0 0] 25)) := (Below.refl _ _).alloc (Nat.le_refl _) _
  have H := Lib.hid (h.below hB0)
  have HB0 := Lib.hid hB0
  have HX0 := Lib.hid (Bx.new w #[.int .i64 0, .slice none 0 0] 25)
  clear h hB0
  go_enter Tryd.func5, Tryd.ntmps5
  go_wp2_with fail
  refine (drawRootOk_any a len cap z _ H.out).mono ?_
  rintro e w3 ⟨n, t, ao, co, vs, rfl, hn, hL, hv, hB1⟩
  have hX3 : Bx w3 w.heap.size #[.int .i64 0, .slice none 0 0] 25 := (hB1.block w.heap.size (by simp)).trans HX0.out
  have hB3 := HB0.out.trans (hB1.mono HB0.out.size)
  simp only [World.size_alloc] at hL
  have m0 : w3.cell? ⟨w.heap.size, 0, none⟩ = some (.int .i64 0) := hX3.cell 0
  have m1 : w3.cell? ⟨w.heap.size, 1, none⟩ = some (.slice none 0 0) := hX3.cell 1
  have f0 := hX3.frozen 0
  have f1 := hX3.frozen 1
  have hgR : w3.grownBy ((w3.setCell ⟨w.heap.size, 0, none⟩ (.int .i64 t)).setCell ⟨w.heap.size, 1, none⟩ (.slice ao vs.length co)) (some w.heap.size) := (gset _ _ _ _).trans (gset _ _ _ _)
  have HE := Lib.hid ((hL.kept hgR (fun b e => by cases e; omega)).low (show w.heap.size ≤ w.heap.size + 1 by omega))
  have HW := Lib.hid ((hB3.setCell (p := ⟨w.heap.size, 0, none⟩) (Nat.le_refl _) (.int .i64 t)).setCell (p := ⟨w.heap.size, 1, none⟩) (Nat.le_refl _) (.slice ao vs.length co))
  have Hn := Lib.hid hn
  clear hL hX3 hB3 hgR hn
  go_wp2
  exact bodyPost_ret (v := .tuple #[.int .i64 n, .agg #[.int .i64 t, .slice ao vs.length co]]) (by simp [results, Tryd.results5, go_sem, m0, m1]) rfl ⟨n, t, ao, co, vs, rfl, Hn.out, HE.out, hv, HW.out⟩

theorem full_ne (r : RootD) : (fullT r).toList.isEmpty = false := by
  rw [ByteArray.toList_eq]
  unfold fullT
  simp [ByteArray.data_append]
end Go.Proofs.YtlonecgmldjdpaaDoor
namespace Go.Proofs.YtlonecgmldjdpaaDoor
open Go.ChangeShapes Go.WideShapes Go.ChangeAt Go.RowKit Go.Sort
namespace FnRootOne
set_option linter.unusedVariables false

set_option maxRecDepth 100000 in
set_option maxHeartbeats 4000000 in
theorem main (a : Option Addr) (len cap : Nat) (z0 : List Int) (a' : Option Addr) (len' cap' : Nat) (z1 : List Int) (w : World) (h0 : len ≤ 1048576) (h1 : len' ≤ 1048576) (H : Hid (IsBytes w a len cap z0)) (H' : Hid (IsBytes w a' len' cap' z1)) (HTab : Hid (Tab w)) :
    Calls Tryd.prog 3 #[.slice a len cap, .slice a' len' cap'] w fun e w' => e = .returned (.bool true) ∧ Below w.heap.size w w' := by
  have d0 : decide (1048576 < (len : Int)) = false := by simp; omega
  have d1 : decide (1048576 < (len' : Int)) = false := by simp; omega
  go_enter Tryd.func3, Tryd.ntmps3
  go_wp2_with fail
  refine (drawText_any a len cap z0 _ H.out).mono ?_
  rintro e w1 ⟨n, ta, aa, ca, va, rfl, hn, hLa, hva, hB1⟩
  obtain ⟨hVa, hnma⟩ := hLa.reads
  obtain ⟨_, _, ea, hca1, hca2, hXa⟩ := hVa
  cases ea
  have HNa : Hid (∀ j, j < va.length → (va.getD j vol0).name.size ≤ maxLen) := fun j hj => Nat.le_trans (hnma j hj) (by simp [maxLen])
  have hma : va.length ≤ maxLen := by simp [maxLen]; omega
  have hBa : Below w1.heap.size w1 (w1.alloc (.cells #[.int .i64 ta, .slice aa va.length ca] 25)) := (Below.refl _ _).alloc (Nat.le_refl _) _
  have HXa := Lib.hid (hXa.below hBa)
  have HB := Lib.hid (hB1.trans (hBa.mono hB1.size))
  have k0 : (w1.alloc (.cells #[.int .i64 ta, .slice aa va.length ca] 25)).cell? ⟨w1.heap.size, 0, none⟩ = some (.int .i64 ta) := by rw [World.cell?_alloc_mark]; rfl
  have k1 : (w1.alloc (.cells #[.int .i64 ta, .slice aa va.length ca] 25)).cell? ⟨w1.heap.size, 1, none⟩ = some (.slice aa va.length ca) := by rw [World.cell?_alloc_mark]; rfl
  clear hLa hXa hnma hBa hB1 hn
  go_wp2_with fail
  generalize hgD : w1.heap.size = D at k0 k1 ⊢
  clear hgD
  generalize w1.alloc (.cells #[.int .i64 ta, .slice aa va.length ca] 25) = wa at HXa HB k0 k1 ⊢
  refine (drawText_any a' len' cap' z1 _ (H'.out.below HB.out)).mono ?_
  rintro e w2 ⟨n2, tb, ab, cb, vb, rfl, hn2, hLb, hvb, hB2⟩
  obtain ⟨hVb, hnmb⟩ := hLb.reads
  obtain ⟨_, _, eb, hcb1, hcb2, hXb⟩ := hVb
  cases eb
  have HNb : Hid (∀ j, j < vb.length → (vb.getD j vol0).name.size ≤ maxLen) := fun j hj => Nat.le_trans (hnmb j hj) (by simp [maxLen])
  have hmb : vb.length ≤ maxLen := by simp [maxLen]; omega
  have hBb : Below w2.heap.size w2 (w2.alloc (.cells #[.int .i64 tb, .slice ab vb.length cb] 25)) := (Below.refl _ _).alloc (Nat.le_refl _) _
  have hB := hB2.trans (hBb.mono hB2.size)
  have HXb := Lib.hid (hXb.below hBb)
  replace HXa := Lib.hid (HXa.out.below hB)
  replace k0 := cell_below hB k0
  replace k1 := cell_below hB k1
  replace HB := Lib.hid (HB.out.trans (hB.mono HB.out.size))
  have k2 : (w2.alloc (.cells #[.int .i64 tb, .slice ab vb.length cb] 25)).cell? ⟨w2.heap.size, 0, none⟩ = some (.int .i64 tb) := by rw [World.cell?_alloc_mark]; rfl
  have k3 : (w2.alloc (.cells #[.int .i64 tb, .slice ab vb.length cb] 25)).cell? ⟨w2.heap.size, 1, none⟩ = some (.slice ab vb.length cb) := by rw [World.cell?_alloc_mark]; rfl
  clear hLb hXb hnmb hBb hB hB2 hn2
  have HIa := Lib.hid (fun w' h hT => implText_any n ⟨ta, va⟩ aa ca w' hca1 HNa h hT)
  have HIb := Lib.hid (fun w' h hT => implText_any n ⟨tb, vb⟩ ab cb w' hcb1 HNb h hT)
  have HSa := Lib.hid (fun w' h => specText_any n ⟨ta, va⟩ aa ca w' hma HNa h)
  have HSb := Lib.hid (fun w' h => specText_any n ⟨tb, vb⟩ ab cb w' hmb HNb h)
  have HL := Lib.hid (fun w' h h' => lpaRoot_any ta tb aa ab ca cb va vb w' hma hmb h h')
  simp only at HIa HIb HSa HSb
  go_wp2_with fail
  generalize hgE : w2.heap.size = E at k2 k3 ⊢
  clear hgE
  generalize w2.alloc (.cells #[.int .i64 tb, .slice ab vb.length cb] 25) = wb at HXa HXb HB k0 k1 k2 k3 ⊢
  by_cases hoka : RootOkP n ⟨ta, va⟩
  · by_cases hokb : RootOkP n ⟨tb, vb⟩
    · rw [rootT_ok hoka] at HIa HSa
      rw [rootT_ok hokb] at HIb HSb
      have ne1 := full_ne ⟨ta, va⟩
      have ne2 := full_ne ⟨tb, vb⟩
      by_cases hs : RootD.mk ta va = ⟨tb, vb⟩
      · rw [tt_true hs] at HL
        injection hs with e1 e2
        subst e1 e2
        generalize fullT ⟨ta, va⟩ = T at HIa HSa HIb HSb ne1 ne2
        clear hoka hokb
        refine (HIa.out _ HXa (HTab.out.below HB.out)).mono ?_
        rintro e w3 ⟨rfl, hB⟩
        replace HXa := Lib.hid (HXa.out.below hB)
        replace HXb := Lib.hid (HXb.out.below hB)
        replace k0 := cell_below hB k0
        replace k1 := cell_below hB k1
        replace k2 := cell_below hB k2
        replace k3 := cell_below hB k3
        replace HB := Lib.hid (HB.out.trans (hB.mono HB.out.size))
        clear hB
        go_wp2_with fail
        refine (HIb.out _ HXb (HTab.out.below HB.out)).mono ?_
        rintro e w4 ⟨rfl, hB⟩
        replace HXa := Lib.hid (HXa.out.below hB)
        replace HXb := Lib.hid (HXb.out.below hB)
        replace k0 := cell_below hB k0
        replace k1 := cell_below hB k1
        replace k2 := cell_below hB k2
        replace k3 := cell_below hB k3
        replace HB := Lib.hid (HB.out.trans (hB.mono HB.out.size))
        clear hB
        go_wp2_with fail
        refine (HSa.out _ HXa).mono ?_
        rintro e w5 ⟨rfl, hB⟩
        replace HXa := Lib.hid (HXa.out.below hB)
        replace HXb := Lib.hid (HXb.out.below hB)
        replace k0 := cell_below hB k0
        replace k1 := cell_below hB k1
        replace k2 := cell_below hB k2
        replace k3 := cell_below hB k3
        replace HB := Lib.hid (HB.out.trans (hB.mono HB.out.size))
        clear hB
        go_wp2_with fail
        refine (HSb.out _ HXb).mono ?_
        rintro e w6 ⟨rfl, hB⟩
        replace HXa := Lib.hid (HXa.out.below hB)
        replace HXb := Lib.hid (HXb.out.below hB)
        replace k0 := cell_below hB k0
        replace k1 := cell_below hB k1
        replace k2 := cell_below hB k2
        replace k3 := cell_below hB k3
        replace HB := Lib.hid (HB.out.trans (hB.mono HB.out.size))
        clear hB
        go_wp2_with fail
        refine (HL.out _ HXa HXb).mono ?_
        rintro e w7 ⟨rfl, hB⟩
        replace HXa := Lib.hid (HXa.out.below hB)
        replace HXb := Lib.hid (HXb.out.below hB)
        replace k0 := cell_below hB k0
        replace k1 := cell_below hB k1
        replace k2 := cell_below hB k2
        replace k3 := cell_below hB k3
        replace HB := Lib.hid (HB.out.trans (hB.mono HB.out.size))
        clear hB
        go_wp2
        go_ret
        exact ⟨rfl, HB.out⟩
      · rw [tt_false hs] at HL
        have hne : fullT ⟨ta, va⟩ ≠ fullT ⟨tb, vb⟩ := fun h => hs (root_inj hoka hokb h)
        have dT := text_no hne
        generalize fullT ⟨ta, va⟩ = T at HIa HSa ne1 dT
        generalize fullT ⟨tb, vb⟩ = T' at HIb HSb ne2 dT
        clear hoka hokb hs hne
        refine (HIa.out _ HXa (HTab.out.below HB.out)).mono ?_
        rintro e w3 ⟨rfl, hB⟩
        replace HXa := Lib.hid (HXa.out.below hB)
        replace HXb := Lib.hid (HXb.out.below hB)
        replace k0 := cell_below hB k0
        replace k1 := cell_below hB k1
        replace k2 := cell_below hB k2
        replace k3 := cell_below hB k3
        replace HB := Lib.hid (HB.out.trans (hB.mono HB.out.size))
        clear hB
        go_wp2_with fail
        refine (HIb.out _ HXb (HTab.out.below HB.out)).mono ?_
        rintro e w4 ⟨rfl, hB⟩
        replace HXa := Lib.hid (HXa.out.below hB)
        replace HXb := Lib.hid (HXb.out.below hB)
        replace k0 := cell_below hB k0
        replace k1 := cell_below hB k1
        replace k2 := cell_below hB k2
        replace k3 := cell_below hB k3
        replace HB := Lib.hid (HB.out.trans (hB.mono HB.out.size))
        clear hB
        go_wp2_with fail
        refine (HSa.out _ HXa).mono ?_
        rintro e w5 ⟨rfl, hB⟩
        replace HXa := Lib.hid (HXa.out.below hB)
        replace HXb := Lib.hid (HXb.out.below hB)
        replace k0 := cell_below hB k0
        replace k1 := cell_below hB k1
        replace k2 := cell_below hB k2
        replace k3 := cell_below hB k3
        replace HB := Lib.hid (HB.out.trans (hB.mono HB.out.size))
        clear hB
        go_wp2_with fail
        refine (HSb.out _ HXb).mono ?_
        rintro e w6 ⟨rfl, hB⟩
        replace HXa := Lib.hid (HXa.out.below hB)
        replace HXb := Lib.hid (HXb.out.below hB)
        replace k0 := cell_below hB k0
        replace k1 := cell_below hB k1
        replace k2 := cell_below hB k2
        replace k3 := cell_below hB k3
        replace HB := Lib.hid (HB.out.trans (hB.mono HB.out.size))
        clear hB
        go_wp2_with fail
        refine (HL.out _ HXa HXb).mono ?_
        rintro e w7 ⟨rfl, hB⟩
        replace HXa := Lib.hid (HXa.out.below hB)
        replace HXb := Lib.hid (HXb.out.below hB)
        replace k0 := cell_below hB k0
        replace k1 := cell_below hB k1
        replace k2 := cell_below hB k2
        replace k3 := cell_below hB k3
        replace HB := Lib.hid (HB.out.trans (hB.mono HB.out.size))
        clear hB
        go_wp2
        go_ret
        exact ⟨rfl, HB.out⟩
    · rw [rootT_ok hoka] at HIa HSa
      rw [rootT_no hokb] at HIb HSb
      have ne1 := full_ne ⟨ta, va⟩
      generalize fullT ⟨ta, va⟩ = T at HIa HSa ne1
      clear hoka hokb HL
      refine (HIa.out _ HXa (HTab.out.below HB.out)).mono ?_
      rintro e w3 ⟨rfl, hB⟩
      replace HXa := Lib.hid (HXa.out.below hB)
      replace HXb := Lib.hid (HXb.out.below hB)
      replace k0 := cell_below hB k0
      replace k1 := cell_below hB k1
      replace k2 := cell_below hB k2
      replace k3 := cell_below hB k3
      replace HB := Lib.hid (HB.out.trans (hB.mono HB.out.size))
      clear hB
      go_wp2_with fail
      refine (HIb.out _ HXb (HTab.out.below HB.out)).mono ?_
      rintro e w4 ⟨rfl, hB⟩
      replace HXa := Lib.hid (HXa.out.below hB)
      replace HXb := Lib.hid (HXb.out.below hB)
      replace k0 := cell_below hB k0
      replace k1 := cell_below hB k1
      replace k2 := cell_below hB k2
      replace k3 := cell_below hB k3
      replace HB := Lib.hid (HB.out.trans (hB.mono HB.out.size))
      clear hB
      go_wp2_with fail
      refine (HSa.out _ HXa).mono ?_
      rintro e w5 ⟨rfl, hB⟩
      replace HXa := Lib.hid (HXa.out.below hB)
      replace HXb := Lib.hid (HXb.out.below hB)
      replace k0 := cell_below hB k0
      replace k1 := cell_below hB k1
      replace k2 := cell_below hB k2
      replace k3 := cell_below hB k3
      replace HB := Lib.hid (HB.out.trans (hB.mono HB.out.size))
      clear hB
      go_wp2_with fail
      refine (HSb.out _ HXb).mono ?_
      rintro e w6 ⟨rfl, hB⟩
      replace HXa := Lib.hid (HXa.out.below hB)
      replace HXb := Lib.hid (HXb.out.below hB)
      replace k0 := cell_below hB k0
      replace k1 := cell_below hB k1
      replace k2 := cell_below hB k2
      replace k3 := cell_below hB k3
      replace HB := Lib.hid (HB.out.trans (hB.mono HB.out.size))
      clear hB
      go_wp2_with fail
      refine (HSa.out _ HXa).mono ?_
      rintro e w7 ⟨rfl, hB⟩
      replace HXa := Lib.hid (HXa.out.below hB)
      replace HXb := Lib.hid (HXb.out.below hB)
      replace k0 := cell_below hB k0
      replace k1 := cell_below hB k1
      replace k2 := cell_below hB k2
      replace k3 := cell_below hB k3
      replace HB := Lib.hid (HB.out.trans (hB.mono HB.out.size))
      clear hB
      go_wp2_with fail
      refine (HSb.out _ HXb).mono ?_
      rintro e w8 ⟨rfl, hB⟩
      replace HXa := Lib.hid (HXa.out.below hB)
      replace HXb := Lib.hid (HXb.out.below hB)
      replace k0 := cell_below hB k0
      replace k1 := cell_below hB k1
      replace k2 := cell_below hB k2
      replace k3 := cell_below hB k3
      replace HB := Lib.hid (HB.out.trans (hB.mono HB.out.size))
      clear hB
      go_wp2
      go_ret
      exact ⟨rfl, HB.out⟩
  · rw [rootT_no hoka] at HIa HSa
    generalize rootT n ⟨tb, vb⟩ = T at HIb HSb
    clear hoka HL
    refine (HIa.out _ HXa (HTab.out.below HB.out)).mono ?_
    rintro e w3 ⟨rfl, hB⟩
    replace HXa := Lib.hid (HXa.out.below hB)
    replace HXb := Lib.hid (HXb.out.below hB)
    replace k0 := cell_below hB k0
    replace k1 := cell_below hB k1
    replace k2 := cell_below hB k2
    replace k3 := cell_below hB k3
    replace HB := Lib.hid (HB.out.trans (hB.mono HB.out.size))
    clear hB
    go_wp2_with fail
    refine (HIb.out _ HXb (HTab.out.below HB.out)).mono ?_
    rintro e w4 ⟨rfl, hB⟩
    replace HXa := Lib.hid (HXa.out.below hB)
    replace HXb := Lib.hid (HXb.out.below hB)
    replace k0 := cell_below hB k0
    replace k1 := cell_below hB k1
    replace k2 := cell_below hB k2
    replace k3 := cell_below hB k3
    replace HB := Lib.hid (HB.out.trans (hB.mono HB.out.size))
    clear hB
    go_wp2_with fail
    refine (HSa.out _ HXa).mono ?_
    rintro e w5 ⟨rfl, hB⟩
    replace HXa := Lib.hid (HXa.out.below hB)
    replace HXb := Lib.hid (HXb.out.below hB)
    replace k0 := cell_below hB k0
    replace k1 := cell_below hB k1
    replace k2 := cell_below hB k2
    replace k3 := cell_below hB k3
    replace HB := Lib.hid (HB.out.trans (hB.mono HB.out.size))
    clear hB
    go_wp2_with fail
    refine (HSb.out _ HXb).mono ?_
    rintro e w6 ⟨rfl, hB⟩
    replace HXa := Lib.hid (HXa.out.below hB)
    replace HXb := Lib.hid (HXb.out.below hB)
    replace k0 := cell_below hB k0
    replace k1 := cell_below hB k1
    replace k2 := cell_below hB k2
    replace k3 := cell_below hB k3
    replace HB := Lib.hid (HB.out.trans (hB.mono HB.out.size))
    clear hB
    go_wp2_with fail
    refine (HSa.out _ HXa).mono ?_
    rintro e w7 ⟨rfl, hB⟩
    replace HXa := Lib.hid (HXa.out.below hB)
    replace HXb := Lib.hid (HXb.out.below hB)
    replace k0 := cell_below hB k0
    replace k1 := cell_below hB k1
    replace k2 := cell_below hB k2
    replace k3 := cell_below hB k3
    replace HB := Lib.hid (HB.out.trans (hB.mono HB.out.size))
    clear hB
    go_wp2_with fail
    refine (HSb.out _ HXb).mono ?_
    rintro e w8 ⟨rfl, hB⟩
    replace HXa := Lib.hid (HXa.out.below hB)
    replace HXb := Lib.hid (HXb.out.below hB)
    replace k0 := cell_below hB k0
    replace k1 := cell_below hB k1
    replace k2 := cell_below hB k2
    replace k3 := cell_below hB k3
    replace HB := Lib.hid (HB.out.trans (hB.mono HB.out.size))
    clear hB
    go_wp2
    go_ret
    exact ⟨rfl, HB.out⟩

set_option maxRecDepth 100000 in
set_option maxHeartbeats 1000000 in
theorem walk (a0 : Option Addr) (len0 cap0 : Nat) (z0 : List Int) (a1 : Option Addr) (len1 cap1 : Nat) (z1 : List Int) (w : World) (w0 : IsBytes w a0 len0 cap0 z0) (w1 : IsBytes w a1 len1 cap1 z1) (hT : Tab w) :
    Calls Tryd.prog 3 #[.slice a0 len0 cap0, .slice a1 len1 cap1] w fun e w' => e = .returned (.bool true) ∧ Below w.heap.size w w' := by
  have hm : len0 ≤ maxLen := by have := w0.opened; omega
  have hm1 : len1 ≤ maxLen := by have := w1.opened; omega
  by_cases h0 : len0 ≤ 1048576
  · by_cases h1 : len1 ≤ 1048576
    · exact main a0 len0 cap0 z0 a1 len1 cap1 z1 w h0 h1 w0 w1 hT
    · have d0 : decide (1048576 < (len0 : Int)) = false := by simp; omega
      have d1 : decide (1048576 < (len1 : Int)) = true := by simp; omega
      clear w0 w1 hT
      go_enter Tryd.func3, Tryd.ntmps3
      go_wp2
      go_ret
      exact ⟨rfl, Below.refl _ _⟩
  · have d0 : decide (1048576 < (len0 : Int)) = true := by simp; omega
    clear w0 w1 hT
    go_enter Tryd.func3, Tryd.ntmps3
    go_wp2
    go_ret
    exact ⟨rfl, Below.refl _ _⟩

end FnRootOne
end Go.Proofs.YtlonecgmldjdpaaDoor

namespace Go.Proofs.YtlonecgmldjdpaaDoor
open Go.ChangeShapes Go.WideShapes Go.ChangeAt Go.WideMaps Go.WideElems Go.RowKit
set_option maxRecDepth 100000

def tables : List (String × DataW Unit) := [("math/bits.deBruijn32tab", Rows.laid_math_bits_deBruijn32tab), ("math/bits.deBruijn64tab", Rows.laid_math_bits_deBruijn64tab), ("internal/strconv.uint64pow10", Rows.laid_internal_strconv_uint64pow10)]

theorem door_met (os : Os) (args : Array Value) : laidMetH Tryd.prog tables ((World.doorLaid Tryd.prog 400 os).forCall (fun _ _ => 0) ⟨#[], args, []⟩).memory :=
  laidMetH_of_parts3 (fuel := 8) (laidMet_of_run' 8 (by kernel_rfl) (by kernel_rfl)) (by kernel_rfl) (by kernel_rfl)

theorem pow10_data : (Rows.laid_internal_strconv_uint64pow10 : DataW Unit) = Lib.tabData .u64 Lib.pow10Tab := rfl
theorem pow10_type (g : Nat) (h : Tryd.prog.globalNamed "internal/strconv.uint64pow10" = some g) : (Tryd.prog.globals[g]?).map (·.type) = some 116 := by
  obtain rfl := Option.some.inj ((show Tryd.prog.globalNamed "internal/strconv.uint64pow10" = some ((Tryd.prog.globalNamed "internal/strconv.uint64pow10").getD 0) by kernel_rfl).symm.trans h)
  kernel_rfl

theorem tab_of_laid {W : World} (h : laidMetH Tryd.prog tables W) : Tab W := by
  rw [MakeChecks.laidMetH_plain _ _ _ (by kernel_rfl)] at h
  obtain ⟨ps, ⟨g0, t0, cs0, f0, p0, q0, hg0, ht0, hv0, hd0, ⟨g1, t1, cs1, f1, p1, q1, hg1, ht1, hv1, hd1, ⟨g2, t2, cs2, f2, p2, q2, hg2, ht2, hv2, hd2, _, _⟩, _⟩, _⟩, _⟩ := h
  obtain rfl := Option.some.inj ((pow10_type g2 hg2).symm.trans ht2)
  rw [pow10_data] at hd2
  unfold Tab Lib.TabIs
  rw [hv2, ← Lib.cells_of_tab Tryd.underlying116 Tryd.underlying107 (by kernel_rfl) (by kernel_rfl) hd2]

end Go.Proofs.YtlonecgmldjdpaaDoor

namespace Go.Proofs.YtlonecgmldjdpaaDoor
open Go.ChangeShapes Go.WideShapes Go.ChangeAt Go.RowKit Go.Sort
namespace FnRootOne
set_option linter.unusedVariables false

set_option maxRecDepth 100000 in
theorem lifted (os : Os) (started : os.Started) (H : Type) (enc : TypeId × Value → H) :
    ReturnsInHanded {} Tryd.checked os 3 .any (fun w args => (Rows.fnRootOneSpec.pre enc Tryd.prog Tryd.f3 [] false w args ∧ laidMetH Tryd.prog tables w) ∧ sizedMet enc Tryd.prog Tryd.f3 (OpenSpec.ofChange Rows.fnRootOneSpec) false w args)
      (Rows.fnRootOneSpec.post enc Tryd.prog Tryd.f3 false true false false) := by
  refine returnsInHanded_of_change_and (C := Tryd.checked) (X := fun w _ => laidMetH Tryd.prog tables w) (fun _ _ _ hh h => h.of_heap hh) own started (by kernel_rfl) Tryd.func3
    (ChangeSpec.witness_shaped (enc := enc) (C := Tryd.checked) (os := os) (X := fun w _ => laidMetH Tryd.prog tables w) false (World.doorLaid Tryd.prog 400 os) #[.slice none 0 0, .slice none 0 0] 8 rfl (World.shaped_of_RefB (by kernel_rfl) (by kernel_rfl)) (by kernel_rfl) (by kernel_rfl) (by kernel_rfl) (door_met os _)) ?_
  intro W base args ds gs before hval0 hW _ _ hLaid _
  have hval : ∀ (j : Nat) t v, Tryd.f3.params[j]? = some t → args[j]? = some v → Value.okWide Tryd.prog W .any base t v := hval0
  have hW' := hW
  obtain ⟨p, q, hA0, hV, rfl, hfz, hnd⟩ := hW
  have hA : DataW.TrodAll enc Tryd.prog W 0 (fun _ => true) true Tryd.f3.params.toList args.toList ds p := hA0
  rw [Tryd.params3] at hA hval
  obtain ⟨v0, vs0, d0, ds0, p0, q0, hargs, rfl, rfl, h0, r0⟩ := trodAll_cons hA
  obtain ⟨v1, vs1, d1, ds1, p1, q1, rfl, rfl, rfl, h1, r1⟩ := trodAll_cons r0
  obtain ⟨rfl, rfl, rfl⟩ := trodAll_nil r1
  obtain rfl : args = #[v0, v1] := by cases args; simp_all
  obtain ⟨rfl, rfl⟩ := trodVars_none hV
  have k0 := h0
  have lt0 : ∀ x ∈ p0, x.block < W.heap.size := by obtain ⟨m, hm⟩ := k0; exact DataW.trod_lt m _ _ _ hm
  obtain ⟨a0, len0, cap0, rfl⟩ := okWide_slice Tryd.underlying22 (hval 0 22 v0 rfl rfl)
  obtain ⟨z0, w0⟩ : ∃ zs, IsBytes W a0 len0 cap0 zs := by
    obtain ⟨fuel, hf⟩ := h0
    rcases open_ints Tryd.underlying22 Tryd.underlying5 (by kernel_rfl) hf with ⟨hcs, _⟩ | ⟨x, l, c, zs, hcs, _, hl, hm, hz, _, hcell, hwz⟩
    · simp [Value.cells] at hcs
      obtain ⟨rfl, rfl, rfl⟩ := hcs
      exact ⟨[], .inl ⟨rfl, rfl, rfl, rfl⟩⟩
    · simp [Value.cells] at hcs
      obtain ⟨rfl, rfl, rfl⟩ := hcs
      exact ⟨zs, .inr ⟨_, rfl, hl, hm, by simpa using hz, hcell, hwz⟩⟩
  have k1 := h1
  have lt1 : ∀ x ∈ p1, x.block < W.heap.size := by obtain ⟨m, hm⟩ := k1; exact DataW.trod_lt m _ _ _ hm
  obtain ⟨a1, len1, cap1, rfl⟩ := okWide_slice Tryd.underlying22 (hval 1 22 v1 rfl rfl)
  obtain ⟨z1, w1⟩ : ∃ zs, IsBytes W a1 len1 cap1 zs := by
    obtain ⟨fuel, hf⟩ := h1
    rcases open_ints Tryd.underlying22 Tryd.underlying5 (by kernel_rfl) hf with ⟨hcs, _⟩ | ⟨x, l, c, zs, hcs, _, hl, hm, hz, _, hcell, hwz⟩
    · simp [Value.cells] at hcs
      obtain ⟨rfl, rfl, rfl⟩ := hcs
      exact ⟨[], .inl ⟨rfl, rfl, rfl, rfl⟩⟩
    · simp [Value.cells] at hcs
      obtain ⟨rfl, rfl, rfl⟩ := hcs
      exact ⟨zs, .inr ⟨_, rfl, hl, hm, by simpa using hz, hcell, hwz⟩⟩
  clear hA0 hval0
  refine (walk a0 len0 cap0 z0 a1 len1 cap1 z1 W w0 w1 (tab_of_laid hLaid)).mono fun e W' ⟨he, bel⟩ => ?_
  subst he
  exact ⟨_, rfl, _, _, _, [], _, [], hW', trodAll_mk1 (shut_bool Tryd.underlying4 _), (trodAll_cons_mk (Below.trod laidOut (by kernel_rfl) (of_decide_eq_true (by kernel_rfl)) k0 bel lt0) (trodAll_cons_mk (Below.trod laidOut (by kernel_rfl) (of_decide_eq_true (by kernel_rfl)) k1 bel lt1) trodAll_mk0)), rfl, bel.frame _, fun h => by cases h⟩

theorem over : Rows.fnRootOneRow.holds Tryd.pinned (OpenSpec.ofChange Rows.fnRootOneSpec) :=
  OpenClaim.holds_of_wide 3 Tryd.f3 rfl rfl rfl rfl rfl rfl rfl ⟨rfl, rfl, rfl, rfl, rfl⟩ rfl rfl rfl rfl rfl (by kernel_rfl) Tryd.func3 (by kernel_rfl)
    (of_decide_eq_true (by kernel_rfl)) (by unfold Func.isWrapper; first | (rw [if_pos (by decide +kernel)]; kernel_rfl) | (rw [if_neg (by decide +kernel)]; exact ⟨rfl, rfl⟩))
    (fun os started H enc _ => lifted os started H enc)

theorem card : Claim7.holds Tryd.pinned (.plain (OpenSpec.ofChange Rows.fnRootOneSpec)) Rows.fnRootOneCard :=
  Claim7.holds_tied_plain_at .later [] [.data, .data, .data] true Rows.fnRootOneCard.stood.harness false
    over (fun _ h => by cases h) (by kernel_rfl) (fun _ h => by cases h) fnRootOne_row_tie rfl ⟨rfl, rfl⟩ (by kernel_rfl) rfl
    (fun f fn hf hfn => by
      obtain rfl : f = 3 := Option.some.inj ((show Tryd.prog.funcNamed Rows.fnRootOneRow.func = some 3 by kernel_rfl).symm.trans hf) |>.symm
      obtain rfl : fn = Tryd.f3 := (Option.some.inj (Tryd.func3.symm.trans hfn)).symm
      exact ⟨by kernel_rfl, fun j t ht => by
        rw [Tryd.params3] at ht
        have hm : t ∈ [22, 22] := by simpa using Array.mem_of_getElem? ht
        have hall : ([22, 22].all fun u => !Tryd.prog.wantsStandIn u) = true := by kernel_rfl
        exact (show Tryd.prog.wantsStandIn t = false by simpa using List.all_eq_true.1 hall t hm)⟩)
    (by kernel_rfl)

end FnRootOne

theorem FnRootOne_holds : Rows.FnRootOneCardSaid := FnRootOne.card

end Go.Proofs.YtlonecgmldjdpaaDoor

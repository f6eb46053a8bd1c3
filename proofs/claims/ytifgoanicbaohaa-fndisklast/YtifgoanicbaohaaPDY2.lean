/- What is drawn: a write. Conditions: the reader's place is below a bound. -/
import Derived.Test.YtifgoanicbaohaaPDY1
namespace Go.Proofs.Ytifgoanicbaohaa
open Go.RowKit Go.Sort

theorem Rd.set {n₀ B p : Nat} {w : World} (h : Rd n₀ B p w) {D : Nat} (hD : B < D) (j : Nat) (u : Value) : Rd n₀ B p (w.setCell ⟨D, j, none⟩ u) := h.kept (grownBy_setCellAt w D j u) (fun k e => by cases e; exact hD)
theorem grown_set {w w1 : World} {B D : Nat} (hg : w.grownBy w1 (some B)) (hD : w.heap.size ≤ D) (j : Nat) (u : Value) : w.grownBy (w1.setCell ⟨D, j, none⟩ u) (some B) := grown_bel hg ((Below.refl _ _).setCell (p := ⟨D, j, none⟩) hD u)
theorem blk3 {w : World} {D : Nat} {z0 z1 z2 : Value} {t : TypeId} (K : Blk w D #[z0, z1, z2] t) :
    w.cell? ⟨D, 0, none⟩ = some z0 ∧ w.cell? ⟨D, 1, none⟩ = some z1 ∧ w.cell? ⟨D, 2, none⟩ = some z2 ∧ w.frozen? ⟨D, 0, none⟩ = false ∧ w.frozen? ⟨D, 1, none⟩ = false ∧ w.frozen? ⟨D, 2, none⟩ = false :=
  ⟨K.cell 0, K.cell 1, K.cell 2, K.frozen 0, K.frozen 1, K.frozen 2⟩

set_option maxRecDepth 100000 in
set_option maxHeartbeats 2000000 in
theorem l71Put_any (n₀ B p : Nat) (w : World) (hp : p ≤ 890000) (hR : Rd n₀ B p w) :
    Calls Try.prog 43 #[.pointer (some ⟨B, 0, none⟩)] w (PutDrawn n₀ B p w) := by
  have hBl := hR.lt
  have HR0 := Lib.hid (hR.alloc (.cells #[.bool false, .int .i64 0, .string ⟨#[]⟩] 33))
  have K0 := Lib.hid (Blk.new w #[.bool false, .int .i64 0, .string ⟨#[]⟩] 33)
  have G0 := Lib.hid (World.grownBy_alloc w (.cells #[.bool false, .int .i64 0, .string ⟨#[]⟩] 33) (some B))
  clear hR
  go_enter Try.func43, Try.ntmps43
  go_wp2_with fail
  generalize w.alloc (.cells #[.bool false, .int .i64 0, .string ⟨#[]⟩] 33) = W at HR0 K0 G0 ⊢
  refine (pick_any n₀ B p 4 _ (by omega) HR0.out).mono ?_
  rintro e w1 ⟨v, rfl, hv0, hvn, hR1, hg1⟩
  have K1 := Lib.hid (K0.out.grown hg1 (by omega))
  have G1 := Lib.hid (G0.out.trans hg1)
  have HR1 := Lib.hid hR1
  clear hR1 hg1 hvn K0 G0 HR0
  by_cases hz : v = 0
  · have e0 : ((v : Int) == 0) = true := by simp; omega
    clear hz
    go_wp2_with fail
    refine (pick_any n₀ B (p + 1) 2 _ (by omega) HR1.out).mono ?_
    rintro e w2 ⟨v2, rfl, hv20, hv2n, hR2, hg2⟩
    have hv2 := hv2n (by omega)
    have K2 := Lib.hid (K1.out.grown hg2 (by omega))
    have G2 := Lib.hid (G1.out.trans hg2)
    have HR2 := Lib.hid hR2
    clear hR2 hg2 hv2n
    go_wp2_with fail
    refine (l71Text_any n₀ B (p + 1 + 1) 6 _ (by omega) (by omega) HR2.out).mono ?_
    rintro e w3 ⟨s, q, rfl, hs, hq, hR3, hg3⟩
    have K3 := Lib.hid (K2.out.grown hg3 (by omega))
    have G3 := Lib.hid (G2.out.trans hg3)
    have HR3 := Lib.hid hR3
    clear hR3 hg3
    obtain ⟨y0, y1, y2, f0, f1, f2⟩ := blk3 K3.out
    go_wp2
    refine bodyPost_ret (v := .agg #[.bool true, .int .i64 v2, .string s]) (by simp [results, Try.results43, go_sem, y0, y1, y2]) rfl ⟨⟨true, v2, s⟩, q, rfl, ?_, by omega, ?_, ?_⟩
    · obtain ⟨k, rfl⟩ := Int.eq_ofNat_of_zero_le hv20
      exact ring_put (by omega) (by omega)
    · exact ((HR3.out.set hBl 0 _).set hBl 1 _).set hBl 2 _
    · exact grown_set (grown_set (grown_set G3.out (Nat.le_refl _) 0 _) (Nat.le_refl _) 1 _) (Nat.le_refl _) 2 _
  · have e0 : ((v : Int) == 0) = false := by simp; omega
    clear hz
    go_wp2_with fail
    refine (pick_any n₀ B (p + 1) 12 _ (by omega) HR1.out).mono ?_
    rintro e w2 ⟨v2, rfl, hv20, hv2n, hR2, hg2⟩
    have hv2 := hv2n (by omega)
    have K2 := Lib.hid (K1.out.grown hg2 (by omega))
    have G2 := Lib.hid (G1.out.trans hg2)
    have HR2 := Lib.hid hR2
    clear hR2 hg2 hv2n
    go_wp2_with fail
    refine (l71Text_any n₀ B (p + 1 + 1) 3 _ (by omega) (by omega) HR2.out).mono ?_
    rintro e w3 ⟨s, q, rfl, hs, hq, hR3, hg3⟩
    have K3 := Lib.hid (K2.out.grown hg3 (by omega))
    have G3 := Lib.hid (G2.out.trans hg3)
    have HR3 := Lib.hid hR3
    clear hR3 hg3
    go_wp2_with fail
    refine (l1Sec3_any s hs _).mono ?_
    rintro e w4 ⟨⟨t, rfl, ht⟩, rfl⟩
    obtain ⟨y0, y1, y2, f0, f1, f2⟩ := blk3 K3.out
    go_wp2
    refine bodyPost_ret (v := .agg #[.bool false, .int .i64 v2, .string t]) (by simp [results, Try.results43, go_sem, y0, y1, y2]) rfl ⟨⟨false, v2, t⟩, q, rfl, ?_, by omega, ?_, ?_⟩
    · obtain ⟨k, rfl⟩ := Int.eq_ofNat_of_zero_le hv20
      exact slot_put (by omega) ht
    · exact ((HR3.out.set hBl 0 _).set hBl 1 _).set hBl 2 _
    · exact grown_set (grown_set (grown_set G3.out (Nat.le_refl _) 0 _) (Nat.le_refl _) 1 _) (Nat.le_refl _) 2 _

end Go.Proofs.Ytifgoanicbaohaa

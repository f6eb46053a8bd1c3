/- Whether pointers that have a place together are the same, of the program. Conditions: none but the row's own bound on sizes. -/
import Derived.Test.YtceielkcplcccaaGreatDoorPKU5
namespace Go.Proofs.YtceielkcplcccaaGreatDoor
open Go.RowKit Go.Sort

/-- TWO POINTERS CLASH: they have a place together, and are not the same. -/
def Clash (p q : PtrD) : Prop := Meet p.places q.places ∧ ¬Same p q

set_option maxRecDepth 100000 in
set_option maxHeartbeats 1000000 in
theorem apart1_any (B : Nat) (p : PtrD) (a : Option Addr) (cap : Nat) (w : World) (hl : p.places.length ≤ maxLen) (hx : Hid (PlacesAt w a p.places))
    (h0 : w.cell? ⟨B, 0, none⟩ = some (.int .i64 p.size)) (h1 : w.cell? ⟨B, 1, none⟩ = some (.int .i64 p.sum)) (h2 : w.cell? ⟨B, 2, none⟩ = some (.slice a p.places.length cap)) : PtPred 69 (.pointer (some ⟨B, 0, none⟩)) (fun q => Clash p q) w := by
  intro W q u hB hu
  have c0 := cell_below hB h0
  have c1 := cell_below hB h1
  have c2 := cell_below hB h2
  have hX := Lib.hid (hx.out.below hB)
  clear h0 h1 h2 hB hx
  obtain ⟨z, s, ps⟩ := p
  obtain ⟨z2, s2, qs⟩ := q
  obtain ⟨a2, cap2, rfl, hc2, hm2, hx2⟩ := hu
  simp only at *
  have hl2 : qs.length ≤ maxLen := by omega
  have hBa : Below W.heap.size W (W.alloc (.cells #[.int .i64 z2, .int .i64 s2, .slice a2 qs.length cap2] 65)) := (Below.refl _ _).alloc (Nat.le_refl _) _
  have HBa := Lib.hid hBa
  have HX := Lib.hid (hX.out.below hBa)
  have HX2 := Lib.hid (hx2.below hBa)
  have hlt : B < W.heap.size := World.block_lt_of_cell? W _ c0
  have k0 := cell_below hBa c0
  have k1 := cell_below hBa c1
  have k2 := cell_below hBa c2
  have m0 : (W.alloc (.cells #[.int .i64 z2, .int .i64 s2, .slice a2 qs.length cap2] 65)).cell? ⟨W.heap.size, 0, none⟩ = some (.int .i64 z2) := by rw [World.cell?_alloc_mark]; rfl
  have m1 : (W.alloc (.cells #[.int .i64 z2, .int .i64 s2, .slice a2 qs.length cap2] 65)).cell? ⟨W.heap.size, 1, none⟩ = some (.int .i64 s2) := by rw [World.cell?_alloc_mark]; rfl
  have m2 : (W.alloc (.cells #[.int .i64 z2, .int .i64 s2, .slice a2 qs.length cap2] 65)).cell? ⟨W.heap.size, 2, none⟩ = some (.slice a2 qs.length cap2) := by rw [World.cell?_alloc_mark]; rfl
  have HM := Lib.hid (meets_any z s z2 s2 a a2 cap cap2 ps qs _ hl hl2 HX HX2)
  by_cases hm : Meet ps qs
  · rw [tt_true hm] at HM
    have HF : Hid (tt (Clash ⟨z, s, ps⟩ ⟨z2, s2, qs⟩) = !(tt (Same ⟨z, s, ps⟩ ⟨z2, s2, qs⟩))) := by
      show tt (Clash ⟨z, s, ps⟩ ⟨z2, s2, qs⟩) = !(tt (Same ⟨z, s, ps⟩ ⟨z2, s2, qs⟩))
      by_cases hs : Same ⟨z, s, ps⟩ ⟨z2, s2, qs⟩
      · rw [tt_true hs, tt_false (fun h => h.2 hs)]; rfl
      · rw [tt_false hs, tt_true ⟨hm, hs⟩]; rfl
    clear hm
    go_enter Tryz.func69, Tryz.ntmps69
    go_wp2_with fail
    refine HM.out.mono ?_
    rintro e w2 ⟨rfl, hB2⟩
    have c0' := cell_below hB2 k0
    have c1' := cell_below hB2 k1
    have c2' := cell_below hB2 k2
    have n0 := cell_below hB2 m0
    have n1 := cell_below hB2 m1
    have n2 := cell_below hB2 m2
    have HX' := Lib.hid (HX.out.below hB2)
    have HX2' := Lib.hid (HX2.out.below hB2)
    have HB2 := Lib.hid (HBa.out.trans (hB2.mono HBa.out.size))
    clear hB2 k0 k1 k2 m0 m1 m2 hBa hx2 c0 c1 c2
    go_wp2_with fail
    refine (isSame_any z s z2 s2 a a2 cap cap2 ps qs _ hl hl2 HX' HX2').mono ?_
    rintro e w3 ⟨rfl, hB3⟩
    generalize tt (Same ⟨z, s, ps⟩ ⟨z2, s2, qs⟩) = bs at HF ⊢
    go_wp2
    go_ret
    exact ⟨ret_bool' HF.out.symm, HB2.out.trans (hB3.mono HB2.out.size)⟩
  · rw [tt_false hm] at HM
    have HF := Lib.hid (tt_false (P := Clash ⟨z, s, ps⟩ ⟨z2, s2, qs⟩) (fun h => hm h.1))
    clear hm
    go_enter Tryz.func69, Tryz.ntmps69
    go_wp2_with fail
    refine HM.out.mono ?_
    rintro e w2 ⟨rfl, hB2⟩
    clear k0 k1 k2 m0 m1 m2 hBa hx2 c0 c1 c2
    go_wp2
    go_ret
    exact ⟨ret_bool' HF.out.symm, HBa.out.trans (hB2.mono HBa.out.size)⟩

/-- POINTERS THAT HAVE A PLACE TOGETHER ARE THE SAME. -/
def Apart (ps : List PtrD) : Prop := ∀ i, i < ps.length → ∀ k, k < i → ¬Clash (ps.getD i ptr0) (ps.getD k ptr0)

set_option maxRecDepth 100000 in
set_option maxHeartbeats 1000000 in
theorem areApart_any (a : Option Addr) (cap : Nat) (ps : List PtrD) (w : World) (hl : ps.length ≤ cap) (hcm : cap ≤ maxLen) (hx : Hid (PtrsAt w a ps)) :
    Calls Tryz.prog 47 #[.slice a ps.length cap] w fun e w' => e = .returned (.bool (tt (Apart ps))) ∧ Below w.heap.size w w' := by
  have hcm' := hcm
  unfold maxLen at hcm
  go_enter Tryz.func47, Tryz.ntmps47
  go_wp2_with fail
  go_loopw [8] (fun i wr => ∃ k : Nat, i = .int .i64 (k : Int) ∧ k ≤ ps.length ∧ Hid (Below w.heap.size w wr) ∧ Hid (∀ i, i < k → ∀ j, j < i → ¬Clash (ps.getD i ptr0) (ps.getD j ptr0))) (fun i _ => ps.length - (intOf i).toNat)
  case atStart => exact ⟨0, rfl, by omega, Below.refl _ _, fun j hj => by omega⟩
  case round =>
    obtain ⟨k, rfl, hk, hB, hall⟩ := hrel
    by_cases hlt : k < ps.length
    · obtain ⟨b, off, rfl, hc⟩ := (hx.out.below hB.out).resolve_left (fun e => by subst e; simp at hlt)
      obtain ⟨e0, e1, u, e2, hu⟩ := hc k hlt
      clear hc
      generalize hg : ps.getD k ptr0 = p at e0 e1 hu
      have Hg := Lib.hid hg
      clear hg
      obtain ⟨a1, cap1, rfl, hc1, hm1, hx1⟩ := hu
      have hBa : Below wr.heap.size wr (wr.alloc (.cells #[.int .i64 p.size, .int .i64 p.sum, .slice a1 p.places.length cap1] 65)) := (Below.refl _ _).alloc (Nat.le_refl _) _
      have HB1 := Lib.hid (hB.out.trans (hBa.mono hB.out.size))
      have hlk : (ps.take k).length = k := by rw [List.length_take]; omega
      have HQ := Lib.hid (containsFuncPt_any 69 (.pointer (some ⟨wr.heap.size, 0, none⟩)) (fun q => Clash p q) (some ⟨b, off, none⟩) cap (ps.take k) (wr.alloc (.cells #[.int .i64 p.size, .int .i64 p.sum, .slice a1 p.places.length cap1] 65)) (enters_of Tryz.func69 (by kernel_rfl) rfl)
        (apart1_any wr.heap.size p a1 cap1 _ (by omega) (hx1.below hBa) (by rw [World.cell?_alloc_mark]; rfl) (by rw [World.cell?_alloc_mark]; rfl) (by rw [World.cell?_alloc_mark]; rfl)) (by rw [hlk]; omega) ((hx.out.below HB1.out).take k))
      rw [hlk] at HQ
      clear hBa hx1 hlk
      by_cases hP : ∃ j, j < k ∧ Clash p ((ps.take k).getD j ptr0)
      · rw [tt_true hP] at HQ
        have HF := Lib.hid (tt_false (P := Apart ps) (fun h => by
          obtain ⟨j, hj, hcl⟩ := hP
          rw [take_get _ _ _ _ hj] at hcl
          exact h k hlt j hj (by rw [Hg.out]; exact hcl)))
        clear hP
        obtain ⟨z, s, qs⟩ := p
        simp only at e0 e1 e2 HQ
        go_wp2_with fail
        refine HQ.out.mono ?_
        rintro e w2 ⟨rfl, hB2⟩
        go_wp2
        go_ret
        exact ⟨ret_bool' HF.out.symm, HB1.out.trans (hB2.mono HB1.out.size)⟩
      · rw [tt_false hP] at HQ
        have HN : Hid (∀ i, i < k + 1 → ∀ j, j < i → ¬Clash (ps.getD i ptr0) (ps.getD j ptr0)) := fun i hi j hj => by
          by_cases e : i = k
          · subst e
            rw [Hg.out]
            exact fun h => hP ⟨j, hj, by rw [take_get _ _ _ _ hj]; exact h⟩
          · exact hall.out i (by omega) j hj
        clear hP
        obtain ⟨z, s, qs⟩ := p
        simp only at e0 e1 e2 HQ HB1
        go_wp2_with fail
        refine HQ.out.mono ?_
        rintro e w2 ⟨rfl, hB2⟩
        have HB2 := Lib.hid (HB1.out.trans (hB2.mono HB1.out.size))
        clear hB2
        go_wp2
        exact ⟨⟨k + 1, by go_num, by omega, HB2, HN⟩, by simp [intOf]; omega⟩
    · have HF := Lib.hid (tt_true (P := Apart ps) (fun i hi j hj => hall.out i (by omega) j hj))
      go_wp2
      go_ret
      exact ⟨ret_bool' HF.out.symm, hB.out⟩

end Go.Proofs.YtceielkcplcccaaGreatDoor

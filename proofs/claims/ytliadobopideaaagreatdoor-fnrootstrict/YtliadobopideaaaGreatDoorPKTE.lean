/- Texts that are equal or not. Conditions: none. The library's searches over pointers and volumes by a function; whether pointers that have a place together are the same. Conditions: none but the row's own bound on sizes. Whether pointers that have a place together are the same, of the program. Conditions: none but the row's own bound on sizes. Volumes that are ok, and RootOk of the program. Conditions: none but the row's own bound on sizes. -/
import Derived.WalkKit
import Derived.Test.YtliadobopideaaaGreatDoorRows
import Derived.Test.YtliadobopideaaaGreatDoorPKS5
namespace Go.Proofs.YtliadobopideaaaGreatDoor
open Go.RowKit

theorem text_yes {a b : ByteArray} (h : a = b) : (a.toList == b.toList) = true := by rw [h]; exact beq_self_eq_true _
theorem text_no {a b : ByteArray} (h : a ≠ b) : (a.toList == b.toList) = false := by
  rw [beq_eq_false_iff_ne]
  intro e
  rw [ByteArray.toList_eq, ByteArray.toList_eq] at e
  exact h (ByteArray.ext (Array.toList_inj.1 e))

end Go.Proofs.YtliadobopideaaaGreatDoor

namespace Go.Proofs.YtliadobopideaaaGreatDoor
open Go.RowKit Go.Sort

/-- WHAT IS ASKED OF A PREDICATE over pointers that may lay boxes of its own. -/
def PtPred (g : Nat) (c : Value) (P : PtrD → Prop) (w : World) : Prop :=
  ∀ (W : World) (q : PtrD) (u : Value), Below w.heap.size w W → PlacesV W u q.places → Calls Tryz.prog g #[.agg #[.int .i64 q.size, .int .i64 q.sum, u], c] W fun e w' => e = .returned (.bool (tt (P q))) ∧ Below W.heap.size W w'

set_option maxRecDepth 100000 in
set_option maxHeartbeats 1000000 in
theorem indexFuncPt_any (g : Nat) (c : Value) (P : PtrD → Prop) (a : Option Addr) (cap : Nat) (ps : List PtrD) (w : World) (eg : ∀ args w, (callFunc g args).run Tryz.prog w = .ok (.enter g args) w) (hp : Hid (PtPred g c P w)) (hl : ps.length ≤ maxLen) (hx : Hid (PtrsAt w a ps)) :
    Calls Tryz.prog 99 #[.slice a ps.length cap, .func (.func g) #[] #[c]] w (Found (∃ j, j < ps.length ∧ P (ps.getD j ptr0)) w) := by
  unfold maxLen at hl
  go_enter Tryz.func99, Tryz.ntmps99
  go_wp2_with fail
  go_loopw [8] (fun i wr => ∃ k : Nat, i = .int .i64 (k : Int) ∧ k ≤ ps.length ∧ Hid (Below w.heap.size w wr) ∧ Hid (∀ j, j < k → ¬P (ps.getD j ptr0))) (fun i _ => ps.length - (intOf i).toNat)
  case atStart => exact ⟨0, rfl, by omega, Below.refl _ _, fun j hj => by omega⟩
  case round =>
    obtain ⟨k, rfl, hk, hB, hall⟩ := hrel
    by_cases hlt : k < ps.length
    · obtain ⟨b, off, rfl, hc⟩ := (hx.out.below hB.out).resolve_left (fun e => by subst e; simp at hlt)
      obtain ⟨e0, e1, u, e2, hu⟩ := hc k hlt
      clear hc
      generalize hg : ps.getD k ptr0 = q at e0 e1 hu
      have Hg := Lib.hid hg
      clear hg
      have HC := Lib.hid (hp.out wr q u hB.out hu)
      obtain ⟨a1, cap1, rfl, _⟩ := hu
      by_cases hP : P q
      · rw [tt_true hP] at HC
        have HF : Hid (∃ j, j < ps.length ∧ P (ps.getD j ptr0)) := ⟨k, hlt, by rw [Hg.out]; exact hP⟩
        clear hP
        go_wp2_with fail
        refine HC.out.mono ?_
        rintro e w2 ⟨rfl, hB2⟩
        have HB2 := Lib.hid (hB.out.trans (hB2.mono hB.out.size))
        clear hB2
        go_wp2
        go_ret
        exact ⟨⟨_, rfl, fun _ => HF.out, fun _ => by omega⟩, HB2.out⟩
      · rw [tt_false hP] at HC
        have HN : Hid (∀ j, j < k + 1 → ¬P (ps.getD j ptr0)) := fun j hj => by
          by_cases e : j = k
          · subst e; rw [Hg.out]; exact hP
          · exact hall.out j (by omega)
        clear hP
        go_wp2_with fail
        refine HC.out.mono ?_
        rintro e w2 ⟨rfl, hB2⟩
        have HB2 := Lib.hid (hB.out.trans (hB2.mono hB.out.size))
        clear hB2
        go_wp2
        exact ⟨⟨k + 1, by go_num, by omega, HB2, HN⟩, by simp [intOf]; omega⟩
    · have HF : Hid (¬∃ j, j < ps.length ∧ P (ps.getD j ptr0)) := fun ⟨j, hj, h⟩ => hall.out j (by omega) h
      go_wp2
      go_ret
      exact ⟨⟨_, rfl, fun h => by omega, fun h => (HF.out h).elim⟩, hB.out⟩

set_option maxHeartbeats 400000 in
theorem containsFuncPt_any (g : Nat) (c : Value) (P : PtrD → Prop) (a : Option Addr) (cap : Nat) (ps : List PtrD) (w : World) (eg : ∀ args w, (callFunc g args).run Tryz.prog w = .ok (.enter g args) w) (hp : Hid (PtPred g c P w)) (hl : ps.length ≤ maxLen) (hx : Hid (PtrsAt w a ps)) :
    Calls Tryz.prog 69 #[.slice a ps.length cap, .func (.func g) #[] #[c]] w fun e w' => e = .returned (.bool (tt (∃ j, j < ps.length ∧ P (ps.getD j ptr0)))) ∧ Below w.heap.size w w' := by
  have HI := Lib.hid (indexFuncPt_any g c P a cap ps w eg hp hl hx)
  clear eg
  go_enter Tryz.func69, Tryz.ntmps69
  go_wp2_with fail
  refine HI.out.mono ?_
  rintro e w1 ⟨⟨z, rfl, hz⟩, hB1⟩
  have HF := Lib.hid (found_bool hz)
  clear hz
  go_wp2
  go_ret
  exact ⟨ret_bool' HF.out, hB1⟩

/-- WHAT IS ASKED OF A PREDICATE over volumes that may lay boxes of its own. -/
def VoPred (g : Nat) (c : Value) (P : VolD → Prop) (w : World) : Prop :=
  ∀ (W : World) (q : VolD) (u : Value), Below w.heap.size w W → PtrsV W u q.blocks → Calls Tryz.prog g #[.agg #[.string q.name, u], c] W fun e w' => e = .returned (.bool (tt (P q))) ∧ Below W.heap.size W w'

set_option maxRecDepth 100000 in
set_option maxHeartbeats 1000000 in
theorem indexFuncVo_any (g : Nat) (c : Value) (P : VolD → Prop) (a : Option Addr) (cap : Nat) (ps : List VolD) (w : World) (eg : ∀ args w, (callFunc g args).run Tryz.prog w = .ok (.enter g args) w) (hp : Hid (VoPred g c P w)) (hl : ps.length ≤ maxLen) (hx : Hid (VolsAt w a ps)) :
    Calls Tryz.prog 98 #[.slice a ps.length cap, .func (.func g) #[] #[c]] w (Found (∃ j, j < ps.length ∧ P (ps.getD j vol0)) w) := by
  unfold maxLen at hl
  go_enter Tryz.func98, Tryz.ntmps98
  go_wp2_with fail
  go_loopw [8] (fun i wr => ∃ k : Nat, i = .int .i64 (k : Int) ∧ k ≤ ps.length ∧ Hid (Below w.heap.size w wr) ∧ Hid (∀ j, j < k → ¬P (ps.getD j vol0))) (fun i _ => ps.length - (intOf i).toNat)
  case atStart => exact ⟨0, rfl, by omega, Below.refl _ _, fun j hj => by omega⟩
  case round =>
    obtain ⟨k, rfl, hk, hB, hall⟩ := hrel
    by_cases hlt : k < ps.length
    · obtain ⟨b, off, rfl, hc⟩ := (hx.out.below hB.out).resolve_left (fun e => by subst e; simp at hlt)
      obtain ⟨e0, u, e1, hu⟩ := hc k hlt
      clear hc
      generalize hg : ps.getD k vol0 = q at e0 hu
      have Hg := Lib.hid hg
      clear hg
      have HC := Lib.hid (hp.out wr q u hB.out hu)
      obtain ⟨a1, cap1, rfl, _⟩ := hu
      by_cases hP : P q
      · rw [tt_true hP] at HC
        have HF : Hid (∃ j, j < ps.length ∧ P (ps.getD j vol0)) := ⟨k, hlt, by rw [Hg.out]; exact hP⟩
        clear hP
        go_wp2_with fail
        refine HC.out.mono ?_
        rintro e w2 ⟨rfl, hB2⟩
        have HB2 := Lib.hid (hB.out.trans (hB2.mono hB.out.size))
        clear hB2
        go_wp2
        go_ret
        exact ⟨⟨_, rfl, fun _ => HF.out, fun _ => by omega⟩, HB2.out⟩
      · rw [tt_false hP] at HC
        have HN : Hid (∀ j, j < k + 1 → ¬P (ps.getD j vol0)) := fun j hj => by
          by_cases e : j = k
          · subst e; rw [Hg.out]; exact hP
          · exact hall.out j (by omega)
        clear hP
        go_wp2_with fail
        refine HC.out.mono ?_
        rintro e w2 ⟨rfl, hB2⟩
        have HB2 := Lib.hid (hB.out.trans (hB2.mono hB.out.size))
        clear hB2
        go_wp2
        exact ⟨⟨k + 1, by go_num, by omega, HB2, HN⟩, by simp [intOf]; omega⟩
    · have HF : Hid (¬∃ j, j < ps.length ∧ P (ps.getD j vol0)) := fun ⟨j, hj, h⟩ => hall.out j (by omega) h
      go_wp2
      go_ret
      exact ⟨⟨_, rfl, fun h => by omega, fun h => (HF.out h).elim⟩, hB.out⟩

set_option maxHeartbeats 400000 in
theorem containsFuncVo_any (g : Nat) (c : Value) (P : VolD → Prop) (a : Option Addr) (cap : Nat) (ps : List VolD) (w : World) (eg : ∀ args w, (callFunc g args).run Tryz.prog w = .ok (.enter g args) w) (hp : Hid (VoPred g c P w)) (hl : ps.length ≤ maxLen) (hx : Hid (VolsAt w a ps)) :
    Calls Tryz.prog 68 #[.slice a ps.length cap, .func (.func g) #[] #[c]] w fun e w' => e = .returned (.bool (tt (∃ j, j < ps.length ∧ P (ps.getD j vol0)))) ∧ Below w.heap.size w w' := by
  have HI := Lib.hid (indexFuncVo_any g c P a cap ps w eg hp hl hx)
  clear eg
  go_enter Tryz.func68, Tryz.ntmps68
  go_wp2_with fail
  refine HI.out.mono ?_
  rintro e w1 ⟨⟨z, rfl, hz⟩, hB1⟩
  have HF := Lib.hid (found_bool hz)
  clear hz
  go_wp2
  go_ret
  exact ⟨ret_bool' HF.out, hB1⟩

theorem PtrsAt.take {w : World} {a : Option Addr} {ps : List PtrD} (h : PtrsAt w a ps) (k : Nat) : PtrsAt w a (ps.take k) := by
  rcases h with rfl | ⟨b, off, e, hc⟩
  · exact .inl (by simp)
  · refine .inr ⟨b, off, e, fun j hj => ?_⟩
    rw [List.length_take] at hj
    have := hc j (by omega)
    rw [take_get _ _ _ _ (by omega)]
    exact this
theorem VolsAt.take {w : World} {a : Option Addr} {ps : List VolD} (h : VolsAt w a ps) (k : Nat) : VolsAt w a (ps.take k) := by
  rcases h with rfl | ⟨b, off, e, hc⟩
  · exact .inl (by simp)
  · refine .inr ⟨b, off, e, fun j hj => ?_⟩
    rw [List.length_take] at hj
    have := hc j (by omega)
    rw [take_get _ _ _ _ (by omega)]
    exact this

end Go.Proofs.YtliadobopideaaaGreatDoor

namespace Go.Proofs.YtliadobopideaaaGreatDoor
open Go.RowKit Go.Sort

/-- TWO POINTERS CLASH: they have a place together, and are not the same. -/
def Clash (p q : PtrD) : Prop := Meet p.places q.places ∧ ¬Same p q

set_option maxRecDepth 100000 in
set_option maxHeartbeats 1000000 in
theorem apart1_any (B : Nat) (p : PtrD) (a : Option Addr) (cap : Nat) (w : World) (hl : p.places.length ≤ maxLen) (hx : Hid (PlacesAt w a p.places))
    (h0 : w.cell? ⟨B, 0, none⟩ = some (.int .i64 p.size)) (h1 : w.cell? ⟨B, 1, none⟩ = some (.int .i64 p.sum)) (h2 : w.cell? ⟨B, 2, none⟩ = some (.slice a p.places.length cap)) : PtPred 70 (.pointer (some ⟨B, 0, none⟩)) (fun q => Clash p q) w := by
  intro W q u hB hu
  have c0 := cell_below hB h0
  have c1 := cell_below hB h1
  have c2 := cell_below hB h2
  have hX := Lib.hid (hx.out.below hB)
  clear h0 h1 h2 hB hx
  obtain ⟨z, s, ps⟩ := p
  obtain ⟨z2, s2, qs⟩ := q
  obtain ⟨a2, cap2, rfl, hc2, hm2, hx2⟩ := hu
  simp only at *
  have hl2 : qs.length ≤ maxLen := by omega
  have hBa : Below W.heap.size W (W.alloc (.cells #[.int .i64 z2, .int .i64 s2, .slice a2 qs.length cap2] 54)) := (Below.refl _ _).alloc (Nat.le_refl _) _
  have HBa := Lib.hid hBa
  have HX := Lib.hid (hX.out.below hBa)
  have HX2 := Lib.hid (hx2.below hBa)
  have hlt : B < W.heap.size := World.block_lt_of_cell? W _ c0
  have k0 := cell_below hBa c0
  have k1 := cell_below hBa c1
  have k2 := cell_below hBa c2
  have m0 : (W.alloc (.cells #[.int .i64 z2, .int .i64 s2, .slice a2 qs.length cap2] 54)).cell? ⟨W.heap.size, 0, none⟩ = some (.int .i64 z2) := by rw [World.cell?_alloc_mark]; rfl
  have m1 : (W.alloc (.cells #[.int .i64 z2, .int .i64 s2, .slice a2 qs.length cap2] 54)).cell? ⟨W.heap.size, 1, none⟩ = some (.int .i64 s2) := by rw [World.cell?_alloc_mark]; rfl
  have m2 : (W.alloc (.cells #[.int .i64 z2, .int .i64 s2, .slice a2 qs.length cap2] 54)).cell? ⟨W.heap.size, 2, none⟩ = some (.slice a2 qs.length cap2) := by rw [World.cell?_alloc_mark]; rfl
  have HM := Lib.hid (meets_any z s z2 s2 a a2 cap cap2 ps qs _ hl hl2 HX HX2)
  by_cases hm : Meet ps qs
  · rw [tt_true hm] at HM
    have HF : Hid (tt (Clash ⟨z, s, ps⟩ ⟨z2, s2, qs⟩) = !(tt (Same ⟨z, s, ps⟩ ⟨z2, s2, qs⟩))) := by
      show tt (Clash ⟨z, s, ps⟩ ⟨z2, s2, qs⟩) = !(tt (Same ⟨z, s, ps⟩ ⟨z2, s2, qs⟩))
      by_cases hs : Same ⟨z, s, ps⟩ ⟨z2, s2, qs⟩
      · rw [tt_true hs, tt_false (fun h => h.2 hs)]; rfl
      · rw [tt_false hs, tt_true ⟨hm, hs⟩]; rfl
    clear hm
    go_enter Tryz.func70, Tryz.ntmps70
    go_wp2_with fail
    refine HM.out.mono ?_
    rintro e w2 ⟨rfl, hB2⟩
    have c0' := cell_below hB2 k0
    have c1' := cell_below hB2 k1
    have c2' := cell_below hB2 k2
    have n0 := cell_below hB2 m0
    have n1 := cell_below hB2 m1
    have n2 := cell_below hB2 m2
    have HX' := Lib.hid (HX.out.below hB2)
    have HX2' := Lib.hid (HX2.out.below hB2)
    have HB2 := Lib.hid (HBa.out.trans (hB2.mono HBa.out.size))
    clear hB2 k0 k1 k2 m0 m1 m2 hBa hx2 c0 c1 c2
    go_wp2_with fail
    refine (isSame_any z s z2 s2 a a2 cap cap2 ps qs _ hl hl2 HX' HX2').mono ?_
    rintro e w3 ⟨rfl, hB3⟩
    generalize tt (Same ⟨z, s, ps⟩ ⟨z2, s2, qs⟩) = bs at HF ⊢
    go_wp2
    go_ret
    exact ⟨ret_bool' HF.out.symm, HB2.out.trans (hB3.mono HB2.out.size)⟩
  · rw [tt_false hm] at HM
    have HF := Lib.hid (tt_false (P := Clash ⟨z, s, ps⟩ ⟨z2, s2, qs⟩) (fun h => hm h.1))
    clear hm
    go_enter Tryz.func70, Tryz.ntmps70
    go_wp2_with fail
    refine HM.out.mono ?_
    rintro e w2 ⟨rfl, hB2⟩
    clear k0 k1 k2 m0 m1 m2 hBa hx2 c0 c1 c2
    go_wp2
    go_ret
    exact ⟨ret_bool' HF.out.symm, HBa.out.trans (hB2.mono HBa.out.size)⟩

/-- POINTERS THAT HAVE A PLACE TOGETHER ARE THE SAME. -/
def Apart (ps : List PtrD) : Prop := ∀ i, i < ps.length → ∀ k, k < i → ¬Clash (ps.getD i ptr0) (ps.getD k ptr0)

set_option maxRecDepth 100000 in
set_option maxHeartbeats 1000000 in
theorem areApart_any (a : Option Addr) (cap : Nat) (ps : List PtrD) (w : World) (hl : ps.length ≤ cap) (hcm : cap ≤ maxLen) (hx : Hid (PtrsAt w a ps)) :
    Calls Tryz.prog 35 #[.slice a ps.length cap] w fun e w' => e = .returned (.bool (tt (Apart ps))) ∧ Below w.heap.size w w' := by
  have hcm' := hcm
  unfold maxLen at hcm
  go_enter Tryz.func35, Tryz.ntmps35
  go_wp2_with fail
  go_loopw [8] (fun i wr => ∃ k : Nat, i = .int .i64 (k : Int) ∧ k ≤ ps.length ∧ Hid (Below w.heap.size w wr) ∧ Hid (∀ i, i < k → ∀ j, j < i → ¬Clash (ps.getD i ptr0) (ps.getD j ptr0))) (fun i _ => ps.length - (intOf i).toNat)
  case atStart => exact ⟨0, rfl, by omega, Below.refl _ _, fun j hj => by omega⟩
  case round =>
    obtain ⟨k, rfl, hk, hB, hall⟩ := hrel
    by_cases hlt : k < ps.length
    · obtain ⟨b, off, rfl, hc⟩ := (hx.out.below hB.out).resolve_left (fun e => by subst e; simp at hlt)
      obtain ⟨e0, e1, u, e2, hu⟩ := hc k hlt
      clear hc
      generalize hg : ps.getD k ptr0 = p at e0 e1 hu
      have Hg := Lib.hid hg
      clear hg
      obtain ⟨a1, cap1, rfl, hc1, hm1, hx1⟩ := hu
      have hBa : Below wr.heap.size wr (wr.alloc (.cells #[.int .i64 p.size, .int .i64 p.sum, .slice a1 p.places.length cap1] 54)) := (Below.refl _ _).alloc (Nat.le_refl _) _
      have HB1 := Lib.hid (hB.out.trans (hBa.mono hB.out.size))
      have hlk : (ps.take k).length = k := by rw [List.length_take]; omega
      have HQ := Lib.hid (containsFuncPt_any 70 (.pointer (some ⟨wr.heap.size, 0, none⟩)) (fun q => Clash p q) (some ⟨b, off, none⟩) cap (ps.take k) (wr.alloc (.cells #[.int .i64 p.size, .int .i64 p.sum, .slice a1 p.places.length cap1] 54)) (enters_of Tryz.func70 (by kernel_rfl) rfl)
        (apart1_any wr.heap.size p a1 cap1 _ (by omega) (hx1.below hBa) (by rw [World.cell?_alloc_mark]; rfl) (by rw [World.cell?_alloc_mark]; rfl) (by rw [World.cell?_alloc_mark]; rfl)) (by rw [hlk]; omega) ((hx.out.below HB1.out).take k))
      rw [hlk] at HQ
      clear hBa hx1 hlk
      by_cases hP : ∃ j, j < k ∧ Clash p ((ps.take k).getD j ptr0)
      · rw [tt_true hP] at HQ
        have HF := Lib.hid (tt_false (P := Apart ps) (fun h => by
          obtain ⟨j, hj, hcl⟩ := hP
          rw [take_get _ _ _ _ hj] at hcl
          exact h k hlt j hj (by rw [Hg.out]; exact hcl)))
        clear hP
        obtain ⟨z, s, qs⟩ := p
        simp only at e0 e1 e2 HQ
        go_wp2_with fail
        refine HQ.out.mono ?_
        rintro e w2 ⟨rfl, hB2⟩
        go_wp2
        go_ret
        exact ⟨ret_bool' HF.out.symm, HB1.out.trans (hB2.mono HB1.out.size)⟩
      · rw [tt_false hP] at HQ
        have HN : Hid (∀ i, i < k + 1 → ∀ j, j < i → ¬Clash (ps.getD i ptr0) (ps.getD j ptr0)) := fun i hi j hj => by
          by_cases e : i = k
          · subst e
            rw [Hg.out]
            exact fun h => hP ⟨j, hj, by rw [take_get _ _ _ _ hj]; exact h⟩
          · exact hall.out i (by omega) j hj
        clear hP
        obtain ⟨z, s, qs⟩ := p
        simp only at e0 e1 e2 HQ HB1
        go_wp2_with fail
        refine HQ.out.mono ?_
        rintro e w2 ⟨rfl, hB2⟩
        have HB2 := Lib.hid (HB1.out.trans (hB2.mono HB1.out.size))
        clear hB2
        go_wp2
        exact ⟨⟨k + 1, by go_num, by omega, HB2, HN⟩, by simp [intOf]; omega⟩
    · have HF := Lib.hid (tt_true (P := Apart ps) (fun i hi j hj => hall.out i (by omega) j hj))
      go_wp2
      go_ret
      exact ⟨ret_bool' HF.out.symm, hB.out⟩

end Go.Proofs.YtliadobopideaaaGreatDoor

namespace Go.Proofs.YtliadobopideaaaGreatDoor
open Go.RowKit Go.Sort

set_option maxRecDepth 100000 in
set_option maxHeartbeats 1000000 in
theorem twin_any (B : Nat) (nm : ByteArray) (w : World) (h0 : w.cell? ⟨B, 0, none⟩ = some (.string nm)) : VoPred 64 (.pointer (some ⟨B, 0, none⟩)) (fun q => q.name = nm) w := by
  intro W q u hB hu
  have c0 := cell_below hB h0
  clear h0 hB
  obtain ⟨nm2, bs⟩ := q
  obtain ⟨a2, cap2, rfl, _⟩ := hu
  simp only at *
  have hlt : B < W.heap.size := World.block_lt_of_cell? W _ c0
  have HB : Hid (Below W.heap.size W (W.alloc (.cells #[.string nm2, .slice a2 bs.length cap2] 51))) := (Below.refl _ _).alloc (Nat.le_refl _) _
  by_cases h : nm2 = nm
  · rw [tt_true h]
    have d := text_yes h
    clear h
    go_enter Tryz.func64, Tryz.ntmps64
    go_wp2
    go_ret
    exact ⟨rfl, HB.out⟩
  · rw [tt_false h]
    have d := text_no h
    clear h
    go_enter Tryz.func64, Tryz.ntmps64
    go_wp2
    go_ret
    exact ⟨rfl, HB.out⟩

set_option maxRecDepth 100000 in
set_option maxHeartbeats 1000000 in
theorem wrong_any (B : Nat) (n : Int) (w : World) (h0 : w.cell? ⟨B, 0, none⟩ = some (.int .i64 n)) : PtPred 65 (.pointer (some ⟨B, 0, none⟩)) (fun q => ¬PtrOkP n q) w := by
  intro W q u hB hu
  have c0 := cell_below hB h0
  clear h0 hB
  obtain ⟨a2, cap2, rfl, hc2, hm2, hx2⟩ := hu
  have hBa : Below W.heap.size W (W.alloc (.cells #[.int .i64 q.size, .int .i64 q.sum, .slice a2 q.places.length cap2] 54)) := (Below.refl _ _).alloc (Nat.le_refl _) _
  have HB := Lib.hid hBa
  have HC := Lib.hid (implPtr_any n q a2 cap2 _ (by omega) (hx2.below hBa))
  have HF : Hid (tt (¬PtrOkP n q) = !(tt (PtrOkP n q))) := by
    show tt (¬PtrOkP n q) = !(tt (PtrOkP n q))
    by_cases h : PtrOkP n q
    · rw [tt_true h, tt_false (fun k => k h)]; rfl
    · rw [tt_false h, tt_true h]; rfl
  have hlt : B < W.heap.size := World.block_lt_of_cell? W _ c0
  clear hBa hx2
  generalize tt (PtrOkP n q) = r at HC HF
  obtain ⟨z, s, qs⟩ := q
  simp only at HC HB
  go_enter Tryz.func65, Tryz.ntmps65
  go_wp2_with fail
  refine HC.out.mono ?_
  rintro e w2 ⟨rfl, hB2⟩
  go_wp2
  go_ret
  exact ⟨ret_bool' HF.out.symm, HB.out.trans (hB2.mono HB.out.size)⟩

/-- A VOLUME IS OK, beside those ahead of it. -/
def VolFine (n : Int) (vs : List VolD) (k : Nat) : Prop :=
  NameOk (vs.getD k vol0).name ∧ (∀ i, i < k → (vs.getD i vol0).name ≠ (vs.getD k vol0).name) ∧ (vs.getD k vol0).blocks.length = 3 ∧ ∀ j, j < (vs.getD k vol0).blocks.length → PtrOkP n ((vs.getD k vol0).blocks.getD j ptr0)
def VolsFine (n : Int) (vs : List VolD) : Prop := vs.length ≤ 4 ∧ ∀ k, k < vs.length → VolFine n vs k

set_option maxRecDepth 100000 in
set_option maxHeartbeats 2000000 in
theorem areVols_any (n : Int) (a : Option Addr) (cap : Nat) (vs : List VolD) (w : World) (hl : vs.length ≤ cap) (hnm : Hid (∀ j, j < vs.length → (vs.getD j vol0).name.size ≤ maxLen)) (hx : Hid (VolsAt w a vs)) :
    Calls Tryz.prog 34 #[.int .i64 n, .slice a vs.length cap] w fun e w' => e = .returned (.bool (tt (VolsFine n vs))) ∧ Below w.heap.size w w' := by
  have hB0 : Below w.heap.size w (w.alloc (.cells #[.int .i64 n] 3)) := (Below.refl _ _).alloc (Nat.le_refl _) _
  have HB0 := Lib.hid hB0
  have HX := Lib.hid (hx.out.below hB0)
  have Hc : Hid ((w.alloc (.cells #[.int .i64 n] 3)).cell? ⟨w.heap.size, 0, none⟩ = some (.int .i64 n)) := by
    show (w.alloc (.cells #[.int .i64 n] 3)).cell? ⟨w.heap.size, 0, none⟩ = _
    rw [World.cell?_alloc_mark]; rfl
  clear hB0
  by_cases h4 : 4 < vs.length
  · have d4 : decide (4 < (vs.length : Int)) = true := by simp; omega
    have HF := Lib.hid (tt_false (P := VolsFine n vs) (fun h => by have := h.1; omega))
    clear Hc
    go_enter Tryz.func34, Tryz.ntmps34
    go_wp2
    go_ret
    exact ⟨ret_bool' HF.out.symm, HB0.out⟩
  · have d4 : decide (4 < (vs.length : Int)) = false := by simp; omega
    go_enter Tryz.func34, Tryz.ntmps34
    go_wp2_with fail
    generalize w.alloc (.cells #[.int .i64 n] 3) = w1 at HB0 HX Hc ⊢
    go_loopw [14] (fun i wr => ∃ k : Nat, i = .int .i64 (k : Int) ∧ k ≤ vs.length ∧ Hid (Below w1.heap.size w1 wr) ∧ Hid (∀ i, i < k → VolFine n vs i)) (fun i _ => vs.length - (intOf i).toNat)
    case atStart => exact ⟨0, rfl, by omega, Below.refl _ _, fun j hj => by omega⟩
    case round =>
      obtain ⟨k, rfl, hk, hB, hall⟩ := hrel
      by_cases hlt : k < vs.length
      · obtain ⟨b, off, rfl, hc⟩ := (HX.out.below hB.out).resolve_left (fun e => by subst e; simp at hlt)
        obtain ⟨e0, u, e1, hu⟩ := hc k hlt
        have hns := hnm.out k hlt
        clear hc
        have HV := Lib.hid (show VolFine n vs k ↔ NameOk (vs.getD k vol0).name ∧ (∀ i, i < k → (vs.getD i vol0).name ≠ (vs.getD k vol0).name) ∧ (vs.getD k vol0).blocks.length = 3 ∧ ∀ j, j < (vs.getD k vol0).blocks.length → PtrOkP n ((vs.getD k vol0).blocks.getD j ptr0) from Iff.rfl)
        have HF := Lib.hid (show ¬VolFine n vs k → tt (VolsFine n vs) = false from fun h => tt_false (fun q => h (q.2 k hlt)))
        have HN : Hid (VolFine n vs k → ∀ i, i < k + 1 → VolFine n vs i) := fun h i hi => by
          by_cases e : i = k
          · rw [e]; exact h
          · exact hall.out i (by omega)
        generalize vs.getD k vol0 = p at e0 e1 hu hns HV
        obtain ⟨nm, bs⟩ := p
        obtain ⟨a1, cap1, rfl, hc1, hm1, hx1⟩ := hu
        simp only at e0 e1 hns HV hc1 hx1
        have hBa : Below wr.heap.size wr (wr.alloc (.cells #[.string nm, .slice a1 bs.length cap1] 51)) := (Below.refl _ _).alloc (Nat.le_refl _) _
        have HB1 := Lib.hid (hB.out.trans (hBa.mono hB.out.size))
        have HX1 := Lib.hid (hx1.below hBa)
        have HI := Lib.hid (fun w' => isName_any nm w' hns)
        have k0 : (wr.alloc (.cells #[.string nm, .slice a1 bs.length cap1] 51)).cell? ⟨wr.heap.size, 0, none⟩ = some (.string nm) := by rw [World.cell?_alloc_mark]; rfl
        have k1 : (wr.alloc (.cells #[.string nm, .slice a1 bs.length cap1] 51)).cell? ⟨wr.heap.size, 1, none⟩ = some (.slice a1 bs.length cap1) := by rw [World.cell?_alloc_mark]; rfl
        have hsz := hB.out.size
        have K0 := Lib.hid k0
        have K1 := Lib.hid k1
        clear hBa hx1 k0 k1
        by_cases h1 : NameOk nm
        · rw [tt_true h1] at HI
          have hlk : (vs.take k).length = k := by rw [List.length_take]; omega
          have HQ := Lib.hid (containsFuncVo_any 64 (.pointer (some ⟨wr.heap.size, 0, none⟩)) (fun q => q.name = nm) (some ⟨b, off, none⟩) cap (vs.take k) (wr.alloc (.cells #[.string nm, .slice a1 bs.length cap1] 51)) (enters_of Tryz.func64 (by kernel_rfl) rfl)
            (twin_any wr.heap.size nm _ K0.out) (by rw [hlk]; unfold maxLen; omega) ((HX.out.below HB1.out).take k))
          rw [hlk] at HQ
          clear hlk
          by_cases h2 : ∃ j, j < k ∧ ((vs.take k).getD j vol0).name = nm
          · rw [tt_true h2] at HQ
            have HR := Lib.hid (HF.out (fun h => by
              obtain ⟨j, hj, e⟩ := h2
              rw [take_get _ _ _ _ hj] at e
              exact (HV.out.1 h).2.1 j hj e))
            clear h2
            go_wp2_with fail
            refine (HI.out _).mono ?_
            rintro e w2 ⟨rfl, rfl⟩
            go_wp2_with fail
            refine HQ.out.mono ?_
            rintro e w2 ⟨rfl, hB2⟩
            have HB2 := Lib.hid (HB0.out.trans ((HB1.out.trans (hB2.mono HB1.out.size)).mono HB0.out.size))
            clear hB2
            go_wp2
            go_ret
            exact ⟨ret_bool' HR.out.symm, HB2.out⟩
          · rw [tt_false h2] at HQ
            have H2 : Hid (∀ i, i < k → (vs.getD i vol0).name ≠ nm) := fun i hi e => h2 ⟨i, hi, by rw [take_get _ _ _ _ hi]; exact e⟩
            clear h2
            go_wp2_with fail
            refine (HI.out _).mono ?_
            rintro e w2 ⟨rfl, rfl⟩
            go_wp2_with fail
            refine HQ.out.mono ?_
            rintro e w2 ⟨rfl, hB2⟩
            have c0' := cell_below hB2 K0.out
            have c1' := cell_below hB2 K1.out
            have HX2 := Lib.hid (HX1.out.below hB2)
            have HB2 := Lib.hid (HB1.out.trans (hB2.mono HB1.out.size))
            clear hB2
            by_cases h3 : bs.length = 3
            · have d3 : ((bs.length : Int) != 3) = false := by simp; omega
              have HW := Lib.hid (containsFuncPt_any 65 (.pointer (some ⟨w.heap.size, 0, none⟩)) (fun q => ¬PtrOkP n q) a1 cap1 bs w2 (enters_of Tryz.func65 (by kernel_rfl) rfl)
                (wrong_any w.heap.size n w2 (cell_below HB2.out Hc.out)) (by omega) HX2.out)
              by_cases h5 : ∃ j, j < bs.length ∧ ¬PtrOkP n (bs.getD j ptr0)
              · rw [tt_true h5] at HW
                have HR := Lib.hid (HF.out (fun h => by
                  obtain ⟨j, hj, e⟩ := h5
                  exact e ((HV.out.1 h).2.2.2 j hj)))
                clear h5 h3
                go_wp2_with fail
                refine HW.out.mono ?_
                rintro e w3 ⟨rfl, hB3⟩
                have HB3 := Lib.hid (HB0.out.trans ((HB2.out.trans (hB3.mono HB2.out.size)).mono HB0.out.size))
                clear hB3
                go_wp2
                go_ret
                exact ⟨ret_bool' HR.out.symm, HB3.out⟩
              · rw [tt_false h5] at HW
                have HR := Lib.hid (HN.out (HV.out.2 ⟨h1, H2.out, h3, fun j hj => Classical.byContradiction fun e => h5 ⟨j, hj, e⟩⟩))
                clear h5 h3
                go_wp2_with fail
                refine HW.out.mono ?_
                rintro e w3 ⟨rfl, hB3⟩
                have HB3 := Lib.hid (HB2.out.trans (hB3.mono HB2.out.size))
                clear hB3
                go_wp2
                exact ⟨⟨k + 1, by go_num, by omega, HB3, HR⟩, by simp [intOf]; omega⟩
            · have d3 : ((bs.length : Int) != 3) = true := by simp; omega
              have HR := Lib.hid (HF.out (fun h => h3 (HV.out.1 h).2.2.1))
              clear h3
              go_wp2
              go_ret
              exact ⟨ret_bool' HR.out.symm, HB0.out.trans (HB2.out.mono HB0.out.size)⟩
        · rw [tt_false h1] at HI
          have HR := Lib.hid (HF.out (fun h => h1 (HV.out.1 h).1))
          clear h1
          go_wp2_with fail
          refine (HI.out _).mono ?_
          rintro e w2 ⟨rfl, rfl⟩
          go_wp2
          go_ret
          exact ⟨ret_bool' HR.out.symm, HB0.out.trans (HB1.out.mono HB0.out.size)⟩
      · have HF := Lib.hid (tt_true (P := VolsFine n vs) ⟨by omega, fun i hi => hall.out i (by omega)⟩)
        go_wp2
        go_ret
        exact ⟨ret_bool' HF.out.symm, HB0.out.trans (hB.out.mono HB0.out.size)⟩

end Go.Proofs.YtliadobopideaaaGreatDoor

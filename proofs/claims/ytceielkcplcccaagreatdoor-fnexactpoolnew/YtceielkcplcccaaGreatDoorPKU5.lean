/- The library's searches over pointers and volumes by a function; whether pointers that have a place together are the same. Conditions: none but the row's own bound on sizes. -/
import Derived.Test.YtceielkcplcccaaGreatDoorPKU4
namespace Go.Proofs.YtceielkcplcccaaGreatDoor
open Go.RowKit Go.Sort

/-- WHAT IS ASKED OF A PREDICATE over pointers that may lay boxes of its own. -/
def PtPred (g : Nat) (c : Value) (P : PtrD → Prop) (w : World) : Prop :=
  ∀ (W : World) (q : PtrD) (u : Value), Below w.heap.size w W → PlacesV W u q.places → Calls Tryz.prog g #[.agg #[.int .i64 q.size, .int .i64 q.sum, u], c] W fun e w' => e = .returned (.bool (tt (P q))) ∧ Below W.heap.size W w'

set_option maxRecDepth 100000 in
set_option maxHeartbeats 1000000 in
theorem indexFuncPt_any (g : Nat) (c : Value) (P : PtrD → Prop) (a : Option Addr) (cap : Nat) (ps : List PtrD) (w : World) (eg : ∀ args w, (callFunc g args).run Tryz.prog w = .ok (.enter g args) w) (hp : Hid (PtPred g c P w)) (hl : ps.length ≤ maxLen) (hx : Hid (PtrsAt w a ps)) :
    Calls Tryz.prog 90 #[.slice a ps.length cap, .func (.func g) #[] #[c]] w (Found (∃ j, j < ps.length ∧ P (ps.getD j ptr0)) w) := by
  unfold maxLen at hl
  go_enter Tryz.func90, Tryz.ntmps90
  go_wp2_with fail
  go_loopw [8] (fun i wr => ∃ k : Nat, i = .int .i64 (k : Int) ∧ k ≤ ps.length ∧ Hid (Below w.heap.size w wr) ∧ Hid (∀ j, j < k → ¬P (ps.getD j ptr0))) (fun i _ => ps.length - (intOf i).toNat)
  case atStart => exact ⟨0, rfl, by omega, Below.refl _ _, fun j hj => by omega⟩
  case round =>
    obtain ⟨k, rfl, hk, hB, hall⟩ := hrel
    by_cases hlt : k < ps.length
    · obtain ⟨b, off, rfl, hc⟩ := (hx.out.below hB.out).resolve_left (fun e => by subst e; simp at hlt)
      obtain ⟨e0, e1, u, e2, hu⟩ := hc k hlt
      clear hc
      generalize hg : ps.getD k ptr0 = q at e0 e1 hu
      have Hg := Lib.hid hg
      clear hg
      have HC := Lib.hid (hp.out wr q u hB.out hu)
      obtain ⟨a1, cap1, rfl, _⟩ := hu
      by_cases hP : P q
      · rw [tt_true hP] at HC
        have HF : Hid (∃ j, j < ps.length ∧ P (ps.getD j ptr0)) := ⟨k, hlt, by rw [Hg.out]; exact hP⟩
        clear hP
        go_wp2_with fail
        refine HC.out.mono ?_
        rintro e w2 ⟨rfl, hB2⟩
        have HB2 := Lib.hid (hB.out.trans (hB2.mono hB.out.size))
        clear hB2
        go_wp2
        go_ret
        exact ⟨⟨_, rfl, fun _ => HF.out, fun _ => by omega⟩, HB2.out⟩
      · rw [tt_false hP] at HC
        have HN : Hid (∀ j, j < k + 1 → ¬P (ps.getD j ptr0)) := fun j hj => by
          by_cases e : j = k
          · subst e; rw [Hg.out]; exact hP
          · exact hall.out j (by omega)
        clear hP
        go_wp2_with fail
        refine HC.out.mono ?_
        rintro e w2 ⟨rfl, hB2⟩
        have HB2 := Lib.hid (hB.out.trans (hB2.mono hB.out.size))
        clear hB2
        go_wp2
        exact ⟨⟨k + 1, by go_num, by omega, HB2, HN⟩, by simp [intOf]; omega⟩
    · have HF : Hid (¬∃ j, j < ps.length ∧ P (ps.getD j ptr0)) := fun ⟨j, hj, h⟩ => hall.out j (by omega) h
      go_wp2
      go_ret
      exact ⟨⟨_, rfl, fun h => by omega, fun h => (HF.out h).elim⟩, hB.out⟩

set_option maxHeartbeats 400000 in
theorem containsFuncPt_any (g : Nat) (c : Value) (P : PtrD → Prop) (a : Option Addr) (cap : Nat) (ps : List PtrD) (w : World) (eg : ∀ args w, (callFunc g args).run Tryz.prog w = .ok (.enter g args) w) (hp : Hid (PtPred g c P w)) (hl : ps.length ≤ maxLen) (hx : Hid (PtrsAt w a ps)) :
    Calls Tryz.prog 68 #[.slice a ps.length cap, .func (.func g) #[] #[c]] w fun e w' => e = .returned (.bool (tt (∃ j, j < ps.length ∧ P (ps.getD j ptr0)))) ∧ Below w.heap.size w w' := by
  have HI := Lib.hid (indexFuncPt_any g c P a cap ps w eg hp hl hx)
  clear eg
  go_enter Tryz.func68, Tryz.ntmps68
  go_wp2_with fail
  refine HI.out.mono ?_
  rintro e w1 ⟨⟨z, rfl, hz⟩, hB1⟩
  have HF := Lib.hid (found_bool hz)
  clear hz
  go_wp2
  go_ret
  exact ⟨ret_bool' HF.out, hB1⟩

/-- WHAT IS ASKED OF A PREDICATE over volumes that may lay boxes of its own. -/
def VoPred (g : Nat) (c : Value) (P : VolD → Prop) (w : World) : Prop :=
  ∀ (W : World) (q : VolD) (u : Value), Below w.heap.size w W → PtrsV W u q.blocks → Calls Tryz.prog g #[.agg #[.string q.name, u], c] W fun e w' => e = .returned (.bool (tt (P q))) ∧ Below W.heap.size W w'

set_option maxRecDepth 100000 in
set_option maxHeartbeats 1000000 in
theorem indexFuncVo_any (g : Nat) (c : Value) (P : VolD → Prop) (a : Option Addr) (cap : Nat) (ps : List VolD) (w : World) (eg : ∀ args w, (callFunc g args).run Tryz.prog w = .ok (.enter g args) w) (hp : Hid (VoPred g c P w)) (hl : ps.length ≤ maxLen) (hx : Hid (VolsAt w a ps)) :
    Calls Tryz.prog 89 #[.slice a ps.length cap, .func (.func g) #[] #[c]] w (Found (∃ j, j < ps.length ∧ P (ps.getD j vol0)) w) := by
  unfold maxLen at hl
  go_enter Tryz.func89, Tryz.ntmps89
  go_wp2_with fail
  go_loopw [8] (fun i wr => ∃ k : Nat, i = .int .i64 (k : Int) ∧ k ≤ ps.length ∧ Hid (Below w.heap.size w wr) ∧ Hid (∀ j, j < k → ¬P (ps.getD j vol0))) (fun i _ => ps.length - (intOf i).toNat)
  case atStart => exact ⟨0, rfl, by omega, Below.refl _ _, fun j hj => by omega⟩
  case round =>
    obtain ⟨k, rfl, hk, hB, hall⟩ := hrel
    by_cases hlt : k < ps.length
    · obtain ⟨b, off, rfl, hc⟩ := (hx.out.below hB.out).resolve_left (fun e => by subst e; simp at hlt)
      obtain ⟨e0, u, e1, hu⟩ := hc k hlt
      clear hc
      generalize hg : ps.getD k vol0 = q at e0 hu
      have Hg := Lib.hid hg
      clear hg
      have HC := Lib.hid (hp.out wr q u hB.out hu)
      obtain ⟨a1, cap1, rfl, _⟩ := hu
      by_cases hP : P q
      · rw [tt_true hP] at HC
        have HF : Hid (∃ j, j < ps.length ∧ P (ps.getD j vol0)) := ⟨k, hlt, by rw [Hg.out]; exact hP⟩
        clear hP
        go_wp2_with fail
        refine HC.out.mono ?_
        rintro e w2 ⟨rfl, hB2⟩
        have HB2 := Lib.hid (hB.out.trans (hB2.mono hB.out.size))
        clear hB2
        go_wp2
        go_ret
        exact ⟨⟨_, rfl, fun _ => HF.out, fun _ => by omega⟩, HB2.out⟩
      · rw [tt_false hP] at HC
        have HN : Hid (∀ j, j < k + 1 → ¬P (ps.getD j vol0)) := fun j hj => by
          by_cases e : j = k
          · subst e; rw [Hg.out]; exact hP
          · exact hall.out j (by omega)
        clear hP
        go_wp2_with fail
        refine HC.out.mono ?_
        rintro e w2 ⟨rfl, hB2⟩
        have HB2 := Lib.hid (hB.out.trans (hB2.mono hB.out.size))
        clear hB2
        go_wp2
        exact ⟨⟨k + 1, by go_num, by omega, HB2, HN⟩, by simp [intOf]; omega⟩
    · have HF : Hid (¬∃ j, j < ps.length ∧ P (ps.getD j vol0)) := fun ⟨j, hj, h⟩ => hall.out j (by omega) h
      go_wp2
      go_ret
      exact ⟨⟨_, rfl, fun h => by omega, fun h => (HF.out h).elim⟩, hB.out⟩

set_option maxHeartbeats 400000 in
theorem containsFuncVo_any (g : Nat) (c : Value) (P : VolD → Prop) (a : Option Addr) (cap : Nat) (ps : List VolD) (w : World) (eg : ∀ args w, (callFunc g args).run Tryz.prog w = .ok (.enter g args) w) (hp : Hid (VoPred g c P w)) (hl : ps.length ≤ maxLen) (hx : Hid (VolsAt w a ps)) :
    Calls Tryz.prog 67 #[.slice a ps.length cap, .func (.func g) #[] #[c]] w fun e w' => e = .returned (.bool (tt (∃ j, j < ps.length ∧ P (ps.getD j vol0)))) ∧ Below w.heap.size w w' := by
  have HI := Lib.hid (indexFuncVo_any g c P a cap ps w eg hp hl hx)
  clear eg
  go_enter Tryz.func67, Tryz.ntmps67
  go_wp2_with fail
  refine HI.out.mono ?_
  rintro e w1 ⟨⟨z, rfl, hz⟩, hB1⟩
  have HF := Lib.hid (found_bool hz)
  clear hz
  go_wp2
  go_ret
  exact ⟨ret_bool' HF.out, hB1⟩

theorem PtrsAt.take {w : World} {a : Option Addr} {ps : List PtrD} (h : PtrsAt w a ps) (k : Nat) : PtrsAt w a (ps.take k) := by
  rcases h with rfl | ⟨b, off, e, hc⟩
  · exact .inl (by simp)
  · refine .inr ⟨b, off, e, fun j hj => ?_⟩
    rw [List.length_take] at hj
    have := hc j (by omega)
    rw [take_get _ _ _ _ (by omega)]
    exact this
theorem VolsAt.take {w : World} {a : Option Addr} {ps : List VolD} (h : VolsAt w a ps) (k : Nat) : VolsAt w a (ps.take k) := by
  rcases h with rfl | ⟨b, off, e, hc⟩
  · exact .inl (by simp)
  · refine .inr ⟨b, off, e, fun j hj => ?_⟩
    rw [List.length_take] at hj
    have := hc j (by omega)
    rw [take_get _ _ _ _ (by omega)]
    exact this

end Go.Proofs.YtceielkcplcccaaGreatDoor

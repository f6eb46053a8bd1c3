/- Names of volumes; places among places; lists of places that are the same. Conditions: none but the row's own bound on sizes. Whether places have one together, by the library's functions; whether they are the same. Conditions: none but the row's own bound on sizes. -/
import Derived.Test.YtceielkcplcccaaGreatDoorPKTE
import Derived.Test.YtceielkcplcccaaGreatDoorPKS4
namespace Go.Proofs.YtceielkcplcccaaGreatDoor
open Go.RowKit Go.Sort

/-- A PLACE IS AMONG PLACES. -/
def PlIn (q : PlD) (ps : List PlD) : Prop := ∃ j, j < ps.length ∧ ps.getD j pl0 = q

/-- WHERE something is found first: below 0 just where nothing is. -/
def Found (P : Prop) (w : World) (e : Ending) (w' : World) : Prop := (∃ z : Int, e = .returned (.int .i64 z) ∧ (0 ≤ z ↔ P)) ∧ Below w.heap.size w w'

set_option maxRecDepth 100000 in
set_option maxHeartbeats 1000000 in
theorem indexPl_any (q : PlD) (a : Option Addr) (cap : Nat) (ps : List PlD) (w : World) (hl : ps.length ≤ maxLen) (hx : Hid (PlacesAt w a ps)) :
    Calls Tryz.prog 103 #[.slice a ps.length cap, .agg #[.int .i64 q.1, .int .i64 q.2]] w (Found (PlIn q ps) w) := by
  unfold maxLen at hl
  obtain ⟨d, s⟩ := q
  have hB : Below w.heap.size w (w.alloc (.cells #[.int .i64 d, .int .i64 s] 82)) := (Below.refl _ _).alloc (Nat.le_refl _) _
  have HB := Lib.hid hB
  have c0 : (w.alloc (.cells #[.int .i64 d, .int .i64 s] 82)).cell? ⟨w.heap.size, 0, none⟩ = some (.int .i64 d) := by rw [World.cell?_alloc_mark]; rfl
  have c1 : (w.alloc (.cells #[.int .i64 d, .int .i64 s] 82)).cell? ⟨w.heap.size, 1, none⟩ = some (.int .i64 s) := by rw [World.cell?_alloc_mark]; rfl
  have H0 := Lib.hid c0
  have H1 := Lib.hid c1
  have HX := Lib.hid (hx.out.below hB)
  clear hB c0 c1
  go_enter Tryz.func103, Tryz.ntmps103
  go_wp2_with fail
  generalize w.alloc (.cells #[.int .i64 d, .int .i64 s] 82) = w1 at HB H0 H1 HX ⊢
  go_loopw [8] (fun i wr => ∃ k : Nat, i = .int .i64 (k : Int) ∧ k ≤ ps.length ∧ Hid (Below w1.heap.size w1 wr) ∧ Hid (∀ j, j < k → ps.getD j pl0 ≠ (d, s))) (fun i _ => ps.length - (intOf i).toNat)
  case atStart => exact ⟨0, rfl, by omega, Below.refl _ _, fun j hj => by omega⟩
  case round =>
    obtain ⟨k, rfl, hk, hB, hall⟩ := hrel
    by_cases hlt : k < ps.length
    · obtain ⟨b, off, rfl, hc⟩ := (HX.out.below hB.out).resolve_left (fun e => by subst e; simp at hlt)
      obtain ⟨e0, e1⟩ := hc k hlt
      have c0 := cell_below hB.out H0.out
      have c1 := cell_below hB.out H1.out
      clear hc
      generalize hg : ps.getD k pl0 = q at e0 e1
      have Hg := Lib.hid hg
      clear hg
      obtain ⟨d2, s2⟩ := q
      simp only at e0 e1
      have i1 : (k : Int) < (ps.length : Int) := by omega
      have i0 : (0 : Int) ≤ (k : Int) := by omega
      by_cases he : d = d2 ∧ s = s2
      · obtain ⟨rfl, rfl⟩ := he
        have HF : Hid (PlIn (d, s) ps) := ⟨k, hlt, Hg.out⟩
        go_wp2_with fail
        go_quiet (fail)
        go_wp2
        go_ret
        exact ⟨⟨_, rfl, fun _ => HF.out, fun _ => i0⟩, belowN (HB.out.trans (hB.out.mono HB.out.size)) _⟩
      · have HN : Hid (∀ j, j < k + 1 → ps.getD j pl0 ≠ (d, s)) := fun j hj => by
          by_cases e : j = k
          · subst e
            rw [Hg.out]
            intro h
            injection h with h1 h2
            exact he ⟨h1.symm, h2.symm⟩
          · exact hall.out j (by omega)
        by_cases h1 : d = d2
        · subst h1
          have h2 : (s == s2) = false := by simp; exact fun h => he ⟨rfl, h⟩
          clear he
          go_wp2_with fail
          go_quiet (fail)
          go_wp2
          exact ⟨⟨k + 1, by go_num, by omega, belowN hB.out _, HN⟩, by simp [intOf]; omega⟩
        · have h2 : (d == d2) = false := by simp [h1]
          clear he h1
          go_wp2_with fail
          go_quiet (fail)
          go_wp2
          exact ⟨⟨k + 1, by go_num, by omega, belowN hB.out _, HN⟩, by simp [intOf]; omega⟩
    · have HF : Hid (¬PlIn (d, s) ps) := fun ⟨j, hj, h⟩ => hall.out j (by omega) h
      go_wp2
      go_ret
      exact ⟨⟨_, rfl, fun h => by omega, fun h => (HF.out h).elim⟩, HB.out.trans (hB.out.mono HB.out.size)⟩

end Go.Proofs.YtceielkcplcccaaGreatDoor

namespace Go.Proofs.YtceielkcplcccaaGreatDoor
open Go.RowKit Go.Sort

set_option maxHeartbeats 400000 in
theorem containsPl_any (q : PlD) (a : Option Addr) (cap : Nat) (ps : List PlD) (w : World) (hl : ps.length ≤ maxLen) (hx : Hid (PlacesAt w a ps)) :
    Calls Tryz.prog 93 #[.slice a ps.length cap, .agg #[.int .i64 q.1, .int .i64 q.2]] w fun e w' => e = .returned (.bool (tt (PlIn q ps))) ∧ Below w.heap.size w w' := by
  have hB : Below w.heap.size w (w.alloc (.cells #[.int .i64 q.1, .int .i64 q.2] 82)) := (Below.refl _ _).alloc (Nat.le_refl _) _
  have HB := Lib.hid hB
  have HX := Lib.hid (hx.out.below hB)
  clear hB
  go_enter Tryz.func93, Tryz.ntmps93
  go_wp2_with fail
  refine (indexPl_any q a cap ps _ hl HX).mono ?_
  rintro e w1 ⟨⟨z, rfl, hz⟩, hB1⟩
  have HF : Hid (decide (0 ≤ z) = tt (PlIn q ps)) := by
    show decide (0 ≤ z) = tt (PlIn q ps)
    by_cases h : 0 ≤ z
    · rw [tt_true (hz.1 h), decide_eq_true h]
    · rw [tt_false (fun k => h (hz.2 k)), decide_eq_false h]
  have HB1 := Lib.hid (HB.out.trans (hB1.mono HB.out.size))
  clear hz hB1
  go_wp2
  go_ret
  exact ⟨ret_bool' HF.out, HB1.out⟩

/-- WHAT IS ASKED OF A PREDICATE over places that may lay boxes of its own. -/
def PlPred (g : Nat) (c : Value) (P : PlD → Prop) (w : World) : Prop :=
  ∀ (W : World) (q : PlD), Below w.heap.size w W → Calls Tryz.prog g #[.agg #[.int .i64 q.1, .int .i64 q.2], c] W fun e w' => e = .returned (.bool (tt (P q))) ∧ Below W.heap.size W w'

set_option maxRecDepth 100000 in
set_option maxHeartbeats 1000000 in
theorem indexFuncPl_any (g : Nat) (c : Value) (P : PlD → Prop) (a : Option Addr) (cap : Nat) (ps : List PlD) (w : World) (eg : ∀ args w, (callFunc g args).run Tryz.prog w = .ok (.enter g args) w) (hp : Hid (PlPred g c P w)) (hl : ps.length ≤ maxLen) (hx : Hid (PlacesAt w a ps)) :
    Calls Tryz.prog 102 #[.slice a ps.length cap, .func (.func g) #[] #[c]] w (Found (∃ j, j < ps.length ∧ P (ps.getD j pl0)) w) := by
  unfold maxLen at hl
  go_enter Tryz.func102, Tryz.ntmps102
  go_wp2_with fail
  go_loopw [8] (fun i wr => ∃ k : Nat, i = .int .i64 (k : Int) ∧ k ≤ ps.length ∧ Hid (Below w.heap.size w wr) ∧ Hid (∀ j, j < k → ¬P (ps.getD j pl0))) (fun i _ => ps.length - (intOf i).toNat)
  case atStart => exact ⟨0, rfl, by omega, Below.refl _ _, fun j hj => by omega⟩
  case round =>
    obtain ⟨k, rfl, hk, hB, hall⟩ := hrel
    by_cases hlt : k < ps.length
    · obtain ⟨b, off, rfl, hc⟩ := (hx.out.below hB.out).resolve_left (fun e => by subst e; simp at hlt)
      obtain ⟨e0, e1⟩ := hc k hlt
      clear hc
      generalize hg : ps.getD k pl0 = q at e0 e1
      have Hg := Lib.hid hg
      clear hg
      have HC := Lib.hid (hp.out wr q hB.out)
      by_cases hP : P q
      · rw [tt_true hP] at HC
        have HF : Hid (∃ j, j < ps.length ∧ P (ps.getD j pl0)) := ⟨k, hlt, by rw [Hg.out]; exact hP⟩
        clear hP
        go_wp2_with fail
        refine HC.out.mono ?_
        rintro e w2 ⟨rfl, hB2⟩
        have HB2 := Lib.hid (hB.out.trans (hB2.mono hB.out.size))
        clear hB2
        go_wp2
        go_ret
        exact ⟨⟨_, rfl, fun _ => HF.out, fun _ => by omega⟩, HB2.out⟩
      · rw [tt_false hP] at HC
        have HN : Hid (∀ j, j < k + 1 → ¬P (ps.getD j pl0)) := fun j hj => by
          by_cases e : j = k
          · subst e; rw [Hg.out]; exact hP
          · exact hall.out j (by omega)
        clear hP
        go_wp2_with fail
        refine HC.out.mono ?_
        rintro e w2 ⟨rfl, hB2⟩
        have HB2 := Lib.hid (hB.out.trans (hB2.mono hB.out.size))
        clear hB2
        go_wp2
        exact ⟨⟨k + 1, by go_num, by omega, HB2, HN⟩, by simp [intOf]; omega⟩
    · have HF : Hid (¬∃ j, j < ps.length ∧ P (ps.getD j pl0)) := fun ⟨j, hj, h⟩ => hall.out j (by omega) h
      go_wp2
      go_ret
      exact ⟨⟨_, rfl, fun h => by omega, fun h => (HF.out h).elim⟩, hB.out⟩

theorem found_bool {z : Int} {P : Prop} (hz : 0 ≤ z ↔ P) : decide (0 ≤ z) = tt P := by
  by_cases h : 0 ≤ z
  · rw [tt_true (hz.1 h), decide_eq_true h]
  · rw [tt_false (fun k => h (hz.2 k)), decide_eq_false h]

set_option maxHeartbeats 400000 in
theorem containsFuncPl_any (g : Nat) (c : Value) (P : PlD → Prop) (a : Option Addr) (cap : Nat) (ps : List PlD) (w : World) (eg : ∀ args w, (callFunc g args).run Tryz.prog w = .ok (.enter g args) w) (hp : Hid (PlPred g c P w)) (hl : ps.length ≤ maxLen) (hx : Hid (PlacesAt w a ps)) :
    Calls Tryz.prog 91 #[.slice a ps.length cap, .func (.func g) #[] #[c]] w fun e w' => e = .returned (.bool (tt (∃ j, j < ps.length ∧ P (ps.getD j pl0)))) ∧ Below w.heap.size w w' := by
  have HI := Lib.hid (indexFuncPl_any g c P a cap ps w eg hp hl hx)
  clear eg
  go_enter Tryz.func91, Tryz.ntmps91
  go_wp2_with fail
  refine HI.out.mono ?_
  rintro e w1 ⟨⟨z, rfl, hz⟩, hB1⟩
  have HF := Lib.hid (found_bool hz)
  clear hz
  go_wp2
  go_ret
  exact ⟨ret_bool' HF.out, hB1⟩

/-- TWO POINTERS HAVE A PLACE TOGETHER. -/
def Meet (ps qs : List PlD) : Prop := ∃ j, j < ps.length ∧ PlIn (ps.getD j pl0) qs

set_option maxHeartbeats 400000 in
theorem meets1_any (B : Nat) (a : Option Addr) (cap : Nat) (qs : List PlD) (w : World) (hl : qs.length ≤ maxLen) (hx : Hid (PlacesAt w a qs)) (hc : w.cell? ⟨B, 2, none⟩ = some (.slice a qs.length cap)) : PlPred 92 (.pointer (some ⟨B, 0, none⟩)) (fun q => PlIn q qs) w := by
  intro W q hB
  have hc' := cell_below hB hc
  have hX := Lib.hid (hx.out.below hB)
  clear hc hB
  have hBa : Below W.heap.size W (W.alloc (.cells #[.int .i64 q.1, .int .i64 q.2] 82)) := (Below.refl _ _).alloc (Nat.le_refl _) _
  have HBa := Lib.hid hBa
  have HX := Lib.hid (hX.out.below hBa)
  have hlt : B < W.heap.size := World.block_lt_of_cell? W _ hc'
  clear hBa
  go_enter Tryz.func92, Tryz.ntmps92
  go_wp2_with fail
  refine (containsPl_any q a cap qs _ hl HX).mono ?_
  rintro e w1 ⟨rfl, hB1⟩
  go_wp2
  go_ret
  exact ⟨rfl, HBa.out.trans (hB1.mono HBa.out.size)⟩

set_option maxRecDepth 100000 in
set_option maxHeartbeats 1000000 in
theorem meets_any (z s z2 s2 : Int) (a a2 : Option Addr) (cap cap2 : Nat) (ps qs : List PlD) (w : World) (hl : ps.length ≤ maxLen) (hl2 : qs.length ≤ maxLen) (hx : Hid (PlacesAt w a ps)) (hx2 : Hid (PlacesAt w a2 qs)) :
    Calls Tryz.prog 70 #[.agg #[.int .i64 z, .int .i64 s, .slice a ps.length cap], .agg #[.int .i64 z2, .int .i64 s2, .slice a2 qs.length cap2]] w fun e w' => e = .returned (.bool (tt (Meet ps qs))) ∧ Below w.heap.size w w' := by
  have hB : Below w.heap.size w ((w.alloc (.cells #[.int .i64 z, .int .i64 s, .slice a ps.length cap] 65)).alloc (.cells #[.int .i64 z2, .int .i64 s2, .slice a2 qs.length cap2] 65)) := ((Below.refl _ _).alloc (Nat.le_refl _) _).alloc (by simp) _
  have HB := Lib.hid hB
  have HX := Lib.hid (hx.out.below hB)
  have HP := Lib.hid (meets1_any (w.heap.size + 1) a2 cap2 qs _ hl2 (hx2.out.below hB) (by
    have := World.cell?_alloc_mark (w.alloc (.cells #[.int .i64 z, .int .i64 s, .slice a ps.length cap] 65)) #[.int .i64 z2, .int .i64 s2, .slice a2 qs.length cap2] 65 (0, 0) 2
    simp only [World.size_alloc] at this
    rw [this]; rfl))
  clear hB
  go_enter Tryz.func70, Tryz.ntmps70
  go_wp2_with fail
  refine (containsFuncPl_any 92 _ _ a cap ps _ (enters_of Tryz.func92 (by kernel_rfl) rfl) HP hl HX).mono ?_
  rintro e w1 ⟨rfl, hB1⟩
  go_wp2
  go_ret
  exact ⟨rfl, HB.out.trans (hB1.mono HB.out.size)⟩

end Go.Proofs.YtceielkcplcccaaGreatDoor

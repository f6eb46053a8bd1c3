/- Lists of places and pointers that are the same, and pointers that have a place together, of both sides. Conditions: none but the row's own bound on sizes. -/
import Derived.Test.YtceielkcplcccaaGreatDoorPKU1
namespace Go.Proofs.YtceielkcplcccaaGreatDoor
open Go.RowKit Go.Sort

theorem list_eq {α : Type} {d : α} {xs ys : List α} (hl : xs.length = ys.length) (h : ∀ j, j < xs.length → xs.getD j d = ys.getD j d) : xs = ys := by
  refine List.ext_getElem? fun j => ?_
  by_cases hj : j < xs.length
  · have := h j hj
    rw [List.getD, List.getD, List.getElem?_eq_getElem hj, List.getElem?_eq_getElem (by omega)] at this
    rw [List.getElem?_eq_getElem hj, List.getElem?_eq_getElem (by omega)]
    exact congrArg some this
  · rw [List.getElem?_eq_none (by omega), List.getElem?_eq_none (by omega)]

set_option maxRecDepth 100000 in
set_option maxHeartbeats 1000000 in
theorem equalPl_any (a b : Option Addr) (ca cb : Nat) (ps qs : List PlD) (w : World) (hl : ps.length ≤ maxLen) (hl2 : qs.length ≤ maxLen) (ha : Hid (PlacesAt w a ps)) (hb : Hid (PlacesAt w b qs)) :
    Calls Tryz.prog 94 #[.slice a ps.length ca, .slice b qs.length cb] w fun e w' => e = .returned (.bool (tt (ps = qs))) ∧ Below w.heap.size w w' := by
  unfold maxLen at hl hl2
  by_cases hn : ps.length = qs.length
  · have d0 : ((ps.length : Int) != (qs.length : Int)) = false := by simp; omega
    have Hn := Lib.hid hn
    have hle : ps.length ≤ qs.length := by omega
    clear hn
    go_enter Tryz.func94, Tryz.ntmps94
    go_wp2_with fail
    go_loopw [13] (fun i wr => ∃ k : Nat, i = .int .i64 (k : Int) ∧ k ≤ ps.length ∧ Hid (Below w.heap.size w wr) ∧ Hid (∀ j, j < k → ps.getD j pl0 = qs.getD j pl0)) (fun i _ => ps.length - (intOf i).toNat)
    case atStart => exact ⟨0, rfl, by omega, Below.refl _ _, fun j hj => by omega⟩
    case round =>
      obtain ⟨k, rfl, hk, hB, hall⟩ := hrel
      by_cases hlt : k < ps.length
      · have hlt2 : k < qs.length := by omega
        obtain ⟨b1, o1, rfl, hc1⟩ := (ha.out.below hB.out).resolve_left (fun e => by subst e; simp at hlt)
        obtain ⟨b2, o2, rfl, hc2⟩ := (hb.out.below hB.out).resolve_left (fun e => by subst e; simp at hlt2)
        obtain ⟨k1, k2⟩ := hc1 k hlt
        obtain ⟨k3, k4⟩ := hc2 k hlt2
        clear hc1 hc2
        generalize hg1 : ps.getD k pl0 = q1 at k1 k2
        generalize hg2 : qs.getD k pl0 = q2 at k3 k4
        have Hg1 := Lib.hid hg1
        have Hg2 := Lib.hid hg2
        clear hg1 hg2
        obtain ⟨d1, s1⟩ := q1
        obtain ⟨d2, s2⟩ := q2
        simp only at k1 k2 k3 k4
        have i1 : (k : Int) < (ps.length : Int) := by omega
        have i0 : (0 : Int) ≤ (k : Int) := by omega
        have i2 : (k : Int) < (qs.length : Int) := by omega
        by_cases he : d1 = d2 ∧ s1 = s2
        · obtain ⟨rfl, rfl⟩ := he
          have HN : Hid (∀ j, j < k + 1 → ps.getD j pl0 = qs.getD j pl0) := fun j hj => by
            by_cases e : j = k
            · subst e; rw [Hg1.out, Hg2.out]
            · exact hall.out j (by omega)
          go_wp2_with fail
          go_quiet (fail)
          go_wp2
          exact ⟨⟨k + 1, by go_num, by omega, belowN hB.out _, HN⟩, by simp [intOf]; omega⟩
        · have HF := Lib.hid (tt_false (P := ps = qs) (fun h => he (by
            have h1 := Hg1.out
            rw [h, Hg2.out] at h1
            injection h1 with h1 h2
            exact ⟨h1.symm, h2.symm⟩)))
          by_cases h1 : d1 = d2
          · subst h1
            have h2 : (s1 == s2) = false := by simp; exact fun h => he ⟨rfl, h⟩
            clear he
            go_wp2_with fail
            go_quiet (fail)
            go_wp2
            go_ret
            exact ⟨ret_bool' HF.out.symm, belowN hB.out _⟩
          · have h2 : (d1 == d2) = false := by simp [h1]
            clear he h1
            go_wp2_with fail
            go_quiet (fail)
            go_wp2
            go_ret
            exact ⟨ret_bool' HF.out.symm, belowN hB.out _⟩
      · have HF := Lib.hid (tt_true (P := ps = qs) (list_eq Hn.out (fun j hj => hall.out j (by omega))))
        go_wp2
        go_ret
        exact ⟨ret_bool' HF.out.symm, hB.out⟩
  · have d0 : ((ps.length : Int) != (qs.length : Int)) = true := by simp; omega
    have HF := Lib.hid (tt_false (P := ps = qs) (fun h => hn (by rw [h])))
    clear hn
    go_enter Tryz.func94, Tryz.ntmps94
    go_wp2
    go_ret
    exact ⟨ret_bool' HF.out.symm, Below.refl _ _⟩

/-- TWO POINTERS ARE THE SAME. -/
def Same (p q : PtrD) : Prop := p = q
theorem ptr_eq {z s z2 s2 : Int} {ps qs : List PlD} : Same ⟨z, s, ps⟩ ⟨z2, s2, qs⟩ ↔ z = z2 ∧ s = s2 ∧ ps = qs :=
  ⟨fun h => by unfold Same at h; injection h with h1 h2 h3; exact ⟨h1, h2, h3⟩, fun ⟨h1, h2, h3⟩ => by rw [h1, h2, h3]; rfl⟩

set_option maxRecDepth 100000 in
set_option maxHeartbeats 1000000 in
theorem isSame_any (z s z2 s2 : Int) (a a2 : Option Addr) (cap cap2 : Nat) (ps qs : List PlD) (w : World) (hl : ps.length ≤ maxLen) (hl2 : qs.length ≤ maxLen) (hx : Hid (PlacesAt w a ps)) (hx2 : Hid (PlacesAt w a2 qs)) :
    Calls Tryz.prog 71 #[.agg #[.int .i64 z, .int .i64 s, .slice a ps.length cap], .agg #[.int .i64 z2, .int .i64 s2, .slice a2 qs.length cap2]] w fun e w' => e = .returned (.bool (tt (Same ⟨z, s, ps⟩ ⟨z2, s2, qs⟩))) ∧ Below w.heap.size w w' := by
  have HE := Lib.hid (ptr_eq (z := z) (s := s) (z2 := z2) (s2 := s2) (ps := ps) (qs := qs))
  have hB : Below w.heap.size w ((w.alloc (.cells #[.int .i64 z, .int .i64 s, .slice a ps.length cap] 65)).alloc (.cells #[.int .i64 z2, .int .i64 s2, .slice a2 qs.length cap2] 65)) := ((Below.refl _ _).alloc (Nat.le_refl _) _).alloc (by simp) _
  have HB := Lib.hid hB
  have HX := Lib.hid (hx.out.below hB)
  have HX2 := Lib.hid (hx2.out.below hB)
  clear hB
  by_cases h1 : z = z2
  · subst h1
    have d1 : (z == z) = true := by simp
    by_cases h2 : s = s2
    · subst h2
      have d2 : (s == s) = true := by simp
      have HF := Lib.hid (tt_congr (HE.out.trans ⟨fun h => h.2.2, fun h => ⟨rfl, rfl, h⟩⟩))
      go_enter Tryz.func71, Tryz.ntmps71
      go_wp2_with fail
      refine (equalPl_any a a2 cap cap2 ps qs _ hl hl2 HX HX2).mono ?_
      rintro e w1 ⟨rfl, hB1⟩
      go_wp2
      go_ret
      exact ⟨ret_bool' HF.out.symm, HB.out.trans (hB1.mono HB.out.size)⟩
    · have d2 : (s == s2) = false := by simp [h2]
      have HF := Lib.hid (tt_false (fun h => h2 (HE.out.1 h).2.1))
      clear h2
      go_enter Tryz.func71, Tryz.ntmps71
      go_wp2
      go_ret
      exact ⟨ret_bool' HF.out.symm, HB.out⟩
  · have d1 : (z == z2) = false := by simp [h1]
    have HF := Lib.hid (tt_false (fun h => h1 (HE.out.1 h).1))
    clear h1
    go_enter Tryz.func71, Tryz.ntmps71
    go_wp2
    go_ret
    exact ⟨ret_bool' HF.out.symm, HB.out⟩

set_option maxRecDepth 100000 in
set_option maxHeartbeats 1000000 in
theorem l2Meet_any (z s z2 s2 : Int) (a a2 : Option Addr) (cap cap2 : Nat) (ps qs : List PlD) (w : World) (hl : ps.length ≤ maxLen) (hl2 : qs.length ≤ maxLen) (hx : Hid (PlacesAt w a ps)) (hx2 : Hid (PlacesAt w a2 qs)) :
    Calls Tryz.prog 84 #[.agg #[.int .i64 z, .int .i64 s, .slice a ps.length cap], .agg #[.int .i64 z2, .int .i64 s2, .slice a2 qs.length cap2]] w fun e w' => e = .returned (.bool (tt (Meet ps qs))) ∧ Below w.heap.size w w' := by
  unfold maxLen at hl hl2
  have hB : Below w.heap.size w ((w.alloc (.cells #[.int .i64 z, .int .i64 s, .slice a ps.length cap] 65)).alloc (.cells #[.int .i64 z2, .int .i64 s2, .slice a2 qs.length cap2] 65)) := ((Below.refl _ _).alloc (Nat.le_refl _) _).alloc (by simp) _
  have HB := Lib.hid hB
  have HX := Lib.hid (hx.out.below hB)
  have HX2 := Lib.hid (hx2.out.below hB)
  have c1 : ((w.alloc (.cells #[.int .i64 z, .int .i64 s, .slice a ps.length cap] 65)).alloc (.cells #[.int .i64 z2, .int .i64 s2, .slice a2 qs.length cap2] 65)).cell? ⟨w.heap.size, 2, none⟩ = some (.slice a ps.length cap) := cell_below ((Below.refl _ _).alloc (Nat.le_refl _) _) (by rw [World.cell?_alloc_mark]; rfl)
  have c2 : ((w.alloc (.cells #[.int .i64 z, .int .i64 s, .slice a ps.length cap] 65)).alloc (.cells #[.int .i64 z2, .int .i64 s2, .slice a2 qs.length cap2] 65)).cell? ⟨w.heap.size + 1, 2, none⟩ = some (.slice a2 qs.length cap2) := by
    have := World.cell?_alloc_mark (w.alloc (.cells #[.int .i64 z, .int .i64 s, .slice a ps.length cap] 65)) #[.int .i64 z2, .int .i64 s2, .slice a2 qs.length cap2] 65 (0, 0) 2
    simp only [World.size_alloc] at this
    rw [this]; rfl
  have H1 := Lib.hid c1
  have H2 := Lib.hid c2
  clear hB c1 c2
  go_enter Tryz.func84, Tryz.ntmps84
  go_wp2_with fail
  generalize (w.alloc (.cells #[.int .i64 z, .int .i64 s, .slice a ps.length cap] 65)).alloc (.cells #[.int .i64 z2, .int .i64 s2, .slice a2 qs.length cap2] 65) = w1 at HB HX HX2 H1 H2 ⊢
  go_loopw [5] (fun i wr => ∃ k : Nat, i = .int .i64 (k : Int) ∧ k ≤ ps.length ∧ Hid (Below w1.heap.size w1 wr) ∧ Hid (∀ j, j < k → ¬PlIn (ps.getD j pl0) qs)) (fun i _ => ps.length - (intOf i).toNat)
  case atStart => exact ⟨0, rfl, by omega, Below.refl _ _, fun j hj => by omega⟩
  case round =>
    obtain ⟨k, rfl, hk, hBr, hall⟩ := hrel
    have c1 := cell_below hBr.out H1.out
    by_cases hlt : k < ps.length
    · go_wp2_with fail
      go_loopw [6] (fun i wq => ∃ m : Nat, i = .int .i64 (m : Int) ∧ m ≤ qs.length ∧ Hid (Below w1.heap.size w1 wq) ∧ Hid (∀ j, j < m → qs.getD j pl0 ≠ ps.getD k pl0)) (fun i _ => qs.length - (intOf i).toNat)
      case atStart => exact ⟨0, rfl, by omega, hBr, fun j hj => by omega⟩
      case round =>
        clear c1
        obtain ⟨m, rfl, hm, hBq, hne⟩ := hrel
        have c1 := cell_below hBq.out H1.out
        have c2 := cell_below hBq.out H2.out
        by_cases hmk : m < qs.length
        · obtain ⟨b1, o1, rfl, hc1⟩ := (HX.out.below hBq.out).resolve_left (fun e => by subst e; simp at hlt)
          obtain ⟨b2, o2, rfl, hc2⟩ := (HX2.out.below hBq.out).resolve_left (fun e => by subst e; simp at hmk)
          obtain ⟨k1, k2⟩ := hc1 k hlt
          obtain ⟨k3, k4⟩ := hc2 m hmk
          clear hc1 hc2
          generalize hg1 : ps.getD k pl0 = q1 at k1 k2 hne
          generalize hg2 : qs.getD m pl0 = q2 at k3 k4
          have Hg1 := Lib.hid hg1
          have Hg2 := Lib.hid hg2
          clear hg1 hg2
          obtain ⟨d1, s1⟩ := q1
          obtain ⟨d2, s2⟩ := q2
          simp only at k1 k2 k3 k4
          have i1 : (k : Int) < (ps.length : Int) := by omega
          have i0 : (0 : Int) ≤ (k : Int) := by omega
          have i2 : (m : Int) < (qs.length : Int) := by omega
          have i3 : (0 : Int) ≤ (m : Int) := by omega
          by_cases he : d1 = d2 ∧ s1 = s2
          · obtain ⟨rfl, rfl⟩ := he
            have HF := Lib.hid (tt_true (P := Meet ps qs) ⟨k, hlt, m, hmk, by rw [Hg1.out, Hg2.out]⟩)
            go_wp2_with fail
            go_quiet (fail)
            go_wp2
            go_ret
            exact ⟨ret_bool' HF.out.symm, belowN (HB.out.trans (hBq.out.mono HB.out.size)) _⟩
          · have HN : Hid (∀ j, j < m + 1 → qs.getD j pl0 ≠ (d1, s1)) := fun j hj => by
              by_cases e : j = m
              · subst e
                rw [Hg2.out]
                intro h
                injection h with h1 h2
                exact he ⟨h1.symm, h2.symm⟩
              · exact hne.out j (by omega)
            by_cases h1 : d1 = d2
            · subst h1
              have h2 : (s1 == s2) = false := by simp; exact fun h => he ⟨rfl, h⟩
              clear he
              go_wp2_with fail
              go_quiet (fail)
              go_wp2
              exact ⟨⟨m + 1, by go_num, by omega, belowN hBq.out _, HN⟩, by simp [intOf]; omega⟩
            · have h2 : (d1 == d2) = false := by simp [h1]
              clear he h1
              go_wp2_with fail
              go_quiet (fail)
              go_wp2
              exact ⟨⟨m + 1, by go_num, by omega, belowN hBq.out _, HN⟩, by simp [intOf]; omega⟩
        · have HN : Hid (∀ j, j < k + 1 → ¬PlIn (ps.getD j pl0) qs) := fun j hj => by
            by_cases e : j = k
            · subst e
              exact fun ⟨i, hi, h⟩ => hne.out i (by omega) h
            · exact hall.out j (by omega)
          go_wp2
          exact ⟨⟨k + 1, by go_num, by omega, hBq, HN⟩, by simp [intOf]; omega⟩
    · have HF := Lib.hid (tt_false (P := Meet ps qs) (fun ⟨j, hj, h⟩ => hall.out j (by omega) h))
      go_wp2
      go_ret
      exact ⟨ret_bool' HF.out.symm, HB.out.trans (hBr.out.mono HB.out.size)⟩

set_option maxRecDepth 100000 in
set_option maxHeartbeats 1000000 in
theorem l2Same_any (z s z2 s2 : Int) (a a2 : Option Addr) (cap cap2 : Nat) (ps qs : List PlD) (w : World) (hl : ps.length ≤ maxLen) (hl2 : qs.length ≤ maxLen) (hx : Hid (PlacesAt w a ps)) (hx2 : Hid (PlacesAt w a2 qs)) :
    Calls Tryz.prog 85 #[.agg #[.int .i64 z, .int .i64 s, .slice a ps.length cap], .agg #[.int .i64 z2, .int .i64 s2, .slice a2 qs.length cap2]] w fun e w' => e = .returned (.bool (tt (Same ⟨z, s, ps⟩ ⟨z2, s2, qs⟩))) ∧ Below w.heap.size w w' := by
  unfold maxLen at hl hl2
  have HE := Lib.hid (ptr_eq (z := z) (s := s) (z2 := z2) (s2 := s2) (ps := ps) (qs := qs))
  have hB : Below w.heap.size w ((w.alloc (.cells #[.int .i64 z, .int .i64 s, .slice a ps.length cap] 65)).alloc (.cells #[.int .i64 z2, .int .i64 s2, .slice a2 qs.length cap2] 65)) := ((Below.refl _ _).alloc (Nat.le_refl _) _).alloc (by simp) _
  have HB := Lib.hid hB
  have HX := Lib.hid (hx.out.below hB)
  have HX2 := Lib.hid (hx2.out.below hB)
  have c1 : ((w.alloc (.cells #[.int .i64 z, .int .i64 s, .slice a ps.length cap] 65)).alloc (.cells #[.int .i64 z2, .int .i64 s2, .slice a2 qs.length cap2] 65)).cell? ⟨w.heap.size, 2, none⟩ = some (.slice a ps.length cap) := cell_below ((Below.refl _ _).alloc (Nat.le_refl _) _) (by rw [World.cell?_alloc_mark]; rfl)
  have c2 : ((w.alloc (.cells #[.int .i64 z, .int .i64 s, .slice a ps.length cap] 65)).alloc (.cells #[.int .i64 z2, .int .i64 s2, .slice a2 qs.length cap2] 65)).cell? ⟨w.heap.size + 1, 2, none⟩ = some (.slice a2 qs.length cap2) := by
    have := World.cell?_alloc_mark (w.alloc (.cells #[.int .i64 z, .int .i64 s, .slice a ps.length cap] 65)) #[.int .i64 z2, .int .i64 s2, .slice a2 qs.length cap2] 65 (0, 0) 2
    simp only [World.size_alloc] at this
    rw [this]; rfl
  have H1 := Lib.hid c1
  have H2 := Lib.hid c2
  clear hB c1 c2
  by_cases h1 : z = z2
  · subst h1
    have d1 : (z != z) = false := by simp
    by_cases h2 : s = s2
    · subst h2
      have d2 : (s != s) = false := by simp
      by_cases hn : ps.length = qs.length
      · have d0 : ((ps.length : Int) != (qs.length : Int)) = false := by simp; omega
        have Hn := Lib.hid hn
        have hle : ps.length ≤ qs.length := by omega
        clear hn
        have HF := Lib.hid (tt_congr (HE.out.trans ⟨fun h => h.2.2, fun h => ⟨rfl, rfl, h⟩⟩))
        go_enter Tryz.func85, Tryz.ntmps85
        go_wp2_with fail
        generalize (w.alloc (.cells #[.int .i64 z, .int .i64 s, .slice a ps.length cap] 65)).alloc (.cells #[.int .i64 z, .int .i64 s, .slice a2 qs.length cap2] 65) = w1 at HB HX HX2 H1 H2 ⊢
        go_loopw [5] (fun i wr => ∃ k : Nat, i = .int .i64 (k : Int) ∧ k ≤ ps.length ∧ Hid (Below w1.heap.size w1 wr) ∧ Hid (∀ j, j < k → ps.getD j pl0 = qs.getD j pl0)) (fun i _ => ps.length - (intOf i).toNat)
        case atStart => exact ⟨0, rfl, by omega, Below.refl _ _, fun j hj => by omega⟩
        case round =>
          obtain ⟨k, rfl, hk, hBr, hall⟩ := hrel
          have c1 := cell_below hBr.out H1.out
          have c2 := cell_below hBr.out H2.out
          by_cases hlt : k < ps.length
          · have hlt2 : k < qs.length := by omega
            obtain ⟨b1, o1, rfl, hc1⟩ := (HX.out.below hBr.out).resolve_left (fun e => by subst e; simp at hlt)
            obtain ⟨b2, o2, rfl, hc2⟩ := (HX2.out.below hBr.out).resolve_left (fun e => by subst e; simp at hlt2)
            obtain ⟨k1, k2⟩ := hc1 k hlt
            obtain ⟨k3, k4⟩ := hc2 k hlt2
            clear hc1 hc2
            generalize hg1 : ps.getD k pl0 = q1 at k1 k2
            generalize hg2 : qs.getD k pl0 = q2 at k3 k4
            have Hg1 := Lib.hid hg1
            have Hg2 := Lib.hid hg2
            clear hg1 hg2
            obtain ⟨e1, t1⟩ := q1
            obtain ⟨e2, t2⟩ := q2
            simp only at k1 k2 k3 k4
            have i1 : (k : Int) < (ps.length : Int) := by omega
            have i0 : (0 : Int) ≤ (k : Int) := by omega
            have i2 : (k : Int) < (qs.length : Int) := by omega
            by_cases he : e1 = e2 ∧ t1 = t2
            · obtain ⟨rfl, rfl⟩ := he
              have HN : Hid (∀ j, j < k + 1 → ps.getD j pl0 = qs.getD j pl0) := fun j hj => by
                by_cases e : j = k
                · subst e; rw [Hg1.out, Hg2.out]
                · exact hall.out j (by omega)
              go_wp2_with fail
              go_quiet (fail)
              go_wp2
              exact ⟨⟨k + 1, by go_num, by omega, belowN hBr.out _, HN⟩, by simp [intOf]; omega⟩
            · have HG := Lib.hid (HF.out.trans (tt_false (fun h => he (by
                have h1 := Hg1.out
                rw [h, Hg2.out] at h1
                injection h1 with h1 h2
                exact ⟨h1.symm, h2.symm⟩))))
              by_cases h1 : e1 = e2
              · subst h1
                have h2 : (t1 == t2) = false := by simp; exact fun h => he ⟨rfl, h⟩
                clear he
                go_wp2_with fail
                go_quiet (fail)
                go_wp2
                go_ret
                exact ⟨ret_bool' HG.out.symm, belowN (HB.out.trans (hBr.out.mono HB.out.size)) _⟩
              · have h2 : (e1 == e2) = false := by simp [h1]
                clear he h1
                go_wp2_with fail
                go_quiet (fail)
                go_wp2
                go_ret
                exact ⟨ret_bool' HG.out.symm, belowN (HB.out.trans (hBr.out.mono HB.out.size)) _⟩
          · have HG := Lib.hid (HF.out.trans (tt_true (list_eq Hn.out (fun j hj => hall.out j (by omega)))))
            go_wp2
            go_ret
            exact ⟨ret_bool' HG.out.symm, HB.out.trans (hBr.out.mono HB.out.size)⟩
      · have d0 : ((ps.length : Int) != (qs.length : Int)) = true := by simp; omega
        have HF := Lib.hid (tt_false (fun h => hn (by rw [(HE.out.1 h).2.2])))
        clear hn H1 H2
        go_enter Tryz.func85, Tryz.ntmps85
        go_wp2
        go_ret
        exact ⟨ret_bool' HF.out.symm, HB.out⟩
    · have d2 : (s != s2) = true := by simp [h2]
      have HF := Lib.hid (tt_false (fun h => h2 (HE.out.1 h).2.1))
      clear h2 H1 H2
      go_enter Tryz.func85, Tryz.ntmps85
      go_wp2
      go_ret
      exact ⟨ret_bool' HF.out.symm, HB.out⟩
  · have d1 : (z != z2) = true := by simp [h1]
    have HF := Lib.hid (tt_false (fun h => h1 (HE.out.1 h).1))
    clear h1 H1 H2
    go_enter Tryz.func85, Tryz.ntmps85
    go_wp2
    go_ret
    exact ⟨ret_bool' HF.out.symm, HB.out⟩

end Go.Proofs.YtceielkcplcccaaGreatDoor

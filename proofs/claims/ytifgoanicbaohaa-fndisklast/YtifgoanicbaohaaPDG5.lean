/- Small functions of chapter 3: states, slots, texts, writes; whether something holds of each of a list. Conditions: none. -/
import Derived.Test.YtifgoanicbaohaaPDGT5
import Derived.Test.YtifgoanicbaohaaPDG0
namespace Go.Proofs.Ytifgoanicbaohaa
open Go.RowKit Go.Sort

/-- HOW A DISK MAY BE. -/
def StateOk (s : Int) : Prop := 0 ≤ s ∧ s ≤ 2
set_option maxHeartbeats 400000 in
theorem isState_any (s : Int) (w : World) :
    Calls Try.prog 30 #[.int .i64 s] w fun e w' => e = .returned (.bool (tt (StateOk s))) ∧ w = w' := by
  by_cases h0 : s = 0
  · subst h0
    rw [tt_true (show StateOk 0 by unfold StateOk; omega)]
    go_enter Try.func30, Try.ntmps30
    go_wp2
    go_ret
    exact ⟨rfl, rfl⟩
  · have d0 : (s == 0) = false := by simpa using h0
    by_cases h1 : s = 1
    · subst h1
      rw [tt_true (show StateOk 1 by unfold StateOk; omega)]
      clear h0
      go_enter Try.func30, Try.ntmps30
      go_wp2
      go_ret
      exact ⟨rfl, rfl⟩
    · have d1 : (s == 1) = false := by simpa using h1
      have H0 : (s == 2) = tt (StateOk s) := by
        by_cases h2 : s = 2
        · subst h2; rw [tt_true (show StateOk 2 by unfold StateOk; omega)]; rfl
        · rw [tt_false (show ¬StateOk s by unfold StateOk; omega)]; simpa using h2
      have H := Lib.hid H0
      clear H0
      clear h0 h1
      go_enter Try.func30, Try.ntmps30
      go_wp2
      go_ret
      exact ⟨ret_bool' H.out, rfl⟩

def SlotOk (n : Int) : Prop := 0 ≤ n ∧ n ≤ 11
set_option maxHeartbeats 400000 in
theorem isSlot_any (n : Int) (w : World) :
    Calls Try.prog 38 #[.int .i64 n] w fun e w' => e = .returned (.bool (tt (SlotOk n))) ∧ w = w' := by
  by_cases h0 : 0 ≤ n
  · have d0 : decide (0 ≤ n) = true := by simpa using h0
    have H0 : decide (n < 12) = tt (SlotOk n) := by
      by_cases h2 : n < 12
      · rw [tt_true (show SlotOk n by unfold SlotOk; omega)]; simpa using h2
      · rw [tt_false (show ¬SlotOk n by unfold SlotOk; omega)]; simpa using h2
    have H := Lib.hid H0
    clear H0
    go_enter Try.func38, Try.ntmps38
    go_wp2
    go_ret
    exact ⟨ret_bool' H.out, rfl⟩
  · have d0 : decide (0 ≤ n) = false := by simpa using h0
    rw [tt_false (show ¬SlotOk n by unfold SlotOk; omega)]
    go_enter Try.func38, Try.ntmps38
    go_wp2
    go_ret
    exact ⟨rfl, rfl⟩

def Col3 (s : ByteArray) : Prop := s.size = 3
def Ring7 (s : ByteArray) : Prop := s.size ≤ 700
set_option maxHeartbeats 400000 in
theorem isEmpty_any (s : ByteArray) (w : World) :
    Calls Try.prog 46 #[.string s] w fun e w' => e = .returned (.bool (tt (Empty0 s))) ∧ w = w' := by
  by_cases h : s.size = 0
  · rw [tt_true (show Empty0 s from h)]
    obtain rfl := tx_none h
    clear h
    go_enter Try.func46, Try.ntmps46
    go_wp2
    go_ret
    exact ⟨rfl, rfl⟩
  · rw [tt_false (show ¬Empty0 s from h)]
    have hh := tx_some h
    go_enter Try.func46, Try.ntmps46
    go_wp2
    go_ret
    exact ⟨rfl, rfl⟩
set_option maxHeartbeats 400000 in
theorem isColumn_any (s : ByteArray) (w : World) :
    Calls Try.prog 55 #[.string s] w fun e w' => e = .returned (.bool (tt (Col3 s))) ∧ w = w' := by
  have H0 : ((s.size : Int) == 3) = tt (Col3 s) := by
    by_cases h2 : s.size = 3
    · rw [tt_true (show Col3 s from h2)]; simp; omega
    · rw [tt_false (show ¬Col3 s from h2)]; simp; omega
  have H := Lib.hid H0
  clear H0
  go_enter Try.func55, Try.ntmps55
  go_wp2
  go_ret
  exact ⟨ret_bool' H.out, rfl⟩
set_option maxHeartbeats 400000 in
theorem isRingText_any (s : ByteArray) (w : World) :
    Calls Try.prog 34 #[.string s] w fun e w' => e = .returned (.bool (tt (Ring7 s))) ∧ w = w' := by
  have H0 : decide ((s.size : Int) ≤ 700) = tt (Ring7 s) := by
    by_cases h2 : s.size ≤ 700
    · rw [tt_true (show Ring7 s from h2)]; simp; omega
    · rw [tt_false (show ¬Ring7 s from h2)]; simp; omega
  have H := Lib.hid H0
  clear H0
  go_enter Try.func34, Try.ntmps34
  go_wp2
  go_ret
  exact ⟨ret_bool' H.out, rfl⟩

/-- A WRITE IS ONE. -/
def PutOk (p : PutD) : Prop := if p.ring then (0 ≤ p.pos ∧ p.pos ≤ 1) ∧ p.text.size ≤ 700 else SlotOk p.pos ∧ p.text.size = 3

set_option maxHeartbeats 1000000 in
theorem isPut_any (r : Bool) (z : Int) (s : ByteArray) (w : World) :
    Calls Try.prog 36 #[.agg #[.bool r, .int .i64 z, .string s]] w fun e w' => e = .returned (.bool (tt (PutOk ⟨r, z, s⟩))) ∧ Below w.heap.size w w' := by
  have hB : Below w.heap.size w (w.alloc (.cells #[.bool r, .int .i64 z, .string s] 33)) := (Below.refl _ _).alloc (Nat.le_refl _) _
  have HB := Lib.hid hB
  clear hB
  cases r
  · have HP : Hid (tt (PutOk ⟨false, z, s⟩) = tt (SlotOk z ∧ Col3 s)) := tt_congr (by unfold PutOk; exact Iff.rfl)
    rw [HP.out]
    by_cases h : SlotOk z
    · have H : Hid (tt (SlotOk z ∧ Col3 s) = tt (Col3 s)) := tt_congr ⟨fun k => k.2, fun k => ⟨h, k⟩⟩
      have HS := Lib.hid (fun w' => isSlot_any z w')
      rw [tt_true h] at HS
      clear h
      go_enter Try.func36, Try.ntmps36
      go_wp2_with fail
      refine (HS.out _).mono ?_
      rintro e w1 ⟨rfl, rfl⟩
      go_wp2_with fail
      refine (isColumn_any s _).mono ?_
      rintro e w1 ⟨rfl, rfl⟩
      generalize tt (Col3 s) = b at H
      go_wp2
      go_ret
      exact ⟨ret_bool' H.out.symm, HB.out⟩
    · rw [tt_false (fun k => h k.1)]
      have HS := Lib.hid (fun w' => isSlot_any z w')
      rw [tt_false h] at HS
      clear h
      go_enter Try.func36, Try.ntmps36
      go_wp2_with fail
      refine (HS.out _).mono ?_
      rintro e w1 ⟨rfl, rfl⟩
      go_wp2
      go_ret
      exact ⟨rfl, HB.out⟩
  · have HP : Hid (tt (PutOk ⟨true, z, s⟩) = tt ((0 ≤ z ∧ z ≤ 1) ∧ Ring7 s)) := tt_congr (by unfold PutOk; exact Iff.rfl)
    rw [HP.out]
    by_cases h0 : 0 ≤ z
    · have d0 : decide (0 ≤ z) = true := by simpa using h0
      by_cases h1 : z < 2
      · have d1 : decide (z < 2) = true := by simpa using h1
        have H : Hid (tt ((0 ≤ z ∧ z ≤ 1) ∧ Ring7 s) = tt (Ring7 s)) := tt_congr ⟨fun k => k.2, fun k => ⟨by omega, k⟩⟩
        go_enter Try.func36, Try.ntmps36
        go_wp2_with fail
        refine (isRingText_any s _).mono ?_
        rintro e w1 ⟨rfl, rfl⟩
        generalize tt (Ring7 s) = b at H
        go_wp2
        go_ret
        exact ⟨ret_bool' H.out.symm, HB.out⟩
      · have d1 : decide (z < 2) = false := by simpa using h1
        rw [tt_false (fun k => by omega)]
        go_enter Try.func36, Try.ntmps36
        go_wp2
        go_ret
        exact ⟨rfl, HB.out⟩
    · have d0 : decide (0 ≤ z) = false := by simpa using h0
      rw [tt_false (fun k => by omega)]
      go_enter Try.func36, Try.ntmps36
      go_wp2
      go_ret
      exact ⟨rfl, HB.out⟩

set_option maxHeartbeats 1000000 in
theorem l3Put_any (r : Bool) (z : Int) (s : ByteArray) (w : World) :
    Calls Try.prog 44 #[.agg #[.bool r, .int .i64 z, .string s]] w fun e w' => e = .returned (.bool (tt (PutOk ⟨r, z, s⟩))) ∧ Below w.heap.size w w' := by
  have hB : Below w.heap.size w (w.alloc (.cells #[.bool r, .int .i64 z, .string s] 33)) := (Below.refl _ _).alloc (Nat.le_refl _) _
  have HB := Lib.hid hB
  clear hB
  cases r
  · have HP : Hid (tt (PutOk ⟨false, z, s⟩) = tt ((0 ≤ z ∧ z ≤ 11) ∧ s.size = 3)) := tt_congr (by unfold PutOk; exact Iff.rfl)
    rw [HP.out]
    have HS := Lib.hid (fun w' => l6_any z 0 11 w')
    by_cases h : 0 ≤ z ∧ z ≤ 11
    · have H0 : tt ((0 ≤ z ∧ z ≤ 11) ∧ s.size = 3) = ((s.size : Int) == 3) := by
        by_cases h2 : s.size = 3
        · rw [tt_true ⟨h, h2⟩]; symm; simp; omega
        · rw [tt_false (fun k => h2 k.2)]; symm; simp; omega
      have H := Lib.hid H0
      clear H0
      rw [tt_true h] at HS
      clear h
      go_enter Try.func44, Try.ntmps44
      go_wp2_with fail
      refine (HS.out _).mono ?_
      rintro e w1 ⟨rfl, rfl⟩
      go_wp2
      go_ret
      exact ⟨ret_bool' H.out.symm, HB.out⟩
    · rw [tt_false (fun k => h k.1)]
      rw [tt_false h] at HS
      clear h
      go_enter Try.func44, Try.ntmps44
      go_wp2_with fail
      refine (HS.out _).mono ?_
      rintro e w1 ⟨rfl, rfl⟩
      go_wp2
      go_ret
      exact ⟨rfl, HB.out⟩
  · have HP : Hid (tt (PutOk ⟨true, z, s⟩) = tt ((0 ≤ z ∧ z ≤ 1) ∧ s.size ≤ 700)) := tt_congr (by unfold PutOk; exact Iff.rfl)
    rw [HP.out]
    have HS := Lib.hid (fun w' => l6_any z 0 1 w')
    by_cases h : 0 ≤ z ∧ z ≤ 1
    · have H0 : tt ((0 ≤ z ∧ z ≤ 1) ∧ s.size ≤ 700) = decide ((s.size : Int) ≤ 700) := by
        by_cases h2 : s.size ≤ 700
        · rw [tt_true ⟨h, h2⟩]; symm; simp; omega
        · rw [tt_false (fun k => h2 k.2)]; symm; simp; omega
      have H := Lib.hid H0
      clear H0
      rw [tt_true h] at HS
      clear h
      go_enter Try.func44, Try.ntmps44
      go_wp2_with fail
      refine (HS.out _).mono ?_
      rintro e w1 ⟨rfl, rfl⟩
      go_wp2
      go_ret
      exact ⟨ret_bool' H.out.symm, HB.out⟩
    · rw [tt_false (fun k => h k.1)]
      rw [tt_false h] at HS
      clear h
      go_enter Try.func44, Try.ntmps44
      go_wp2_with fail
      refine (HS.out _).mono ?_
      rintro e w1 ⟨rfl, rfl⟩
      go_wp2
      go_ret
      exact ⟨rfl, HB.out⟩

def AllPu (P : PutD → Prop) (xs : List PutD) : Prop := ∀ j, j < xs.length → P (xs.getD j put0)

set_option maxRecDepth 100000 in
set_option maxHeartbeats 1000000 in
theorem allPu_any (a : Option Addr) (cap : Nat) (xs : List PutD) (w : World) (eg : ∀ args w, (callFunc 36 args).run Try.prog w = .ok (.enter 36 args) w) (hl : xs.length ≤ maxLen) (hx : Hid (PuAt w a xs)) :
    Calls Try.prog 35 #[.slice a xs.length cap, .func (.func 36) #[] #[]] w fun e w' => e = .returned (.bool (tt (AllPu PutOk xs))) ∧ Below w.heap.size w w' := by
  unfold maxLen at hl
  go_enter Try.func35, Try.ntmps35
  go_wp2_with fail
  go_loopw [9] (fun i wr => ∃ k : Nat, i = .int .i64 (k : Int) ∧ k ≤ xs.length ∧ Hid (Below w.heap.size w wr) ∧ Hid (∀ j, j < k → PutOk (xs.getD j put0))) (fun i _ => xs.length - (intOf i).toNat)
  case atStart => exact ⟨0, rfl, by omega, Below.refl _ _, fun j hj => by omega⟩
  case round =>
    obtain ⟨k, rfl, hk, hB, hall⟩ := hrel
    by_cases hlt : k < xs.length
    · obtain ⟨b, off, rfl, hc⟩ := (hx.out.below hB.out).resolve_left (fun e => by subst e; simp at hlt)
      obtain ⟨c0, c1, c2⟩ := hc k hlt
      clear hc
      generalize hg : xs.getD k put0 = q at c0 c1 c2
      have Hg := Lib.hid hg
      clear hg
      obtain ⟨r, z, s⟩ := q
      simp only at c0 c1 c2
      have HC := Lib.hid (fun W => isPut_any r z s W)
      have HB0 : Hid (Below w.heap.size w (wr.alloc (.cells #[.bool r, .int .i64 z, .string s] 33))) := hB.out.alloc hB.out.size _
      by_cases hP : PutOk ⟨r, z, s⟩
      · rw [tt_true hP] at HC
        have HN : Hid (∀ j, j < k + 1 → PutOk (xs.getD j put0)) := fun j hj => by
          by_cases e : j = k
          · subst e; rw [Hg.out]; exact hP
          · exact hall.out j (by omega)
        clear hP
        go_wp2_with fail
        refine (HC.out _).mono ?_
        rintro e w2 ⟨rfl, hB2⟩
        have HB2 := Lib.hid (below_trans HB0.out hB2 HB0.out.size)
        clear hB2
        go_wp2
        exact ⟨⟨k + 1, by go_num, by omega, HB2, HN⟩, by simp [intOf]; omega⟩
      · rw [tt_false hP] at HC
        have HF : Hid (tt (AllPu PutOk xs) = false) := tt_false (fun h => hP (by rw [← Hg.out]; exact h k hlt))
        clear hP
        go_wp2_with fail
        refine (HC.out _).mono ?_
        rintro e w2 ⟨rfl, hB2⟩
        have HB2 := Lib.hid (below_trans HB0.out hB2 HB0.out.size)
        clear hB2
        go_wp2
        go_ret
        exact ⟨ret_bool' HF.out.symm, HB2.out⟩
    · have HF : Hid (tt (AllPu PutOk xs) = true) := tt_true (fun j hj => hall.out j (by omega))
      go_wp2
      go_ret
      exact ⟨ret_bool' HF.out.symm, hB.out⟩

end Go.Proofs.Ytifgoanicbaohaa

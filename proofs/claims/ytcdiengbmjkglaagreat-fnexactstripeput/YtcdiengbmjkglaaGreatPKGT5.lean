/- Texts that are empty; numbers within bounds; whether something holds of each of a list of texts. Conditions: none. Small functions of chapter 3: states, slots, texts, writes; whether something holds of each of a list. Conditions: none. -/
import Derived.Test.YtcdiengbmjkglaaGreatPKGT
import Derived.Test.YtcdiengbmjkglaaGreatPKG0
namespace Go.Proofs.YtcdiengbmjkglaaGreat
open Go.RowKit Go.Sort

theorem tx_some {p : ByteArray} (h : p.size ≠ 0) : p.toList.isEmpty = false := by
  rw [ByteArray.toList_eq]
  cases hp : p.data.toList with
  | nil =>
    have : p.data.toList.length = 0 := by rw [hp]; rfl
    have h2 : p.data.toList.length = p.size := by simp
    omega
  | cons x l => rfl
theorem tx_none {p : ByteArray} (h : p.size = 0) : p = ByteArray.empty := by
  rcases p with ⟨⟨l⟩⟩
  have : l = [] := List.eq_nil_of_length_eq_zero h
  subst this
  rfl

set_option maxHeartbeats 400000 in
theorem l6_any (n lo hi : Int) (w : World) :
    Calls Tryz.prog 96 #[.int .i64 n, .int .i64 lo, .int .i64 hi] w fun e w' => e = .returned (.bool (tt (lo ≤ n ∧ n ≤ hi))) ∧ w = w' := by
  by_cases hl : lo ≤ n
  · have h1 : decide (lo ≤ n) = true := by simp; omega
    by_cases hh : n ≤ hi
    · have h2 : decide (n ≤ hi) = true := by simp; omega
      rw [tt_true ⟨hl, hh⟩]
      go_enter Tryz.func96, Tryz.ntmps96
      go_wp2
      go_ret
      exact ⟨rfl, rfl⟩
    · have h2 : decide (n ≤ hi) = false := by simp; omega
      rw [tt_false (fun h => hh h.2)]
      go_enter Tryz.func96, Tryz.ntmps96
      go_wp2
      go_ret
      exact ⟨rfl, rfl⟩
  · have h1 : decide (lo ≤ n) = false := by simp; omega
    rw [tt_false (fun h => hl h.1)]
    go_enter Tryz.func96, Tryz.ntmps96
    go_wp2
    go_ret
    exact ⟨rfl, rfl⟩

def Empty0 (s : ByteArray) : Prop := s.size = 0
/-- OF EACH. -/
def AllTx (P : ByteArray → Prop) (xs : List ByteArray) : Prop := ∀ j, j < xs.length → P (xs.getD j ByteArray.empty)
set_option maxRecDepth 100000 in
set_option maxHeartbeats 1000000 in
theorem allTx_any (g : Nat) (P : ByteArray → Prop) (a : Option Addr) (cap : Nat) (xs : List ByteArray) (w : World) (eg : ∀ args w, (callFunc g args).run Tryz.prog w = .ok (.enter g args) w)
    (hp : Hid (∀ s W, Calls Tryz.prog g #[.string s] W fun e w' => e = .returned (.bool (tt (P s))) ∧ W = w')) (hl : xs.length ≤ maxLen) (hx : Hid (TxAt w a xs)) :
    Calls Tryz.prog 118 #[.slice a xs.length cap, .func (.func g) #[] #[]] w fun e w' => e = .returned (.bool (tt (AllTx P xs))) ∧ w = w' := by
  unfold maxLen at hl
  go_enter Tryz.func118, Tryz.ntmps118
  go_wp2_with fail
  go_loop [9] (fun i => ∃ k : Nat, i = .int .i64 (k : Int) ∧ k ≤ xs.length ∧ Hid (∀ j, j < k → P (xs.getD j ByteArray.empty))) (fun i => xs.length - (intOf i).toNat)
  case atStart => exact ⟨0, rfl, by omega, fun j hj => by omega⟩
  case round =>
    obtain ⟨k, rfl, hk, hall⟩ := hrel
    by_cases hlt : k < xs.length
    · obtain ⟨b, off, rfl, hc⟩ := hx.out.resolve_left (fun e => by subst e; simp at hlt)
      have hck := hc k hlt
      clear hc
      generalize hg : xs.getD k ByteArray.empty = q at hck
      have Hg := Lib.hid hg
      clear hg
      have HC := Lib.hid (fun W => hp.out q W)
      by_cases hP : P q
      · rw [tt_true hP] at HC
        have HN : Hid (∀ j, j < k + 1 → P (xs.getD j ByteArray.empty)) := fun j hj => by
          by_cases e : j = k
          · subst e; rw [Hg.out]; exact hP
          · exact hall.out j (by omega)
        clear hP
        go_wp2_with fail
        refine (HC.out _).mono ?_
        rintro e w2 ⟨rfl, rfl⟩
        go_wp2
        exact ⟨⟨k + 1, by go_num, by omega, HN⟩, by simp [intOf]; omega⟩
      · rw [tt_false hP] at HC
        have HF : Hid (tt (AllTx P xs) = false) := tt_false (fun h => hP (by rw [← Hg.out]; exact h k hlt))
        clear hP
        go_wp2_with fail
        refine (HC.out _).mono ?_
        rintro e w2 ⟨rfl, rfl⟩
        go_wp2
        go_ret
        exact ⟨ret_bool' HF.out.symm, rfl⟩
    · have HF : Hid (tt (AllTx P xs) = true) := tt_true (fun j hj => hall.out j (by omega))
      go_wp2
      go_ret
      exact ⟨ret_bool' HF.out.symm, rfl⟩

end Go.Proofs.YtcdiengbmjkglaaGreat

namespace Go.Proofs.YtcdiengbmjkglaaGreat
open Go.RowKit Go.Sort

/-- HOW A DISK MAY BE. -/
def StateOk (s : Int) : Prop := 0 ≤ s ∧ s ≤ 2
set_option maxHeartbeats 400000 in
theorem isState_any (s : Int) (w : World) :
    Calls Tryz.prog 115 #[.int .i64 s] w fun e w' => e = .returned (.bool (tt (StateOk s))) ∧ w = w' := by
  by_cases h0 : s = 0
  · subst h0
    rw [tt_true (show StateOk 0 by unfold StateOk; omega)]
    go_enter Tryz.func115, Tryz.ntmps115
    go_wp2
    go_ret
    exact ⟨rfl, rfl⟩
  · have d0 : (s == 0) = false := by simpa using h0
    by_cases h1 : s = 1
    · subst h1
      rw [tt_true (show StateOk 1 by unfold StateOk; omega)]
      clear h0
      go_enter Tryz.func115, Tryz.ntmps115
      go_wp2
      go_ret
      exact ⟨rfl, rfl⟩
    · have d1 : (s == 1) = false := by simpa using h1
      have H0 : (s == 2) = tt (StateOk s) := by
        by_cases h2 : s = 2
        · subst h2; rw [tt_true (show StateOk 2 by unfold StateOk; omega)]; rfl
        · rw [tt_false (show ¬StateOk s by unfold StateOk; omega)]; simpa using h2
      have H := Lib.hid H0
      clear H0
      clear h0 h1
      go_enter Tryz.func115, Tryz.ntmps115
      go_wp2
      go_ret
      exact ⟨ret_bool' H.out, rfl⟩

def SlotOk (n : Int) : Prop := 0 ≤ n ∧ n ≤ 11
set_option maxHeartbeats 400000 in
theorem isSlot_any (n : Int) (w : World) :
    Calls Tryz.prog 53 #[.int .i64 n] w fun e w' => e = .returned (.bool (tt (SlotOk n))) ∧ w = w' := by
  by_cases h0 : 0 ≤ n
  · have d0 : decide (0 ≤ n) = true := by simpa using h0
    have H0 : decide (n < 12) = tt (SlotOk n) := by
      by_cases h2 : n < 12
      · rw [tt_true (show SlotOk n by unfold SlotOk; omega)]; simpa using h2
      · rw [tt_false (show ¬SlotOk n by unfold SlotOk; omega)]; simpa using h2
    have H := Lib.hid H0
    clear H0
    go_enter Tryz.func53, Tryz.ntmps53
    go_wp2
    go_ret
    exact ⟨ret_bool' H.out, rfl⟩
  · have d0 : decide (0 ≤ n) = false := by simpa using h0
    rw [tt_false (show ¬SlotOk n by unfold SlotOk; omega)]
    go_enter Tryz.func53, Tryz.ntmps53
    go_wp2
    go_ret
    exact ⟨rfl, rfl⟩

def Col3 (s : ByteArray) : Prop := s.size = 3
def Ring7 (s : ByteArray) : Prop := s.size ≤ 700
set_option maxHeartbeats 400000 in
theorem isEmpty_any (s : ByteArray) (w : World) :
    Calls Tryz.prog 55 #[.string s] w fun e w' => e = .returned (.bool (tt (Empty0 s))) ∧ w = w' := by
  by_cases h : s.size = 0
  · rw [tt_true (show Empty0 s from h)]
    obtain rfl := tx_none h
    clear h
    go_enter Tryz.func55, Tryz.ntmps55
    go_wp2
    go_ret
    exact ⟨rfl, rfl⟩
  · rw [tt_false (show ¬Empty0 s from h)]
    have hh := tx_some h
    go_enter Tryz.func55, Tryz.ntmps55
    go_wp2
    go_ret
    exact ⟨rfl, rfl⟩
set_option maxHeartbeats 400000 in
theorem isColumn_any (s : ByteArray) (w : World) :
    Calls Tryz.prog 129 #[.string s] w fun e w' => e = .returned (.bool (tt (Col3 s))) ∧ w = w' := by
  have H0 : ((s.size : Int) == 3) = tt (Col3 s) := by
    by_cases h2 : s.size = 3
    · rw [tt_true (show Col3 s from h2)]; simp; omega
    · rw [tt_false (show ¬Col3 s from h2)]; simp; omega
  have H := Lib.hid H0
  clear H0
  go_enter Tryz.func129, Tryz.ntmps129
  go_wp2
  go_ret
  exact ⟨ret_bool' H.out, rfl⟩
set_option maxHeartbeats 400000 in
theorem isRingText_any (s : ByteArray) (w : World) :
    Calls Tryz.prog 119 #[.string s] w fun e w' => e = .returned (.bool (tt (Ring7 s))) ∧ w = w' := by
  have H0 : decide ((s.size : Int) ≤ 700) = tt (Ring7 s) := by
    by_cases h2 : s.size ≤ 700
    · rw [tt_true (show Ring7 s from h2)]; simp; omega
    · rw [tt_false (show ¬Ring7 s from h2)]; simp; omega
  have H := Lib.hid H0
  clear H0
  go_enter Tryz.func119, Tryz.ntmps119
  go_wp2
  go_ret
  exact ⟨ret_bool' H.out, rfl⟩

/-- A WRITE IS ONE. -/
def PutOk (p : PutD) : Prop := if p.ring then (0 ≤ p.pos ∧ p.pos ≤ 1) ∧ p.text.size ≤ 700 else SlotOk p.pos ∧ p.text.size = 3

set_option maxHeartbeats 1000000 in
theorem isPut_any (r : Bool) (z : Int) (s : ByteArray) (w : World) :
    Calls Tryz.prog 110 #[.agg #[.bool r, .int .i64 z, .string s]] w fun e w' => e = .returned (.bool (tt (PutOk ⟨r, z, s⟩))) ∧ Below w.heap.size w w' := by
  have hB : Below w.heap.size w (w.alloc (.cells #[.bool r, .int .i64 z, .string s] 101)) := (Below.refl _ _).alloc (Nat.le_refl _) _
  have HB := Lib.hid hB
  clear hB
  cases r
  · have HP : Hid (tt (PutOk ⟨false, z, s⟩) = tt (SlotOk z ∧ Col3 s)) := tt_congr (by unfold PutOk; exact Iff.rfl)
    rw [HP.out]
    by_cases h : SlotOk z
    · have H : Hid (tt (SlotOk z ∧ Col3 s) = tt (Col3 s)) := tt_congr ⟨fun k => k.2, fun k => ⟨h, k⟩⟩
      have HS := Lib.hid (fun w' => isSlot_any z w')
      rw [tt_true h] at HS
      clear h
      go_enter Tryz.func110, Tryz.ntmps110
      go_wp2_with fail
      refine (HS.out _).mono ?_
      rintro e w1 ⟨rfl, rfl⟩
      go_wp2_with fail
      refine (isColumn_any s _).mono ?_
      rintro e w1 ⟨rfl, rfl⟩
      generalize tt (Col3 s) = b at H
      go_wp2
      go_ret
      exact ⟨ret_bool' H.out.symm, HB.out⟩
    · rw [tt_false (fun k => h k.1)]
      have HS := Lib.hid (fun w' => isSlot_any z w')
      rw [tt_false h] at HS
      clear h
      go_enter Tryz.func110, Tryz.ntmps110
      go_wp2_with fail
      refine (HS.out _).mono ?_
      rintro e w1 ⟨rfl, rfl⟩
      go_wp2
      go_ret
      exact ⟨rfl, HB.out⟩
  · have HP : Hid (tt (PutOk ⟨true, z, s⟩) = tt ((0 ≤ z ∧ z ≤ 1) ∧ Ring7 s)) := tt_congr (by unfold PutOk; exact Iff.rfl)
    rw [HP.out]
    by_cases h0 : 0 ≤ z
    · have d0 : decide (0 ≤ z) = true := by simpa using h0
      by_cases h1 : z < 2
      · have d1 : decide (z < 2) = true := by simpa using h1
        have H : Hid (tt ((0 ≤ z ∧ z ≤ 1) ∧ Ring7 s) = tt (Ring7 s)) := tt_congr ⟨fun k => k.2, fun k => ⟨by omega, k⟩⟩
        go_enter Tryz.func110, Tryz.ntmps110
        go_wp2_with fail
        refine (isRingText_any s _).mono ?_
        rintro e w1 ⟨rfl, rfl⟩
        generalize tt (Ring7 s) = b at H
        go_wp2
        go_ret
        exact ⟨ret_bool' H.out.symm, HB.out⟩
      · have d1 : decide (z < 2) = false := by simpa using h1
        rw [tt_false (fun k => by omega)]
        go_enter Tryz.func110, Tryz.ntmps110
        go_wp2
        go_ret
        exact ⟨rfl, HB.out⟩
    · have d0 : decide (0 ≤ z) = false := by simpa using h0
      rw [tt_false (fun k => by omega)]
      go_enter Tryz.func110, Tryz.ntmps110
      go_wp2
      go_ret
      exact ⟨rfl, HB.out⟩

set_option maxHeartbeats 1000000 in
theorem l3Put_any (r : Bool) (z : Int) (s : ByteArray) (w : World) :
    Calls Tryz.prog 123 #[.agg #[.bool r, .int .i64 z, .string s]] w fun e w' => e = .returned (.bool (tt (PutOk ⟨r, z, s⟩))) ∧ Below w.heap.size w w' := by
  have hB : Below w.heap.size w (w.alloc (.cells #[.bool r, .int .i64 z, .string s] 101)) := (Below.refl _ _).alloc (Nat.le_refl _) _
  have HB := Lib.hid hB
  clear hB
  cases r
  · have HP : Hid (tt (PutOk ⟨false, z, s⟩) = tt ((0 ≤ z ∧ z ≤ 11) ∧ s.size = 3)) := tt_congr (by unfold PutOk; exact Iff.rfl)
    rw [HP.out]
    have HS := Lib.hid (fun w' => l6_any z 0 11 w')
    by_cases h : 0 ≤ z ∧ z ≤ 11
    · have H0 : tt ((0 ≤ z ∧ z ≤ 11) ∧ s.size = 3) = ((s.size : Int) == 3) := by
        by_cases h2 : s.size = 3
        · rw [tt_true ⟨h, h2⟩]; symm; simp; omega
        · rw [tt_false (fun k => h2 k.2)]; symm; simp; omega
      have H := Lib.hid H0
      clear H0
      rw [tt_true h] at HS
      clear h
      go_enter Tryz.func123, Tryz.ntmps123
      go_wp2_with fail
      refine (HS.out _).mono ?_
      rintro e w1 ⟨rfl, rfl⟩
      go_wp2
      go_ret
      exact ⟨ret_bool' H.out.symm, HB.out⟩
    · rw [tt_false (fun k => h k.1)]
      rw [tt_false h] at HS
      clear h
      go_enter Tryz.func123, Tryz.ntmps123
      go_wp2_with fail
      refine (HS.out _).mono ?_
      rintro e w1 ⟨rfl, rfl⟩
      go_wp2
      go_ret
      exact ⟨rfl, HB.out⟩
  · have HP : Hid (tt (PutOk ⟨true, z, s⟩) = tt ((0 ≤ z ∧ z ≤ 1) ∧ s.size ≤ 700)) := tt_congr (by unfold PutOk; exact Iff.rfl)
    rw [HP.out]
    have HS := Lib.hid (fun w' => l6_any z 0 1 w')
    by_cases h : 0 ≤ z ∧ z ≤ 1
    · have H0 : tt ((0 ≤ z ∧ z ≤ 1) ∧ s.size ≤ 700) = decide ((s.size : Int) ≤ 700) := by
        by_cases h2 : s.size ≤ 700
        · rw [tt_true ⟨h, h2⟩]; symm; simp; omega
        · rw [tt_false (fun k => h2 k.2)]; symm; simp; omega
      have H := Lib.hid H0
      clear H0
      rw [tt_true h] at HS
      clear h
      go_enter Tryz.func123, Tryz.ntmps123
      go_wp2_with fail
      refine (HS.out _).mono ?_
      rintro e w1 ⟨rfl, rfl⟩
      go_wp2
      go_ret
      exact ⟨ret_bool' H.out.symm, HB.out⟩
    · rw [tt_false (fun k => h k.1)]
      rw [tt_false h] at HS
      clear h
      go_enter Tryz.func123, Tryz.ntmps123
      go_wp2_with fail
      refine (HS.out _).mono ?_
      rintro e w1 ⟨rfl, rfl⟩
      go_wp2
      go_ret
      exact ⟨rfl, HB.out⟩

def AllPu (P : PutD → Prop) (xs : List PutD) : Prop := ∀ j, j < xs.length → P (xs.getD j put0)

set_option maxRecDepth 100000 in
set_option maxHeartbeats 1000000 in
theorem allPu_any (a : Option Addr) (cap : Nat) (xs : List PutD) (w : World) (eg : ∀ args w, (callFunc 110 args).run Tryz.prog w = .ok (.enter 110 args) w) (hl : xs.length ≤ maxLen) (hx : Hid (PuAt w a xs)) :
    Calls Tryz.prog 120 #[.slice a xs.length cap, .func (.func 110) #[] #[]] w fun e w' => e = .returned (.bool (tt (AllPu PutOk xs))) ∧ Below w.heap.size w w' := by
  unfold maxLen at hl
  go_enter Tryz.func120, Tryz.ntmps120
  go_wp2_with fail
  go_loopw [9] (fun i wr => ∃ k : Nat, i = .int .i64 (k : Int) ∧ k ≤ xs.length ∧ Hid (Below w.heap.size w wr) ∧ Hid (∀ j, j < k → PutOk (xs.getD j put0))) (fun i _ => xs.length - (intOf i).toNat)
  case atStart => exact ⟨0, rfl, by omega, Below.refl _ _, fun j hj => by omega⟩
  case round =>
    obtain ⟨k, rfl, hk, hB, hall⟩ := hrel
    by_cases hlt : k < xs.length
    · obtain ⟨b, off, rfl, hc⟩ := (hx.out.below hB.out).resolve_left (fun e => by subst e; simp at hlt)
      obtain ⟨c0, c1, c2⟩ := hc k hlt
      clear hc
      generalize hg : xs.getD k put0 = q at c0 c1 c2
      have Hg := Lib.hid hg
      clear hg
      obtain ⟨r, z, s⟩ := q
      simp only at c0 c1 c2
      have HC := Lib.hid (fun W => isPut_any r z s W)
      have HB0 : Hid (Below w.heap.size w (wr.alloc (.cells #[.bool r, .int .i64 z, .string s] 101))) := hB.out.alloc hB.out.size _
      by_cases hP : PutOk ⟨r, z, s⟩
      · rw [tt_true hP] at HC
        have HN : Hid (∀ j, j < k + 1 → PutOk (xs.getD j put0)) := fun j hj => by
          by_cases e : j = k
          · subst e; rw [Hg.out]; exact hP
          · exact hall.out j (by omega)
        clear hP
        go_wp2_with fail
        refine (HC.out _).mono ?_
        rintro e w2 ⟨rfl, hB2⟩
        have HB2 := Lib.hid (below_trans HB0.out hB2 HB0.out.size)
        clear hB2
        go_wp2
        exact ⟨⟨k + 1, by go_num, by omega, HB2, HN⟩, by simp [intOf]; omega⟩
      · rw [tt_false hP] at HC
        have HF : Hid (tt (AllPu PutOk xs) = false) := tt_false (fun h => hP (by rw [← Hg.out]; exact h k hlt))
        clear hP
        go_wp2_with fail
        refine (HC.out _).mono ?_
        rintro e w2 ⟨rfl, hB2⟩
        have HB2 := Lib.hid (below_trans HB0.out hB2 HB0.out.size)
        clear hB2
        go_wp2
        go_ret
        exact ⟨ret_bool' HF.out.symm, HB2.out⟩
    · have HF : Hid (tt (AllPu PutOk xs) = true) := tt_true (fun j hj => hall.out j (by omega))
      go_wp2
      go_ret
      exact ⟨ret_bool' HF.out.symm, hB.out⟩

end Go.Proofs.YtcdiengbmjkglaaGreat

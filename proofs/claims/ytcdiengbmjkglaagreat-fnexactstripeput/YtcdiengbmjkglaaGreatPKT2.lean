/- ColsOf of the specification: a text is split into the same columns. Conditions: none but the row's own bound on sizes. Slices of texts, and whether texts are columns. Conditions: none but the row's own bound on sizes. -/
import Derived.Test.YtcdiengbmjkglaaGreatPKM3
namespace Go.Proofs.YtcdiengbmjkglaaGreat
open Go.RowKit Go.Shelf

set_option maxHeartbeats 400000 in
theorem l6In_yes (n lo hi : Int) (w : World) (h : lo ≤ n ∧ n ≤ hi) :
    Calls Tryz.prog 96 #[.int .i64 n, .int .i64 lo, .int .i64 hi] w fun e w' => e = .returned (.bool true) ∧ w = w' := by
  have h1 : decide (lo ≤ n) = true := by simp; omega
  have h2 : decide (n ≤ hi) = true := by simp; omega
  go_enter Tryz.func96, Tryz.ntmps96
  go_wp2
  go_ret
  exact ⟨rfl, rfl⟩

set_option maxHeartbeats 400000 in
theorem l6In_no (n lo hi : Int) (w : World) (h : ¬(lo ≤ n ∧ n ≤ hi)) :
    Calls Tryz.prog 96 #[.int .i64 n, .int .i64 lo, .int .i64 hi] w fun e w' => e = .returned (.bool false) ∧ w = w' := by
  by_cases hl : lo ≤ n
  · have h1 : decide (lo ≤ n) = true := by simp; omega
    have h2 : decide (n ≤ hi) = false := by simp; omega
    clear h
    go_enter Tryz.func96, Tryz.ntmps96
    go_wp2
    go_ret
    exact ⟨rfl, rfl⟩
  · have h1 : decide (lo ≤ n) = false := by simp; omega
    clear h
    go_enter Tryz.func96, Tryz.ntmps96
    go_wp2
    go_ret
    exact ⟨rfl, rfl⟩

/-- A text, cut off, or with noughts behind it. -/
def sec3 (s : ByteArray) : ByteArray := strOfNums [byteAt s 0, byteAt s 1, byteAt s 2]
theorem sec3_size (s : ByteArray) : (sec3 s).size = 3 := by simp [sec3, strOfNums_size]
theorem sec3_byte (s : ByteArray) (j : Nat) (hj : j < 3) : byteAt (sec3 s) j = byteAt s j := by
  unfold sec3
  rw [byteAt_ofNums]
  · match j, hj with
    | 0, _ => rfl
    | 1, _ => rfl
    | 2, _ => rfl
  · intro n
    match n with
    | 0 => exact byteAt_bd _ _
    | 1 => exact byteAt_bd _ _
    | 2 => exact byteAt_bd _ _
    | n + 3 => simp [List.getD]
theorem sec3_cut {s t : ByteArray} (h3 : 3 ≤ t.size) (h : ∀ i, byteAt t i = byteAt s i) : t.extract 0 3 = sec3 s := by
  have hz : (t.extract 0 3).size = 3 := by simp [ByteArray.size_extract]; omega
  refine text_ext (by rw [hz, sec3_size]) fun i hi => ?_
  rw [byteAt_extract, if_pos (by omega), Nat.zero_add, h, sec3_byte s i (by omega)]
theorem sec3_col (s : ByteArray) (k f : Nat) (hf : f = 3 * k) (b : Nat) (hb : s.size ≤ b) : sec3 (s.extract f b) = colOf s k := by
  refine text_ext (by rw [sec3_size, colOf_size]) fun i hi => ?_
  rw [sec3_size] at hi
  rw [sec3_byte _ i hi, colOf_byte s k i hi, byteAt_extract, ← hf]
  by_cases h : f + i < b
  · rw [if_pos h]
  · rw [if_neg h, byteAt_ge (by omega)]
theorem byteAt_nul (s z : ByteArray) (hz : z = ⟨#[0]⟩) (i : Nat) : byteAt (s ++ z) i = byteAt s i := by
  by_cases h : i < s.size
  · unfold byteAt
    rw [show (s ++ z).data.toList = s.data.toList ++ z.data.toList by simp [ByteArray.data_append], List.getElem?_append_left (by simpa using h)]
  · rw [byteAt_ge (s := s) (by omega)]
    subst hz
    unfold byteAt
    rw [show (s ++ (⟨#[0]⟩ : ByteArray)).data.toList = s.data.toList ++ [0] by simp [ByteArray.data_append], List.getElem?_append_right (by simp; omega)]
    cases i - s.data.toList.length <;> rfl

theorem size_nul (s z : ByteArray) (hz : z = ⟨#[0]⟩) : (s ++ z).size = s.size + 1 := by subst hz; rw [ByteArray.size_append]; rfl

/-- The length of a text in a slot. -/
def textLen : Value → Nat
  | .string t => t.size
  | _ => 0

set_option maxRecDepth 100000 in
set_option maxHeartbeats 1000000 in
theorem l1Sec_any (s : ByteArray) (hs : s.size ≤ maxLen) (w : World) :
    Calls Tryz.prog 113 #[.string s] w fun e w' => e = .returned (.string (sec3 s)) ∧ w = w' := by
  unfold maxLen at hs
  go_enter Tryz.func113, Tryz.ntmps113
  go_wp2_with fail
  go_loop [0] (fun v => ∃ t : ByteArray, v = .string t ∧ t.size ≤ 2 ^ 63 - 1 ∧ Hid (∀ i, byteAt t i = byteAt s i)) (fun v => 3 - textLen v)
  case atStart => exact ⟨s, rfl, hs, fun _ => rfl⟩
  case round =>
    obtain ⟨t, rfl, ht, hb⟩ := hrel
    by_cases h3 : t.size < 3
    · go_wp2
      exact ⟨⟨_, rfl, by rw [size_nul _ _ rfl]; omega, fun i => (byteAt_nul t _ rfl i).trans (hb.out i)⟩, by simp only [textLen]; rw [size_nul _ _ rfl]; omega⟩
    · have HX := Lib.hid (sec3_cut (s := s) (t := t) (by omega) hb.out)
      go_wp2
      go_ret
      exact ⟨by rw [← HX.out]; rfl, rfl⟩

set_option maxRecDepth 100000 in
set_option maxHeartbeats 4000000 in
theorem specCols_any (s : ByteArray) (hs : s.size ≤ maxLen) (w : World) :
    Calls Tryz.prog 97 #[.string s] w (NewStrs (colsOf s) w) := by
  have Hs := Lib.hid hs
  unfold maxLen at hs
  obtain ⟨i0, hi0, hz0, hz1, hz2⟩ := info_parts info9
  have hown0 : (w.alloc (.cells #[] 9)).ownsRow w.heap.size 9 1 (.slice (some ⟨w.heap.size, 0, none⟩) 0 0) 0 [] := World.ownsRow_made w #[] 0 (Nat.le_refl _) (by simp [maxLen]) (by simp)
  have hB0 : Below w.heap.size w (w.alloc (.cells #[] 9)) := (Below.refl _ _).alloc (Nat.le_refl _) _
  by_cases h9 : 1 ≤ (s.size : Int) ∧ (s.size : Int) ≤ 9
  · have HE := Lib.hid (show colsOf s = colsTo s ((s.size + 2) / 3) by unfold colsOf; rw [if_pos (by omega)])
    go_enter Tryz.func97, Tryz.ntmps97
    go_wp2_with fail
    refine (l6In_yes _ _ _ _ h9).mono ?_
    rintro e w1 ⟨rfl, rfl⟩
    have Ho := Lib.hid hown0
    have HB := Lib.hid hB0
    clear hown0 hB0
    go_wp2_with fail
    go_loopw [3, 4] (fun o i wr => ∃ k f : Nat, f = 3 * k ∧ f ≤ s.size + 2 ∧ i = .int .i64 (f : Int) ∧ wr.ownsRow w.heap.size 9 1 o k ((colsTo s k).map Value.string) ∧ Below w.heap.size w wr)
      (fun _ i _ => s.size + 3 - (intOf i).toNat)
    case atStart => exact ⟨0, 0, rfl, by omega, rfl, Ho.out, HB.out⟩
    case round =>
      obtain ⟨k, f, hf, hk, rfl, hown, hB⟩ := hrel
      have Hf := Lib.hid hf
      have hk4 : k ≤ 4 := by omega
      clear hf Ho HB
      by_cases hlt : f < s.size
      · have hps : (s.extract f s.size).size ≤ maxLen := by unfold maxLen; simp [ByteArray.size_extract]; omega
        have Hps := Lib.hid hps
        have HX : Hid (sec3 (s.extract f s.size) = colOf s k) := sec3_col s k f Hf.out s.size (Nat.le_refl _)
        have HS := Lib.hid (colsTo_succ s k)
        have hsz : w.heap.size ≤ wr.heap.size := hB.size
        have Hlk : Hid (∀ i, u3.ownBlock = some i → w.heap.size ≤ i) := fun i e => (hown.lt i e).1
        clear hps
        go_wp2_with fail
        refine (l1Sec_any (s.extract f s.size) Hps.out _).mono ?_
        rintro e w1 ⟨rfl, rfl⟩
        rw [HX.out]
        go_wp2_with (at_builtin; refine wpList_append_lies _ rfl _ _ 46 rfl w.heap.size 9 i0 _ 1 16 Tryz.underlying46 hi0 hz0 hz1 hz2 rfl (by omega) _ k ((colsTo s k).map Value.string) rfl (hown.alloc _) ⟨wr.heap.size, 0, none⟩ 1 1 [.string (colOf s k)] rfl rfl (news_new _ _ 9 _ rfl) (by simp [Value.oneCell']) (by omega) (by simp [maxLen]; omega) (by omega) (by simp; omega) _ rfl ?_; intro g cap w4 hown4 hgrow4 hat4 hlt4)
        go_roundw
        case rel => exact ⟨k + 1, f + 3, by have := Hf.out; omega, by omega, by go_num, by rw [HS.out, List.map_append]; exact hown4, (hB.alloc (by omega) _).grown hgrow4 (by simp; omega) Hlk.out⟩
        case measure => simp [intOf]; omega
      · have HL : Hid (colsOf s = colsTo s k) := by
          rw [HE.out]
          have := Hf.out
          rw [show (s.size + 2) / 3 = k by omega]; exact rfl
        go_wp2
        go_ret
        exact ⟨_, rfl, by rw [HL.out, colsTo_length]; exact hown, hB⟩
  · have HE : Hid (colsOf s = []) := by
      unfold colsOf
      by_cases h : s.size ≤ 9
      · rw [if_pos h, show s.size = 0 by omega]; exact rfl
      · rw [if_neg h]; exact rfl
    go_enter Tryz.func97, Tryz.ntmps97
    go_wp2_with fail
    refine (l6In_no _ _ _ _ h9).mono ?_
    rintro e w1 ⟨rfl, rfl⟩
    have Ho := Lib.hid hown0
    have HB := Lib.hid hB0
    clear hown0 hB0 h9
    go_wp2
    go_ret
    exact ⟨_, rfl, by rw [HE.out]; exact Ho.out, HB.out⟩

end Go.Proofs.YtcdiengbmjkglaaGreat

namespace Go.Proofs.YtcdiengbmjkglaaGreat
open Go.RowKit Go.Shelf

/-- TEXTS THAT LIE BEHIND AN ADDRESS. -/
def Strs (w : World) (a : Option Addr) (xs : List ByteArray) : Prop :=
  xs = [] ∨ ∃ b off, a = some ⟨b, off, none⟩ ∧ ∀ j, j < xs.length → w.cell? ⟨b, off + j, none⟩ = some (.string (xs.getD j ByteArray.empty))
theorem Strs.below {w w' : World} {a : Option Addr} {xs : List ByteArray} (h : Strs w a xs) (hB : Below w.heap.size w w') : Strs w' a xs := by
  rcases h with h | ⟨b, off, e, hc⟩
  · exact .inl h
  · refine .inr ⟨b, off, e, fun j hj => ?_⟩
    have := hc j hj
    exact (hB.cell (p := ⟨b, off + j, none⟩) (World.block_lt_of_cell? w _ this)).trans this
theorem strs_of_owns {w : World} {base : Nat} {v : Value} {xs : List ByteArray} (h : w.ownsRow base 9 1 v xs.length (xs.map Value.string)) :
    ∃ a cap, v = .slice a xs.length cap ∧ xs.length ≤ cap ∧ cap ≤ maxLen ∧ Strs w a xs := by
  rcases h.2 with ⟨rfl, hk⟩ | ⟨g, cap, cur, rfl, hb, hg, hkc, hcm, hcs, hx⟩
  · have : xs = [] := List.eq_nil_of_length_eq_zero hk
    subst this
    exact ⟨none, 0, rfl, Nat.le_refl _, by simp [maxLen], .inl rfl⟩
  · refine ⟨some ⟨g, 0, none⟩, cap, rfl, hkc, hcm, .inr ⟨g, 0, rfl, fun j hj => ?_⟩⟩
    have e : (cur.toList.take (xs.length * 1))[j]? = (xs.map Value.string)[j]? := by rw [hx]
    rw [List.getElem?_take, if_pos (by omega)] at e
    simp only [World.cell?, hg, Nat.zero_add]
    simp [List.getD, List.getElem?_eq_getElem hj] at e ⊢
    exact e

/-- TEXTS ARE COLUMNS, as many as a text may have. -/
def ColsOk (xs : List ByteArray) : Prop := (1 ≤ xs.length ∧ xs.length ≤ 3) ∧ ∀ j, j < xs.length → (xs.getD j ByteArray.empty).size = 3
def colsB (xs : List ByteArray) : Bool := decide (1 ≤ xs.length) && decide (xs.length ≤ 3) && xs.all fun x => x.size == 3
theorem colsB_iff (xs : List ByteArray) : colsB xs = true ↔ ColsOk xs := by
  unfold colsB ColsOk
  rw [Bool.and_eq_true, Bool.and_eq_true, decide_eq_true_iff, decide_eq_true_iff, List.all_eq_true]
  refine and_congr Iff.rfl ⟨fun h j hj => ?_, fun h x hx => ?_⟩
  · rw [List.getD, List.getElem?_eq_getElem hj]
    exact eq_of_beq (h xs[j] (List.getElem_mem hj))
  · obtain ⟨j, hj, rfl⟩ := List.getElem_of_mem hx
    have := h j hj
    rw [List.getD, List.getElem?_eq_getElem hj] at this
    exact beq_iff_eq.2 this
theorem colsB_true {xs : List ByteArray} (h : ColsOk xs) : colsB xs = true := (colsB_iff xs).2 h
theorem colsB_false {xs : List ByteArray} (h : ¬ColsOk xs) : colsB xs = false := Bool.eq_false_iff.2 (fun e => h ((colsB_iff xs).1 e))
theorem ret_bool {a b : Bool} (h : a = b) : Ending.returned (.bool a) = .returned (.bool b) := by rw [h]

set_option maxRecDepth 100000 in
set_option maxHeartbeats 1000000 in
theorem areCols_any (a : Option Addr) (cap : Nat) (xs : List ByteArray) (w : World) (hx : Hid (Strs w a xs)) :
    Calls Tryz.prog 108 #[.slice a xs.length cap] w fun e w' => e = .returned (.bool (colsB xs)) ∧ w = w' := by
  by_cases h1 : xs.length < 1
  · have d1 : decide ((xs.length : Int) < 1) = true := by simp; omega
    have HR := Lib.hid (colsB_false (xs := xs) (fun h => by have := h.1; omega))
    go_enter Tryz.func108, Tryz.ntmps108
    go_wp2
    go_ret
    exact ⟨ret_bool HR.out.symm, rfl⟩
  · have d1 : decide ((xs.length : Int) < 1) = false := by simp; omega
    by_cases h3 : 3 < xs.length
    · have d3 : decide (3 < (xs.length : Int)) = true := by simp; omega
      have HR := Lib.hid (colsB_false (xs := xs) (fun h => by have := h.1; omega))
      go_enter Tryz.func108, Tryz.ntmps108
      go_wp2
      go_ret
      exact ⟨ret_bool HR.out.symm, rfl⟩
    · have d3 : decide (3 < (xs.length : Int)) = false := by simp; omega
      obtain ⟨b, off, rfl, hc⟩ := hx.out.resolve_left (fun e => by subst e; simp at h1)
      have Hc := Lib.hid hc
      clear hc hx
      go_enter Tryz.func108, Tryz.ntmps108
      go_wp2_with fail
      go_loop [15] (fun i => ∃ k : Nat, i = .int .i64 (k : Int) ∧ k ≤ xs.length ∧ Hid (∀ j, j < k → (xs.getD j ByteArray.empty).size = 3)) (fun i => xs.length - (intOf i).toNat)
      case atStart => exact ⟨0, rfl, by omega, fun j hj => by omega⟩
      case round =>
        obtain ⟨k, rfl, hk, hall⟩ := hrel
        by_cases hlt : k < xs.length
        · have hck := Hc.out k hlt
          generalize hgx : xs.getD k ByteArray.empty = x at hck
          have Hgx := Lib.hid hgx
          clear hgx
          by_cases hs3 : x.size = 3
          · have d4 : ((x.size : Int) != 3) = false := by simp; omega
            have hnext : Hid (∀ j, j < k + 1 → (xs.getD j ByteArray.empty).size = 3) := fun j hj => by
              by_cases e : j = k
              · subst e; rw [Hgx.out]; exact hs3
              · exact hall.out j (by omega)
            go_wp2
            exact ⟨⟨k + 1, by go_num, by omega, hnext⟩, by simp [intOf]; omega⟩
          · have d4 : ((x.size : Int) != 3) = true := by simp; omega
            have HR := Lib.hid (colsB_false (xs := xs) (fun h => hs3 (by rw [← Hgx.out]; exact h.2 k hlt)))
            go_wp2
            go_ret
            exact ⟨ret_bool HR.out.symm, rfl⟩
        · have HR := Lib.hid (colsB_true (xs := xs) ⟨by omega, fun j hj => hall.out j (by omega)⟩)
          go_wp2
          go_ret
          exact ⟨ret_bool HR.out.symm, rfl⟩

end Go.Proofs.YtcdiengbmjkglaaGreat

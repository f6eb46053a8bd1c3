/- Slices of texts, and whether texts are columns. Conditions: none but the row's own bound on sizes. -/
import Derived.Test.YtphenphfficnaabT2
namespace Go.Proofs.Ytphenphfficnaab
open Go.RowKit Go.Shelf

/-- TEXTS THAT LIE BEHIND AN ADDRESS. -/
def Strs (w : World) (a : Option Addr) (xs : List ByteArray) : Prop :=
  xs = [] ∨ ∃ b off, a = some ⟨b, off, none⟩ ∧ ∀ j, j < xs.length → w.cell? ⟨b, off + j, none⟩ = some (.string (xs.getD j ByteArray.empty))
theorem Strs.below {w w' : World} {a : Option Addr} {xs : List ByteArray} (h : Strs w a xs) (hB : Below w.heap.size w w') : Strs w' a xs := by
  rcases h with h | ⟨b, off, e, hc⟩
  · exact .inl h
  · refine .inr ⟨b, off, e, fun j hj => ?_⟩
    have := hc j hj
    exact (hB.cell (p := ⟨b, off + j, none⟩) (World.block_lt_of_cell? w _ this)).trans this
theorem strs_of_owns {w : World} {base : Nat} {v : Value} {xs : List ByteArray} (h : w.ownsRow base 9 1 v xs.length (xs.map Value.string)) :
    ∃ a cap, v = .slice a xs.length cap ∧ xs.length ≤ cap ∧ cap ≤ maxLen ∧ Strs w a xs := by
  rcases h.2 with ⟨rfl, hk⟩ | ⟨g, cap, cur, rfl, hb, hg, hkc, hcm, hcs, hx⟩
  · have : xs = [] := List.eq_nil_of_length_eq_zero hk
    subst this
    exact ⟨none, 0, rfl, Nat.le_refl _, by simp [maxLen], .inl rfl⟩
  · refine ⟨some ⟨g, 0, none⟩, cap, rfl, hkc, hcm, .inr ⟨g, 0, rfl, fun j hj => ?_⟩⟩
    have e : (cur.toList.take (xs.length * 1))[j]? = (xs.map Value.string)[j]? := by rw [hx]
    rw [List.getElem?_take, if_pos (by omega)] at e
    simp only [World.cell?, hg, Nat.zero_add]
    simp [List.getD, List.getElem?_eq_getElem hj] at e ⊢
    exact e

/-- TEXTS ARE COLUMNS, as many as a text may have. -/
def ColsOk (xs : List ByteArray) : Prop := (1 ≤ xs.length ∧ xs.length ≤ 3) ∧ ∀ j, j < xs.length → (xs.getD j ByteArray.empty).size = 3
def colsB (xs : List ByteArray) : Bool := decide (1 ≤ xs.length) && decide (xs.length ≤ 3) && xs.all fun x => x.size == 3
theorem colsB_iff (xs : List ByteArray) : colsB xs = true ↔ ColsOk xs := by
  unfold colsB ColsOk
  rw [Bool.and_eq_true, Bool.and_eq_true, decide_eq_true_iff, decide_eq_true_iff, List.all_eq_true]
  refine and_congr Iff.rfl ⟨fun h j hj => ?_, fun h x hx => ?_⟩
  · rw [List.getD, List.getElem?_eq_getElem hj]
    exact eq_of_beq (h xs[j] (List.getElem_mem hj))
  · obtain ⟨j, hj, rfl⟩ := List.getElem_of_mem hx
    have := h j hj
    rw [List.getD, List.getElem?_eq_getElem hj] at this
    exact beq_iff_eq.2 this
theorem colsB_true {xs : List ByteArray} (h : ColsOk xs) : colsB xs = true := (colsB_iff xs).2 h
theorem colsB_false {xs : List ByteArray} (h : ¬ColsOk xs) : colsB xs = false := Bool.eq_false_iff.2 (fun e => h ((colsB_iff xs).1 e))
theorem ret_bool {a b : Bool} (h : a = b) : Ending.returned (.bool a) = .returned (.bool b) := by rw [h]

set_option maxRecDepth 100000 in
set_option maxHeartbeats 1000000 in
theorem areCols_any (a : Option Addr) (cap : Nat) (xs : List ByteArray) (w : World) (hx : Hid (Strs w a xs)) :
    Calls Try.prog 30 #[.slice a xs.length cap] w fun e w' => e = .returned (.bool (colsB xs)) ∧ w = w' := by
  by_cases h1 : xs.length < 1
  · have d1 : decide ((xs.length : Int) < 1) = true := by simp; omega
    have HR := Lib.hid (colsB_false (xs := xs) (fun h => by have := h.1; omega))
    go_enter Try.func30, Try.ntmps30
    go_wp2
    go_ret
    exact ⟨ret_bool HR.out.symm, rfl⟩
  · have d1 : decide ((xs.length : Int) < 1) = false := by simp; omega
    by_cases h3 : 3 < xs.length
    · have d3 : decide (3 < (xs.length : Int)) = true := by simp; omega
      have HR := Lib.hid (colsB_false (xs := xs) (fun h => by have := h.1; omega))
      go_enter Try.func30, Try.ntmps30
      go_wp2
      go_ret
      exact ⟨ret_bool HR.out.symm, rfl⟩
    · have d3 : decide (3 < (xs.length : Int)) = false := by simp; omega
      obtain ⟨b, off, rfl, hc⟩ := hx.out.resolve_left (fun e => by subst e; simp at h1)
      have Hc := Lib.hid hc
      clear hc hx
      go_enter Try.func30, Try.ntmps30
      go_wp2_with fail
      go_loop [15] (fun i => ∃ k : Nat, i = .int .i64 (k : Int) ∧ k ≤ xs.length ∧ Hid (∀ j, j < k → (xs.getD j ByteArray.empty).size = 3)) (fun i => xs.length - (intOf i).toNat)
      case atStart => exact ⟨0, rfl, by omega, fun j hj => by omega⟩
      case round =>
        obtain ⟨k, rfl, hk, hall⟩ := hrel
        by_cases hlt : k < xs.length
        · have hck := Hc.out k hlt
          generalize hgx : xs.getD k ByteArray.empty = x at hck
          have Hgx := Lib.hid hgx
          clear hgx
          by_cases hs3 : x.size = 3
          · have d4 : ((x.size : Int) != 3) = false := by simp; omega
            have hnext : Hid (∀ j, j < k + 1 → (xs.getD j ByteArray.empty).size = 3) := fun j hj => by
              by_cases e : j = k
              · subst e; rw [Hgx.out]; exact hs3
              · exact hall.out j (by omega)
            go_wp2
            exact ⟨⟨k + 1, by go_num, by omega, hnext⟩, by simp [intOf]; omega⟩
          · have d4 : ((x.size : Int) != 3) = true := by simp; omega
            have HR := Lib.hid (colsB_false (xs := xs) (fun h => hs3 (by rw [← Hgx.out]; exact h.2 k hlt)))
            go_wp2
            go_ret
            exact ⟨ret_bool HR.out.symm, rfl⟩
        · have HR := Lib.hid (colsB_true (xs := xs) ⟨by omega, fun j hj => hall.out j (by omega)⟩)
          go_wp2
          go_ret
          exact ⟨ret_bool HR.out.symm, rfl⟩

set_option maxRecDepth 100000 in
set_option maxHeartbeats 1000000 in
theorem l1Cols_any (a : Option Addr) (cap : Nat) (xs : List ByteArray) (w : World) (hl : xs.length ≤ maxLen) (hx : Hid (Strs w a xs)) :
    Calls Try.prog 29 #[.slice a xs.length cap] w fun e w' => e = .returned (.bool (colsB xs)) ∧ w = w' := by
  unfold maxLen at hl
  go_enter Try.func29, Try.ntmps29
  go_wp2_with fail
  go_loop [3] (fun i => ∃ k : Nat, i = .int .i64 (k : Int) ∧ k ≤ xs.length ∧ Hid (∀ j, j < k → (xs.getD j ByteArray.empty).size = 3)) (fun i => xs.length - (intOf i).toNat)
  case atStart => exact ⟨0, rfl, by omega, fun j hj => by omega⟩
  case round =>
    obtain ⟨k, rfl, hk, hall⟩ := hrel
    by_cases hlt : k < xs.length
    · obtain ⟨b, off, rfl, hc⟩ := hx.out.resolve_left (fun e => by subst e; simp at hlt)
      have hck := hc k hlt
      clear hc
      generalize hgx : xs.getD k ByteArray.empty = x at hck
      have Hgx := Lib.hid hgx
      clear hgx
      by_cases hs3 : x.size = 3
      · have d4 : ((x.size : Int) != 3) = false := by simp; omega
        have hnext : Hid (∀ j, j < k + 1 → (xs.getD j ByteArray.empty).size = 3) := fun j hj => by
          by_cases e : j = k
          · subst e; rw [Hgx.out]; exact hs3
          · exact hall.out j (by omega)
        go_wp2
        exact ⟨⟨k + 1, by go_num, by omega, hnext⟩, by simp [intOf]; omega⟩
      · have d4 : ((x.size : Int) != 3) = true := by simp; omega
        have HR := Lib.hid (colsB_false (xs := xs) (fun h => hs3 (by rw [← Hgx.out]; exact h.2 k hlt)))
        go_wp2
        go_ret
        exact ⟨ret_bool HR.out.symm, rfl⟩
    · by_cases hin : 1 ≤ (xs.length : Int) ∧ (xs.length : Int) ≤ 3
      · have HR := Lib.hid (colsB_true (xs := xs) ⟨by omega, fun j hj => hall.out j (by omega)⟩)
        go_wp2_with fail
        refine (l6In_yes _ _ _ _ hin).mono ?_
        rintro e w1 ⟨rfl, rfl⟩
        go_wp2
        go_ret
        exact ⟨ret_bool HR.out.symm, rfl⟩
      · have HR := Lib.hid (colsB_false (xs := xs) (fun h => by have := h.1; omega))
        go_wp2_with fail
        refine (l6In_no _ _ _ _ hin).mono ?_
        rintro e w1 ⟨rfl, rfl⟩
        clear hin
        go_wp2
        go_ret
        exact ⟨ret_bool HR.out.symm, rfl⟩

end Go.Proofs.Ytphenphfficnaab

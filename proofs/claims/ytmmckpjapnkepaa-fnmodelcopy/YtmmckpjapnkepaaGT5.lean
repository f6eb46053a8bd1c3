/- Texts that are empty; numbers within bounds; whether something holds of each of a list of texts. Conditions: none. -/
import Derived.Test.YtmmckpjapnkepaaGT
namespace Go.Proofs.Ytmmckpjapnkepaa
open Go.RowKit Go.Sort

theorem tx_some {p : ByteArray} (h : p.size ≠ 0) : p.toList.isEmpty = false := by
  rw [ByteArray.toList_eq]
  cases hp : p.data.toList with
  | nil =>
    have : p.data.toList.length = 0 := by rw [hp]; rfl
    have h2 : p.data.toList.length = p.size := by simp
    omega
  | cons x l => rfl
theorem tx_none {p : ByteArray} (h : p.size = 0) : p = ByteArray.empty := by
  rcases p with ⟨⟨l⟩⟩
  have : l = [] := List.eq_nil_of_length_eq_zero h
  subst this
  rfl

set_option maxHeartbeats 400000 in
theorem l6_any (n lo hi : Int) (w : World) :
    Calls Try.prog 41 #[.int .i64 n, .int .i64 lo, .int .i64 hi] w fun e w' => e = .returned (.bool (tt (lo ≤ n ∧ n ≤ hi))) ∧ w = w' := by
  by_cases hl : lo ≤ n
  · have h1 : decide (lo ≤ n) = true := by simp; omega
    by_cases hh : n ≤ hi
    · have h2 : decide (n ≤ hi) = true := by simp; omega
      rw [tt_true ⟨hl, hh⟩]
      go_enter Try.func41, Try.ntmps41
      go_wp2
      go_ret
      exact ⟨rfl, rfl⟩
    · have h2 : decide (n ≤ hi) = false := by simp; omega
      rw [tt_false (fun h => hh h.2)]
      go_enter Try.func41, Try.ntmps41
      go_wp2
      go_ret
      exact ⟨rfl, rfl⟩
  · have h1 : decide (lo ≤ n) = false := by simp; omega
    rw [tt_false (fun h => hl h.1)]
    go_enter Try.func41, Try.ntmps41
    go_wp2
    go_ret
    exact ⟨rfl, rfl⟩

def Empty0 (s : ByteArray) : Prop := s.size = 0
/-- OF EACH. -/
def AllTx (P : ByteArray → Prop) (xs : List ByteArray) : Prop := ∀ j, j < xs.length → P (xs.getD j ByteArray.empty)
set_option maxRecDepth 100000 in
set_option maxHeartbeats 1000000 in
theorem allTx_any (g : Nat) (P : ByteArray → Prop) (a : Option Addr) (cap : Nat) (xs : List ByteArray) (w : World) (eg : ∀ args w, (callFunc g args).run Try.prog w = .ok (.enter g args) w)
    (hp : Hid (∀ s W, Calls Try.prog g #[.string s] W fun e w' => e = .returned (.bool (tt (P s))) ∧ W = w')) (hl : xs.length ≤ maxLen) (hx : Hid (TxAt w a xs)) :
    Calls Try.prog 72 #[.slice a xs.length cap, .func (.func g) #[] #[]] w fun e w' => e = .returned (.bool (tt (AllTx P xs))) ∧ w = w' := by
  unfold maxLen at hl
  go_enter Try.func72, Try.ntmps72
  go_wp2_with fail
  go_loop [9] (fun i => ∃ k : Nat, i = .int .i64 (k : Int) ∧ k ≤ xs.length ∧ Hid (∀ j, j < k → P (xs.getD j ByteArray.empty))) (fun i => xs.length - (intOf i).toNat)
  case atStart => exact ⟨0, rfl, by omega, fun j hj => by omega⟩
  case round =>
    obtain ⟨k, rfl, hk, hall⟩ := hrel
    by_cases hlt : k < xs.length
    · obtain ⟨b, off, rfl, hc⟩ := hx.out.resolve_left (fun e => by subst e; simp at hlt)
      have hck := hc k hlt
      clear hc
      generalize hg : xs.getD k ByteArray.empty = q at hck
      have Hg := Lib.hid hg
      clear hg
      have HC := Lib.hid (fun W => hp.out q W)
      by_cases hP : P q
      · rw [tt_true hP] at HC
        have HN : Hid (∀ j, j < k + 1 → P (xs.getD j ByteArray.empty)) := fun j hj => by
          by_cases e : j = k
          · subst e; rw [Hg.out]; exact hP
          · exact hall.out j (by omega)
        clear hP
        go_wp2_with fail
        refine (HC.out _).mono ?_
        rintro e w2 ⟨rfl, rfl⟩
        go_wp2
        exact ⟨⟨k + 1, by go_num, by omega, HN⟩, by simp [intOf]; omega⟩
      · rw [tt_false hP] at HC
        have HF : Hid (tt (AllTx P xs) = false) := tt_false (fun h => hP (by rw [← Hg.out]; exact h k hlt))
        clear hP
        go_wp2_with fail
        refine (HC.out _).mono ?_
        rintro e w2 ⟨rfl, rfl⟩
        go_wp2
        go_ret
        exact ⟨ret_bool' HF.out.symm, rfl⟩
    · have HF : Hid (tt (AllTx P xs) = true) := tt_true (fun j hj => hall.out j (by omega))
      go_wp2
      go_ret
      exact ⟨ret_bool' HF.out.symm, rfl⟩

end Go.Proofs.Ytmmckpjapnkepaa

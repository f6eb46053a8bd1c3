/- ParityOf of the program and of the specification answer the same. Conditions: none but the row's own bound on sizes. -/
import Derived.Test.YtphenphfficnaabM5
namespace Go.Proofs.Ytphenphfficnaab
open Go.RowKit Go.Shelf

/-- **ParityOf**, as the document has it. -/
def parRes (xs : List ByteArray) : ByteArray := if colsB xs = true then parOf xs else ByteArray.empty
theorem parRes_yes {xs : List ByteArray} (h : colsB xs = true) : parRes xs = parOf xs := by unfold parRes; rw [if_pos h]
theorem parRes_no {xs : List ByteArray} (h : colsB xs = false) : parRes xs = ByteArray.empty := by unfold parRes; rw [if_neg (by simp [h])]
theorem ret_string {a b : ByteArray} (h : a = b) : Ending.returned (.string a) = .returned (.string b) := by rw [h]

set_option maxRecDepth 100000 in
set_option maxHeartbeats 1000000 in
theorem implParity_any (a : Option Addr) (cap : Nat) (xs : List ByteArray) (w : World) (hx : Hid (Strs w a xs)) :
    Calls Try.prog 20 #[.slice a xs.length cap] w fun e w' => e = .returned (.string (parRes xs)) ∧ Below w.heap.size w w' := by
  cases hb : colsB xs
  · have HR := Lib.hid (parRes_no hb)
    go_enter Try.func20, Try.ntmps20
    go_wp2_with fail
    refine (areCols_any a cap xs _ hx).mono ?_
    rintro e w1 ⟨rfl, rfl⟩
    go_wp2
    go_ret
    exact ⟨ret_string HR.out.symm, Below.refl _ _⟩
  · have HR := Lib.hid (parRes_yes hb)
    have hok := (colsB_iff xs).1 hb
    have h13 := hok.1
    have Hok := Lib.hid hok
    clear hok
    go_enter Try.func20, Try.ntmps20
    go_wp2_with fail
    refine (areCols_any a cap xs _ hx).mono ?_
    rintro e w1 ⟨rfl, rfl⟩
    go_wp2_with fail
    go_loopw [3, 11] (fun p i wr => ∃ k : Nat, i = .int .i64 (k : Int) ∧ k ≤ xs.length ∧ p = .string (parTo ByteArray.empty xs k) ∧ Below w.heap.size w wr) (fun _ i _ => xs.length - (intOf i).toNat)
    case atStart => exact ⟨0, rfl, by omega, rfl, Below.refl _ _⟩
    case round =>
      obtain ⟨k, rfl, hk, rfl, hB⟩ := hrel
      by_cases hlt : k < xs.length
      · have hxr := hx.out.below hB
        obtain ⟨b, off, rfl, hc⟩ := hxr.resolve_left (fun e => by subst e; simp at hlt)
        have hck := hc k hlt
        have hps := (parTo_size ByteArray.empty xs Hok.out.2 (by decide) k hk).1
        have hx3 := Hok.out.2 k hlt
        have HS : Hid (xorS (parTo ByteArray.empty xs k) (xs.getD k ByteArray.empty) = parTo ByteArray.empty xs (k + 1)) := rfl
        have hsz := hB.size
        clear hc hxr
        generalize xs.getD k ByteArray.empty = x at hck hx3 HS
        generalize parTo ByteArray.empty xs k = p at hps HS ⊢
        go_wp2_with fail
        refine (implXor_any p x (by omega) (by omega) _).mono ?_
        rintro e w2 ⟨rfl, hB2⟩
        rw [HS.out]
        go_wp2
        exact ⟨⟨k + 1, by go_num, by omega, rfl, hB.trans (hB2.mono hsz)⟩, by simp [intOf]; omega⟩
      · have HL : Hid (parTo ByteArray.empty xs k = parRes xs) := by
          rw [HR.out]
          rw [show k = xs.length by omega]; exact rfl
        go_wp2
        go_ret
        exact ⟨ret_string HL.out, hB⟩

set_option maxRecDepth 100000 in
set_option maxHeartbeats 1000000 in
theorem l1Parity_any (a : Option Addr) (cap : Nat) (xs : List ByteArray) (w : World) (hok : ColsOk xs) (hx : Hid (Strs w a xs)) :
    Calls Try.prog 34 #[.slice a xs.length cap] w fun e w' => e = .returned (.string (parOf xs)) ∧ Below w.heap.size w w' := by
  have h13 := hok.1
  have HR := Lib.hid (parOf_nul hok (sec3 ByteArray.empty) (sec3_size _) (fun i => by
    match i with
    | 0 => rfl
    | 1 => rfl
    | 2 => rfl
    | i + 3 => exact byteAt_ge (by rw [sec3_size]; omega)))
  have Hok := Lib.hid hok
  clear hok
  go_enter Try.func34, Try.ntmps34
  go_wp2_with fail
  refine (l1Sec_any _ (by decide) _).mono ?_
  rintro e w1 ⟨rfl, rfl⟩
  generalize hz : sec3 { data := #[] } = z
  have hzs : z.size ≤ 3 := by rw [← hz, sec3_size]; omega
  have Hz : Hid (sec3 ByteArray.empty = z) := hz
  rw [Hz.out] at HR
  clear hz
  go_wp2_with fail
  go_loopw [3, 4] (fun p i wr => ∃ k : Nat, i = .int .i64 (k : Int) ∧ k ≤ xs.length ∧ p = .string (parTo z xs k) ∧ Below w.heap.size w wr) (fun _ i _ => xs.length - (intOf i).toNat)
  case atStart => exact ⟨0, rfl, by omega, rfl, Below.refl _ _⟩
  case round =>
    obtain ⟨k, rfl, hk, rfl, hB⟩ := hrel
    by_cases hlt : k < xs.length
    · have hxr := hx.out.below hB
      obtain ⟨b, off, rfl, hc⟩ := hxr.resolve_left (fun e => by subst e; simp at hlt)
      have hck := hc k hlt
      have hps := (parTo_size z xs Hok.out.2 hzs k hk).1
      have hx3 := Hok.out.2 k hlt
      have HS : Hid (xorS (parTo z xs k) (xs.getD k ByteArray.empty) = parTo z xs (k + 1)) := rfl
      have hsz := hB.size
      clear hc hxr
      generalize xs.getD k ByteArray.empty = x at hck hx3 HS
      generalize parTo z xs k = p at hps HS ⊢
      go_wp2_with fail
      refine (specXor_any p x (by omega) (by omega) _).mono ?_
      rintro e w2 ⟨rfl, hB2⟩
      rw [HS.out]
      go_wp2
      exact ⟨⟨k + 1, by go_num, by omega, rfl, hB.trans (hB2.mono hsz)⟩, by simp [intOf]; omega⟩
    · have HL : Hid (parTo z xs k = parOf xs) := by
        rw [show k = xs.length by omega]; exact HR.out
      go_wp2
      go_ret
      exact ⟨ret_string HL.out, hB⟩

set_option maxRecDepth 100000 in
set_option maxHeartbeats 1000000 in
theorem specParity_any (a : Option Addr) (cap : Nat) (xs : List ByteArray) (w : World) (hl : xs.length ≤ maxLen) (hx : Hid (Strs w a xs)) :
    Calls Try.prog 19 #[.slice a xs.length cap] w fun e w' => e = .returned (.string (parRes xs)) ∧ Below w.heap.size w w' := by
  cases hb : colsB xs
  · have HR := Lib.hid (parRes_no hb)
    go_enter Try.func19, Try.ntmps19
    go_wp2_with fail
    refine (l1Cols_any a cap xs _ hl hx).mono ?_
    rintro e w1 ⟨rfl, rfl⟩
    go_wp2
    go_ret
    exact ⟨ret_string HR.out.symm, Below.refl _ _⟩
  · have HR := Lib.hid (parRes_yes hb)
    have hok := (colsB_iff xs).1 hb
    have Hok := Lib.hid hok
    clear hok
    go_enter Try.func19, Try.ntmps19
    go_wp2_with fail
    refine (l1Cols_any a cap xs _ hl hx).mono ?_
    rintro e w1 ⟨rfl, rfl⟩
    go_wp2_with fail
    refine (l1Parity_any a cap xs _ Hok.out hx).mono ?_
    rintro e w2 ⟨rfl, hB⟩
    go_wp2
    go_ret
    exact ⟨ret_string HR.out.symm, hB⟩

end Go.Proofs.Ytphenphfficnaab

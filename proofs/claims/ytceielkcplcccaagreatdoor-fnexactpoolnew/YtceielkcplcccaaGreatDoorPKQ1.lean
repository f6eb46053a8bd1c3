/- The text of a number, as the specification writes it. Conditions: a number from nought to the largest. The text of a number, as the specification writes it. Conditions: a number from nought to the largest. -/
import Derived.Test.YtceielkcplcccaaGreatDoorPKK
import Derived.Test.YtceielkcplcccaaGreatDoorPKA1
import Derived.Lib.ItoaNum
import Derived.Lib.QuietBelow
import Derived.Laws.BytesArg
import Derived.Deep.RegionHeld3
import Derived.Laws.BitsLemmas
namespace Go.Proofs.YtceielkcplcccaaGreatDoor
open Go.RowKit Go.Sort

/-- A TEXT of so many bytes. -/
def tx (l : List UInt8) : ByteArray := ⟨l.toArray⟩
theorem tx_list (l : List UInt8) : (tx l).data.toList = l := rfl
theorem tx_add (a b : List UInt8) : tx a ++ tx b = tx (a ++ b) := by
  rw [tx, tx, tx, ByteArray.ext_iff, ByteArray.data_append, List.append_toArray]
theorem tx_size (l : List UInt8) : (tx l).size = l.length := by simp [tx, ByteArray.size]
theorem ret_text {a b : ByteArray} (h : a = b) : Ending.returned (.string a) = .returned (.string b) := by rw [h]

theorem dec_small {n : Nat} (h : n < 10) : Lib.decDigits n = [UInt8.ofNat (48 + n)] := by rw [Lib.decDigits, dif_pos h]
theorem dec_big {n : Nat} (h : ¬ n < 10) : Lib.decDigits n = Lib.decDigits (n / 10) ++ [UInt8.ofNat (48 + n % 10)] := by rw [Lib.decDigits, dif_neg h]

/-- One byte as a text. -/
theorem conv_in (x : Int) (g : Nat) (W : World) (h : W.cell? ⟨g, 0, none⟩ = some (.int .u8 x)) :
    (convert 51 9 (.slice (some ⟨g, 0, none⟩) 1 1)).run Tryz.prog W = .ok (.string (tx [UInt8.ofNat x.toNat])) W := by
  refine (run_convert_bytes_arg W 51 5 Tryz.underlying51 Tryz.underlying5 g 0 1 1 [x] rfl (fun i hi => ?_) 9 Tryz.underlying9).trans ?_
  · obtain rfl : i = 0 := by omega
    exact h
  · rfl
theorem conv_new (x : Int) (W : World) :
    (convert 51 9 (.slice (some ⟨W.heap.size, 0, none⟩) 1 1)).run Tryz.prog (W.alloc (.cells #[.int .u8 x] 5)) = .ok (.string (tx [UInt8.ofNat x.toNat])) (W.alloc (.cells #[.int .u8 x] 5)) :=
  conv_in x _ _ (by rw [World.cell?_alloc_mark]; rfl)

theorem cell_kept1 {n : Nat} {W W' : World} {x : Value} {t : TypeId} (hB : Below n (W.alloc (.cells #[x] t)).drew W') (hn : n = W.heap.size + 1) : W'.cell? ⟨W.heap.size, 0, none⟩ = some x :=
  (hB.cell (p := ⟨W.heap.size, 0, none⟩) (by rw [hn]; simp)).trans (by show (W.alloc (.cells #[x] t)).cell? _ = _; rw [World.cell?_alloc_mark]; rfl)

set_option maxRecDepth 100000 in
set_option maxHeartbeats 2000000 in
theorem l6Dec_small (n : Nat) (hn : n < 10) (w : World) :
    Calls Tryz.prog 44 #[.int .i64 (n : Int)] w fun e w' => e = .returned (.string (tx (Lib.decDigits n))) ∧ Below w.heap.size w w' := by
  have HD := Lib.hid (dec_small hn)
  have hc := fun W => conv_new (48 + (n : Int)) W
  have Hx : Hid ((48 + (n : Int)).toNat = 48 + n) := by unfold Hid; omega
  generalize hT : tx [UInt8.ofNat (48 + (n : Int)).toNat] = T at hc
  have HT := Lib.hid hT
  clear hT
  go_enter Tryz.func44, Tryz.ntmps44
  go_wp2
  go_ret
  refine ⟨ret_text ?_, (Below.refl _ _).alloc (Nat.le_refl _) _⟩
  rw [HD.out, ← HT.out, Hx.out]

end Go.Proofs.YtceielkcplcccaaGreatDoor

namespace Go.Proofs.YtceielkcplcccaaGreatDoor
open Go.RowKit Go.Sort

theorem wq (n : Nat) (hm : n ≤ 9223372036854775807) : IntKind.i64.wrap ((n : Int) / 10) = ((n / 10 : Nat) : Int) := by
  rw [IntKind.wrap_i64]; omega
theorem wr (n : Nat) : IntKind.u8.wrap (IntKind.i64.wrap (48 + (n : Int).tmod 10)) = ((48 + n % 10 : Nat) : Int) := by
  rw [IntKind.wrap_i64, IntKind.wrap_u8, Int.tmod_eq_emod_of_nonneg (by omega)]; omega

theorem conv_drew (W : World) (T : ByteArray) (x : Value) (hc : ∀ W : World, (convert 51 9 (.slice (some ⟨W.heap.size, 0, none⟩) 1 1)).run Tryz.prog (W.alloc (.cells #[x] 5)) = .ok (.string T) (W.alloc (.cells #[x] 5))) :
    (convert 51 9 (.slice (some ⟨W.heap.size, 0, none⟩) 1 1)).run Tryz.prog (W.alloc (.cells #[x] 5)).drew = .ok (.string T) (W.alloc (.cells #[x] 5)).drew := hc W.drew
theorem low1 {w w' : World} (hB : Below w.drew.heap.size w.drew w') : Below w.heap.size w w' := ⟨hB.os, hB.tape, hB.output, hB.size, hB.block⟩
theorem low2 {n : Nat} {w w' : World} {o : Obj} (hB : Below n (w.alloc o).drew w') (hn : n = w.heap.size + 1) : Below w.heap.size w w' :=
  have h0 : Below w.heap.size w (w.alloc o) := (Below.refl _ _).alloc (Nat.le_refl _) _
  have h1 : Below w.heap.size w (w.alloc o).drew := ⟨h0.os, h0.tape, h0.output, h0.size, h0.block⟩
  h1.trans (hB.mono (by omega))
theorem dec_length (k : Nat) : ∀ n, n < 10 ^ (k + 1) → (Lib.decDigits n).length ≤ k + 1 := by
  induction k with
  | zero => intro n h; rw [dec_small (by simpa using h)]; simp
  | succ k ih =>
    intro n h
    by_cases hn : n < 10
    · rw [dec_small hn]; simp
    · rw [dec_big hn, List.length_append]
      have := ih (n / 10) (by rw [Nat.pow_succ] at h; omega)
      simp only [List.length_cons, List.length_nil]
      omega
theorem dec_size (n : Nat) (h : n ≤ 9223372036854775807) : (tx (Lib.decDigits n)).size ≤ 19 := by
  rw [tx_size]; exact dec_length 18 n (by omega)

set_option maxRecDepth 100000 in
set_option maxHeartbeats 1000000 in
theorem l6Dec_big (n : Nat) (hn : ¬ n < 10) (hm : n ≤ 9223372036854775807) (w : World)
    (hr : ∀ w, Calls Tryz.prog 44 #[.int .i64 (IntKind.i64.wrap ((n : Int) / 10))] w fun e w' => e = .returned (.string (tx (Lib.decDigits (n / 10)))) ∧ Below w.heap.size w w') :
    Calls Tryz.prog 44 #[.int .i64 (n : Int)] w fun e w' => e = .returned (.string (tx (Lib.decDigits n))) ∧ Below w.heap.size w w' := by
  have HD := Lib.hid (dec_big hn)
  have HR := Lib.hid hr
  clear hr
  have hc := fun W => conv_new (IntKind.u8.wrap (IntKind.i64.wrap (48 + (n : Int).tmod 10))) W
  have hc2 := fun g W h => conv_in (IntKind.u8.wrap (IntKind.i64.wrap (48 + (n : Int).tmod 10))) g W h
  have Hx := Lib.hid (wr n)
  have hTs : (tx [UInt8.ofNat (IntKind.u8.wrap (IntKind.i64.wrap (48 + (n : Int).tmod 10))).toNat]).size = 1 := tx_size _
  generalize hT : tx [UInt8.ofNat (IntKind.u8.wrap (IntKind.i64.wrap (48 + (n : Int).tmod 10))).toNat] = T at hc hc2 hTs
  have HT := Lib.hid hT
  clear hT
  have Hc2 := Lib.hid hc2
  have hc' := fun W => conv_drew W T _ hc
  clear hc2
  have hRs := dec_size (n / 10) (by omega)
  generalize hRt : tx (Lib.decDigits (n / 10)) = R at HR hRs
  have HRt := Lib.hid hRt
  clear hRt
  have hRT : R.size + T.size ≤ maxLen := by unfold maxLen; omega
  go_enter Tryz.func44, Tryz.ntmps44
  go_wp2_with fail
  rename_i h1 h2 h3 K hK
  clear hm hn h1 h2 h3
  go_region_with ((go_at_call 44; refine (HR.out _).mono ?_; rintro e w' ⟨rfl, hB⟩; try (have hcx := Hc2.out w.heap.size w' (cell_kept1 hB (by simp)))))
  all_goals
    go_wp2_with fail
    go_ret
    refine ⟨ret_text ?_, ?_⟩
    · rw [HD.out, ← HT.out, ← HRt.out, Hx.out, tx_add]; rfl
    · first
        | exact (low1 hB).alloc (low1 hB).size _
        | exact low2 hB (by simp)

theorem l6Dec_any (n : Nat) : ∀ (w : World), n ≤ 9223372036854775807 →
    Calls Tryz.prog 44 #[.int .i64 (n : Int)] w fun e w' => e = .returned (.string (tx (Lib.decDigits n))) ∧ Below w.heap.size w w' := by
  induction n using Nat.strongRecOn with
  | _ n ih =>
    intro w hm
    by_cases hn : n < 10
    · exact l6Dec_small n hn w
    · refine l6Dec_big n hn hm w (fun w1 => ?_)
      rw [wq n hm]
      exact ih (n / 10) (by omega) w1 (by omega)

end Go.Proofs.YtceielkcplcccaaGreatDoor

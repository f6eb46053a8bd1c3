/- The text of a number, as the specification writes it. Conditions: a number from nought to the largest. -/
import Derived.Test.YtlonecgmldjdpaaDoorR0
import Derived.Test.YtlonecgmldjdpaaDoorA1
import Derived.Lib.ItoaNum
import Derived.Lib.QuietBelow
import Derived.Laws.BytesArg
import Derived.Deep.RegionHeld3
namespace Go.Proofs.YtlonecgmldjdpaaDoor
open Go.RowKit Go.Sort

/-- A TEXT of so many bytes. -/
def tx (l : List UInt8) : ByteArray := ⟨l.toArray⟩
theorem tx_list (l : List UInt8) : (tx l).data.toList = l := rfl
theorem tx_add (a b : List UInt8) : tx a ++ tx b = tx (a ++ b) := by
  rw [tx, tx, tx, ByteArray.ext_iff, ByteArray.data_append, List.append_toArray]
theorem tx_size (l : List UInt8) : (tx l).size = l.length := by simp [tx, ByteArray.size]
theorem ret_text {a b : ByteArray} (h : a = b) : Ending.returned (.string a) = .returned (.string b) := by rw [h]

theorem dec_small {n : Nat} (h : n < 10) : Lib.decDigits n = [UInt8.ofNat (48 + n)] := by rw [Lib.decDigits, dif_pos h]
theorem dec_big {n : Nat} (h : ¬ n < 10) : Lib.decDigits n = Lib.decDigits (n / 10) ++ [UInt8.ofNat (48 + n % 10)] := by rw [Lib.decDigits, dif_neg h]

/-- One byte as a text. -/
theorem conv_in (x : Int) (g : Nat) (W : World) (h : W.cell? ⟨g, 0, none⟩ = some (.int .u8 x)) :
    (convert 22 9 (.slice (some ⟨g, 0, none⟩) 1 1)).run Tryd.prog W = .ok (.string (tx [UInt8.ofNat x.toNat])) W := by
  refine (run_convert_bytes_arg W 22 5 Tryd.underlying22 Tryd.underlying5 g 0 1 1 [x] rfl (fun i hi => ?_) 9 Tryd.underlying9).trans ?_
  · obtain rfl : i = 0 := by omega
    exact h
  · rfl
theorem conv_new (x : Int) (W : World) :
    (convert 22 9 (.slice (some ⟨W.heap.size, 0, none⟩) 1 1)).run Tryd.prog (W.alloc (.cells #[.int .u8 x] 5)) = .ok (.string (tx [UInt8.ofNat x.toNat])) (W.alloc (.cells #[.int .u8 x] 5)) :=
  conv_in x _ _ (by rw [World.cell?_alloc_mark]; rfl)

theorem cell_kept1 {n : Nat} {W W' : World} {x : Value} {t : TypeId} (hB : Below n (W.alloc (.cells #[x] t)).drew W') (hn : n = W.heap.size + 1) : W'.cell? ⟨W.heap.size, 0, none⟩ = some x :=
  (hB.cell (p := ⟨W.heap.size, 0, none⟩) (by rw [hn]; simp)).trans (by show (W.alloc (.cells #[x] t)).cell? _ = _; rw [World.cell?_alloc_mark]; rfl)

set_option maxRecDepth 100000 in
set_option maxHeartbeats 2000000 in
theorem l6Dec_small (n : Nat) (hn : n < 10) (w : World) :
    Calls Tryd.prog 22 #[.int .i64 (n : Int)] w fun e w' => e = .returned (.string (tx (Lib.decDigits n))) ∧ Below w.heap.size w w' := by
  have HD := Lib.hid (dec_small hn)
  have hc := fun W => conv_new (48 + (n : Int)) W
  have Hx : Hid ((48 + (n : Int)).toNat = 48 + n) := by unfold Hid; omega
  generalize hT : tx [UInt8.ofNat (48 + (n : Int)).toNat] = T at hc
  have HT := Lib.hid hT
  clear hT
  go_enter Tryd.func22, Tryd.ntmps22
  go_wp2
  go_ret
  refine ⟨ret_text ?_, (Below.refl _ _).alloc (Nat.le_refl _) _⟩
  rw [HD.out, ← HT.out, Hx.out]

end Go.Proofs.YtlonecgmldjdpaaDoor

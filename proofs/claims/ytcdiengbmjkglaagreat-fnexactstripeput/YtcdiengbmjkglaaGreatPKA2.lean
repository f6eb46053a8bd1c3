/- SumOf of the program and SumOf of the specification both answer the sum of the first nine bytes. Conditions: none. -/
import Derived.Test.YtcdiengbmjkglaaGreatPKA3
import Derived.Test.YtcdiengbmjkglaaGreatPKAS
namespace Go.Proofs.YtcdiengbmjkglaaGreat
open Go.RowKit Go.Shelf
attribute [local go_sem] Oper.semAt_some

theorem byteAt_extractA (s : ByteArray) (m k : Nat) (hm : m ≤ s.size) (hk : k < m) : byteAt (s.extract 0 m) k = byteAt s k := by
  rw [byteAt_lt (by rw [ByteArray.size_extract]; omega), byteAt_lt (by omega)]
  rw [ByteArray.getElem_extract]
  congr 2
  simp
theorem sumTo_extract (s : ByteArray) (m k : Nat) (hm : m ≤ s.size) (hk : k ≤ m) : sumTo (s.extract 0 m) k = sumTo s k := by
  induction k with
  | zero => rfl
  | succ k ih => unfold sumTo; rw [ih (by omega), byteAt_extractA s m k hm (by omega)]

set_option maxRecDepth 100000 in
set_option maxHeartbeats 1000000 in
theorem implSum_any (s : ByteArray) (w : World) :
    Calls Tryz.prog 71 #[.string s] w fun e w' => e = .returned (.int .i64 (sumOf s)) ∧ Below w.heap.size w w' := by
  by_cases h9 : s.size ≤ 9
  · have hi : (s.size : Int) ≤ 9 := by omega
    have HS : Hid (sumTo s s.size = sumOf s) := by
      show sumTo s s.size = sumOf s
      unfold sumOf; rw [show min s.size 9 = s.size by omega]
    go_enter Tryz.func71, Tryz.ntmps71
    go_wp2_with fail
    refine (weighed_any s (by omega) _).mono ?_
    rintro e w1 ⟨rfl, hB⟩
    go_wp2
    go_ret
    exact ⟨ret_int HS.out, hB⟩
  · have hi : ¬ (s.size : Int) ≤ 9 := by omega
    have hi' : 9 ≤ s.size := by omega
    have hsz : (s.extract 0 9).size = 9 := by rw [ByteArray.size_extract]; omega
    have HS : Hid (sumTo (s.extract 0 9) 9 = sumOf s) := by
      show sumTo (s.extract 0 9) 9 = sumOf s
      rw [sumTo_extract s 9 9 hi' (Nat.le_refl _)]
      unfold sumOf; rw [show min s.size 9 = 9 by omega]
    have HW := Lib.hid (fun w' => weighed_any (s.extract 0 9) (by omega) w')
    clear hsz
    go_enter Tryz.func71, Tryz.ntmps71
    go_wp2_with fail
    refine (HW.out _).mono ?_
    rintro e w1 ⟨rfl, hB⟩
    go_wp2
    go_ret
    exact ⟨ret_int HS.out, hB⟩

end Go.Proofs.YtcdiengbmjkglaaGreat

/- The text of any number, as the specification writes it. Conditions: none. -/
import Derived.Test.YtliadobopideaaaGreatDoorPKA1
namespace Go.Proofs.YtliadobopideaaaGreatDoor
open Go.RowKit Go.Sort

def lowT : ByteArray := ⟨#[45, 57, 50, 50, 51, 51, 55, 50, 48, 51, 54, 56, 53, 52, 55, 55, 53, 56, 48, 56]⟩
/-- The text of a number up to the largest. -/
noncomputable def dzW (n : Int) : ByteArray := if n < -9223372036854775807 then lowT else if n < 0 then ⟨#[45]⟩ ++ tx (dz (-n)) else tx (dz n)
theorem dzW_size (n : Int) (h : n ≤ 9223372036854775807) : (dzW n).size ≤ 20 := by
  unfold dzW
  split
  · decide
  · split
    · have := dz_size (-n) (by omega)
      rw [ByteArray.size_append]
      have : (⟨#[45]⟩ : ByteArray).size = 1 := rfl
      omega
    · have := dz_size n h
      omega

set_option maxRecDepth 100000 in
set_option maxHeartbeats 2000000 in
theorem l6Dec_low (n : Int) (h : n < -9223372036854775807) (w : World) :
    Calls Tryz.prog 28 #[.int .i64 n] w fun e w' => e = .returned (.string (dzW n)) ∧ Below w.heap.size w w' := by
  have HE : Hid (dzW n = lowT) := by unfold Hid dzW; rw [if_pos h]
  go_enter Tryz.func28, Tryz.ntmps28
  go_wp2
  go_ret
  exact ⟨ret_text HE.out.symm, Below.refl _ _⟩

set_option maxRecDepth 100000 in
set_option maxHeartbeats 2000000 in
theorem l6Dec_neg (n : Int) (h0 : -9223372036854775807 ≤ n) (h1 : n < 0) (w : World) :
    Calls Tryz.prog 28 #[.int .i64 n] w fun e w' => e = .returned (.string (dzW n)) ∧ Below w.heap.size w w' := by
  have HE : Hid (dzW n = ⟨#[45]⟩ ++ tx (dz (-n))) := by unfold Hid dzW; rw [if_neg (by omega), if_pos h1]
  have HD := Lib.hid (fun W => l6Dec_int (-n) (by omega) (by omega) W)
  have hs := dz_size (-n) (by omega)
  generalize tx (dz (-n)) = R at HE HD hs
  go_enter Tryz.func28, Tryz.ntmps28
  go_wp2_with fail
  refine (HD.out _).mono ?_
  rintro e w1 ⟨rfl, hB⟩
  have HB := Lib.hid hB
  clear hB
  go_wp2
  go_ret
  exact ⟨ret_text HE.out.symm, HB.out⟩

theorem l6Dec_W (n : Int) (h : n ≤ 9223372036854775807) (w : World) :
    Calls Tryz.prog 28 #[.int .i64 n] w fun e w' => e = .returned (.string (dzW n)) ∧ Below w.heap.size w w' := by
  by_cases h1 : n < -9223372036854775807
  · exact l6Dec_low n h1 w
  · by_cases h2 : n < 0
    · exact l6Dec_neg n (by omega) h2 w
    · have e : dzW n = tx (dz n) := by unfold dzW; rw [if_neg h1, if_neg h2]
      rw [e]
      exact l6Dec_int n (by omega) h w

/-- THE TEXT OF ANY NUMBER. -/
noncomputable def dzI (n : Int) : ByteArray := if n ≤ 9223372036854775807 then dzW n else dzW (IntKind.i64.wrap (n / 10)) ++ tx [UInt8.ofNat (IntKind.u8.wrap (IntKind.i64.wrap (48 + n.tmod 10))).toNat]
theorem wrap_hi (x : Int) : IntKind.i64.wrap x ≤ 9223372036854775807 := by rw [IntKind.wrap_i64]; omega
theorem dzI_size (n : Int) : (dzI n).size ≤ 21 := by
  unfold dzI
  split
  · rename_i h
    have := dzW_size n h
    omega
  · have := dzW_size _ (wrap_hi (n / 10))
    rw [ByteArray.size_append, tx_size]
    simp only [List.length_cons, List.length_nil]
    omega

set_option maxRecDepth 100000 in
set_option maxHeartbeats 1000000 in
theorem l6Dec_huge (n : Nat) (hm : ¬ (n : Int) ≤ 9223372036854775807) (w : World) :
    Calls Tryz.prog 28 #[.int .i64 (n : Int)] w fun e w' => e = .returned (.string (dzI n)) ∧ Below w.heap.size w w' := by
  have HD : Hid (dzI n = dzW (IntKind.i64.wrap ((n : Int) / 10)) ++ tx [UInt8.ofNat (IntKind.u8.wrap (IntKind.i64.wrap (48 + (n : Int).tmod 10))).toNat]) := by unfold Hid dzI; rw [if_neg hm]
  have HR := Lib.hid (fun W => l6Dec_W (IntKind.i64.wrap ((n : Int) / 10)) (wrap_hi _) W)
  have hc := fun W => conv_new (IntKind.u8.wrap (IntKind.i64.wrap (48 + (n : Int).tmod 10))) W
  have hc2 := fun g W h => conv_in (IntKind.u8.wrap (IntKind.i64.wrap (48 + (n : Int).tmod 10))) g W h
  have hTs : (tx [UInt8.ofNat (IntKind.u8.wrap (IntKind.i64.wrap (48 + (n : Int).tmod 10))).toNat]).size = 1 := tx_size _
  generalize hT : tx [UInt8.ofNat (IntKind.u8.wrap (IntKind.i64.wrap (48 + (n : Int).tmod 10))).toNat] = T at hc hc2 hTs HD
  have Hc2 := Lib.hid hc2
  have hc' := fun W => conv_drew W T _ hc
  clear hc2 hT
  have hRs := dzW_size _ (wrap_hi ((n : Int) / 10))
  generalize dzW (IntKind.i64.wrap ((n : Int) / 10)) = R at HR hRs HD
  have hRT : R.size + T.size ≤ maxLen := by unfold maxLen; omega
  go_enter Tryz.func28, Tryz.ntmps28
  go_wp2_with fail
  rename_i h1 h2 h3 K hK
  clear hm h1 h2 h3
  go_region_with ((go_at_call 28; refine (HR.out _).mono ?_; rintro e w' ⟨rfl, hB⟩; try (have hcx := Hc2.out w.heap.size w' (cell_kept1 hB (by simp)))))
  all_goals
    go_wp2_with fail
    go_ret
    refine ⟨ret_text ?_, ?_⟩
    · rw [HD.out]
    · first
        | exact (low1 hB).alloc (low1 hB).size _
        | exact low2 hB (by simp)

theorem l6Dec_all (n : Int) (w : World) :
    Calls Tryz.prog 28 #[.int .i64 n] w fun e w' => e = .returned (.string (dzI n)) ∧ Below w.heap.size w w' := by
  by_cases h : n ≤ 9223372036854775807
  · have e : dzI n = dzW n := by unfold dzI; rw [if_pos h]
    rw [e]
    exact l6Dec_W n h w
  · obtain ⟨m, rfl⟩ := Int.eq_ofNat_of_zero_le (show 0 ≤ n by omega)
    exact l6Dec_huge m h w

end Go.Proofs.YtliadobopideaaaGreatDoor

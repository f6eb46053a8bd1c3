/- One of a list of texts, drawn. Conditions: the list is not empty; the reader's place is small. -/
import Derived.Test.YtliadobopideaaaGreatDoorPSDA
import Derived.Test.YtliadobopideaaaGreatDoorPKUA
namespace Go.Proofs.YtliadobopideaaaGreatDoor
open Go.RowKit Go.Sort

/-- ONE OF A LIST, DRAWN. -/
def OneOf (n₀ B p : Nat) (xs : List ByteArray) (w : World) (e : Ending) (w' : World) : Prop :=
  ∃ i : Nat, i < xs.length ∧ e = .returned (.string (xs.getD i ByteArray.empty)) ∧ Rd n₀ B (p + 1) w' ∧ w.grownBy w' (some B)

set_option maxRecDepth 100000 in
set_option maxHeartbeats 2000000 in
theorem of_any (n₀ B p g c : Nat) (xs : List ByteArray) (w : World) (hp : p ≤ 900000) (hR : Rd n₀ B p w) (h0 : 0 < xs.length) (hm : xs.length ≤ 1000) (hgB : g ≠ B)
    (hc : Hid (∀ j, j < xs.length → w.cell? ⟨g, j, none⟩ = some (.string (xs.getD j ByteArray.empty)))) :
    Calls Tryz.prog 41 #[.pointer (some ⟨B, 0, none⟩), .slice (some ⟨g, 0, none⟩) xs.length c] w (OneOf n₀ B p xs w) := by
  have HP := Lib.hid (pick_any n₀ B p (xs.length : Int) w (by omega) hR)
  clear hR
  go_enter Tryz.func41, Tryz.ntmps41
  go_wp2_with fail
  refine HP.out.mono ?_
  rintro e w1 ⟨v, rfl, hv0, hvn, hR1, hg1⟩
  have hv1 := hvn (by omega)
  clear hvn
  obtain ⟨i, rfl⟩ := Int.eq_ofNat_of_zero_le hv0
  have hi : i < xs.length := by omega
  have c0 := hc.out i hi
  have hlt : g < w.heap.size := World.block_lt_of_cell? w _ c0
  have c1 : w1.cell? ⟨g, i, none⟩ = some (.string (xs.getD i ByteArray.empty)) := hg1.cell c0 (by simp; exact hgB)
  have HX : Hid (OneOf n₀ B p xs w (.returned (.string (xs.getD i ByteArray.empty))) w1) := ⟨i, hi, rfl, hR1, hg1⟩
  generalize xs.getD i ByteArray.empty = T at c1 HX
  clear c0 hR1 hg1
  go_wp2_with fail
  go_ret
  exact HX.out

end Go.Proofs.YtliadobopideaaaGreatDoor

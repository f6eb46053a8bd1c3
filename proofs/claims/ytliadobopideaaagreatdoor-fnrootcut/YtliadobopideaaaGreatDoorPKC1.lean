/- A text with one byte changed (laws.lpaChanged). Conditions: the place lies within the text. -/
import Derived.Test.YtliadobopideaaaGreatDoorPKC0
import Derived.Lib.ConvBytes
namespace Go.Proofs.YtliadobopideaaaGreatDoor
open Go.RowKit

/-- The row of '[]byte(s)' with one byte stored, read back as a text. -/
theorem conv_changed (w : World) (s : ByteArray) (k : Nat) (x : Int) (hk : k < s.size) (cap : Nat) :
    (convert 22 9 (.slice (some ⟨w.heap.size, 0, none⟩) s.size cap)).run Tryz.prog ((Lib.bytesWorld w 5 s).setCell ⟨w.heap.size, k, none⟩ (.int .u8 x)) = .ok (.string (withAt s k x)) ((Lib.bytesWorld w 5 s).setCell ⟨w.heap.size, k, none⟩ (.int .u8 x)) := by
  refine run_convert_bytes_arg _ 22 5 Tryz.underlying22 Tryz.underlying5 w.heap.size 0 s.size cap ((nums s).set k x) (by rw [List.length_set, nums_length]) (fun i hi => ?_) 9 Tryz.underlying9
  rw [Nat.zero_add, withAt_get s k x hk i]
  by_cases e : i = k
  · subst e
    rw [if_pos rfl]
    exact World.cell?_setCell_same' _ _ _ (by rw [Lib.bytesWorld_cell w _ s i hk]; rfl)
  · rw [if_neg e, World.cell?_setCell_other _ _ _ _ (fun e2 => e (by cases e2; rfl)), Lib.bytesWorld_cell w _ s i hi]
    rfl

theorem bytesWorld_below (w : World) (e : TypeId) (s : ByteArray) : Below w.heap.size w (Lib.bytesWorld w e s) :=
  ⟨rfl, rfl, rfl, by rw [Lib.bytesWorld_size]; omega, fun k hk => Lib.bytesWorld_at_old w e s k hk⟩

/-- WHAT lpaChanged ANSWERS. -/
def Changed (s : ByteArray) (k : Nat) (c : Int) (w : World) (e : Ending) (w' : World) : Prop :=
  e = .returned (.string (withAt s k (bits .xor .u8 (byteAt s k) c))) ∧ Below w.heap.size w w'

set_option maxRecDepth 100000 in
set_option maxHeartbeats 1000000 in
theorem lpaChanged_any (s : ByteArray) (k : Nat) (c : Int) (w : World) (hk : k < s.size) :
    Calls Tryz.prog 15 #[.string s, .int .i64 (k : Int), .int .u8 c] w (Changed s k c w) := by
  have hcv := Lib.run_convert_string_bytes (P := Tryz.prog) w 9 22 5 s Tryz.underlying9 Tryz.underlying22 Tryz.underlying5
  have hce : (Lib.bytesWorld w 5 s).cell? ⟨w.heap.size, k, none⟩ = some (.int .u8 (byteAt s k)) := Lib.bytesWorld_cell w _ s k hk
  have hfr : (Lib.bytesWorld w 5 s).frozen? ⟨w.heap.size, k, none⟩ = false := by
    simp [World.frozen?, Lib.bytesWorld_at_new, Lib.bytesCells]
    omega
  have hbk := conv_changed w s k (bits .xor .u8 (byteAt s k) c) hk (grownCap w s.size 0 5)
  have HB := Lib.hid (bytesWorld_below w 5 s)
  generalize grownCap w s.size 0 5 = cap at hcv hbk
  generalize Lib.bytesWorld w 5 s = w1 at hcv hce hfr hbk HB
  go_enter Tryz.func15, Tryz.ntmps15
  go_wp2
  go_ret
  exact ⟨rfl, HB.out.setCell (p := ⟨w.heap.size, k, none⟩) (Nat.le_refl _) _⟩

end Go.Proofs.YtliadobopideaaaGreatDoor

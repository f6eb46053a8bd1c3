/- A volume by its name. Conditions: at most five volumes. -/
import Derived.Test.YtliadobopideaaaGreatDoorPKTE
namespace Go.Proofs.YtliadobopideaaaGreatDoor
open Go.RowKit Go.Sort

/-- NO VOLUME BEARS A NAME, among the first k. -/
def NoName (vs : List VolD) (nm : ByteArray) (k : Nat) : Prop := ∀ i, i < k → (vs.getD i vol0).name ≠ nm
theorem NoName.succ {vs : List VolD} {nm : ByteArray} {k : Nat} (h : NoName vs nm k) (hk : (vs.getD k vol0).name ≠ nm) : NoName vs nm (k + 1) := fun i hi => by
  by_cases e : i = k
  · subst e; exact hk
  · exact h i (by omega)

set_option maxRecDepth 100000 in
set_option maxHeartbeats 2000000 in
theorem l13Find_any (t : Int) (a : Option Addr) (cap : Nat) (vs : List VolD) (nm : ByteArray) (w : World) (hl : vs.length ≤ maxLen) (hx : Hid (VolsAt w a vs)) :
    Calls Tryz.prog 73 #[.agg #[.int .i64 t, .slice a vs.length cap], .string nm] w fun e w' => (∃ z : Int, e = .returned (.int .i64 z) ∧ ((0 ≤ z ∧ z < vs.length ∧ (vs.getD z.toNat vol0).name = nm) ∨ (z = -1 ∧ NoName vs nm vs.length))) ∧ Below w.heap.size w w' := by
  unfold maxLen at hl
  have HB0 : Hid (Below w.heap.size w (w.alloc (.cells #[.int .i64 t, .slice a vs.length cap] 25))) := (Below.refl _ _).alloc (Nat.le_refl _) _
  have c1 : (w.alloc (.cells #[.int .i64 t, .slice a vs.length cap] 25)).cell? ⟨w.heap.size, 1, none⟩ = some (.slice a vs.length cap) := by rw [World.cell?_alloc_mark]; rfl
  go_enter Tryz.func73, Tryz.ntmps73
  go_wp2_with fail
  generalize w.alloc (.cells #[.int .i64 t, .slice a vs.length cap] 25) = w1 at HB0 c1 ⊢
  go_loop [5] (fun i => ∃ k : Nat, i = .int .i64 (k : Int) ∧ k ≤ vs.length ∧ Hid (NoName vs nm k)) (fun i => vs.length - (intOf i).toNat)
  case atStart => exact ⟨0, rfl, Nat.zero_le _, fun i hi => by omega⟩
  case round =>
    obtain ⟨k, rfl, hk, hN⟩ := hrel
    by_cases hlt : k < vs.length
    · obtain ⟨b, off, rfl, hc⟩ := hx.out.resolve_left (fun e => by subst e; simp at hlt)
      obtain ⟨q0, _⟩ := hc k hlt
      have q0' := cell_below HB0.out q0
      have hk0 : (0 : Int) ≤ (k : Int) := by omega
      have hk1 : (k : Int) < (vs.length : Int) := by omega
      clear hc q0
      by_cases hq : (vs.getD k vol0).name = nm
      · have HZ : Hid ((0 : Int) ≤ (k : Int) ∧ (k : Int) < vs.length ∧ (vs.getD ((k : Int).toNat) vol0).name = nm) := ⟨hk0, hk1, by rw [Int.toNat_natCast]; exact hq⟩
        have e0 := text_yes hq
        generalize (vs.getD k vol0).name = nk at q0' e0
        clear hq
        go_wp2_with fail
        go_ret
        exact ⟨⟨k, rfl, .inl HZ.out⟩, HB0.out⟩
      · have HN1 := Lib.hid (hN.out.succ hq)
        have e0 := text_no hq
        generalize (vs.getD k vol0).name = nk at q0' e0
        clear hq
        go_wp2_with fail
        go_round
        case rel => exact ⟨k + 1, by go_num, by omega, HN1⟩
        case measure => simp [intOf]; omega
    · obtain rfl : k = vs.length := by omega
      go_wp2_with fail
      go_ret
      exact ⟨⟨-1, rfl, .inr ⟨rfl, hN.out⟩⟩, HB0.out⟩

end Go.Proofs.YtliadobopideaaaGreatDoor

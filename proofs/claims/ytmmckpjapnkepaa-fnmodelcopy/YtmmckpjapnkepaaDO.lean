/- The reader of drawn codes is opened. Conditions: none but the row's own bound on sizes. -/
import Derived.Test.YtmmckpjapnkepaaD2
import Derived.Test.YtmmckpjapnkepaaK
namespace Go.Proofs.Ytmmckpjapnkepaa
open Go.ChangeShapes Go.WideShapes Go.ChangeAt Go.RowKit

theorem IsBytes.opened {w : World} {a : Option Addr} {len cap : Nat} {z : List Int} (h : IsBytes w a len cap z) :
    len ≤ cap ∧ cap ≤ maxLen ∧ ∃ zs : Nat → Int, (∀ i, 0 ≤ zs i ∧ zs i ≤ 255) ∧ (len = 0 ∨ ∃ b off, a = some ⟨b, off, none⟩ ∧ b < w.heap.size ∧ ∀ i, i < len → w.cell? ⟨b, off + i, none⟩ = some (.int .u8 (zs i))) := by
  rcases h with ⟨rfl, rfl, rfl, rfl⟩ | ⟨x, rfl, hl, hm, hz, hc, hw⟩
  · exact ⟨by omega, by simp [maxLen], fun _ => 0, fun _ => by simp, .inl rfl⟩
  · refine ⟨hl, hm, fun i => z[i]?.getD 0, fun i => range_u8 hw i, ?_⟩
    by_cases h0 : len = 0
    · exact .inl h0
    · obtain ⟨b, off, rfl, hc'⟩ := ints_at hc (by omega)
      refine .inr ⟨b, off, rfl, World.block_lt_of_cell? w ⟨b, off + 0, none⟩ (hc' 0 (by omega)), fun i hi => ?_⟩
      have := hc' i (by omega)
      simpa [List.getD] using this

theorem IsBytes.below {w w' : World} {a : Option Addr} {len cap : Nat} {z : List Int} (h : IsBytes w a len cap z) (hB : Below w.heap.size w w') : IsBytes w' a len cap z := by
  rcases h with h | ⟨x, rfl, hl, hm, hz, hc, hw⟩
  · exact .inl h
  · refine .inr ⟨x, rfl, hl, hm, hz, fun i hi => ?_, hw⟩
    have := hc i hi
    exact (hB.cell (World.block_lt_of_cell? w _ this)).trans this

/-- WHAT l6Open ANSWERS: a reader in a new block. -/
def Opened (w : World) (e : Ending) (w' : World) : Prop :=
  ∃ B, e = .returned (.pointer (some ⟨B, 0, none⟩)) ∧ Rd w.heap.size B 0 w' ∧ Below w.heap.size w w'

theorem Rd.new {w : World} {a : Option Addr} {len cap : Nat} {zs : Nat → Int} (hlm : len ≤ 2000) (hz : ∀ i, 0 ≤ zs i ∧ zs i ≤ 255)
    (hc : len = 0 ∨ ∃ b off, a = some ⟨b, off, none⟩ ∧ b < w.heap.size ∧ ∀ i, i < len → w.cell? ⟨b, off + i, none⟩ = some (.int .u8 (zs i))) :
    Rd w.heap.size w.heap.size 0 (w.alloc (.cells #[.slice a len cap, .int .i64 0] 90)) := by
  refine ⟨Nat.le_refl _, a, len, cap, zs, heap_alloc_new w _, hlm, hz, ?_⟩
  rcases hc with h | ⟨b, off, rfl, hb, hc⟩
  · exact .inl h
  · exact .inr ⟨b, off, rfl, hb, fun i hi => (World.cell?_of_block (Below.heap_alloc _ _ _ hb)).trans (hc i hi)⟩

set_option maxHeartbeats 1000000 in
theorem l6Open_any (a : Option Addr) (len cap : Nat) (z : List Int) (w : World) (h : IsBytes w a len cap z) :
    Calls Try.prog 33 #[.slice a len cap] w (Opened w) := by
  obtain ⟨hl, hm, zs, hz, hc⟩ := h.opened
  clear h
  by_cases h2 : len ≤ 2000
  · have H := Lib.hid (Rd.new (cap := cap) h2 hz hc)
    clear hz hc
    unfold maxLen at hm
    go_enter Try.func33, Try.ntmps33
    go_wp2
    go_ret
    exact ⟨w.heap.size, rfl, H.out, (Below.refl _ _).alloc (Nat.le_refl _) _⟩
  · have hc2 : 2000 = 0 ∨ ∃ b off, a = some ⟨b, off, none⟩ ∧ b < w.heap.size ∧ ∀ i, i < 2000 → w.cell? ⟨b, off + i, none⟩ = some (.int .u8 (zs i)) := by
      rcases hc with h | ⟨b, off, e, hb, hc⟩
      · omega
      · exact .inr ⟨b, off, e, hb, fun i hi => hc i (by omega)⟩
    have H := Lib.hid (Rd.new (cap := cap) (Nat.le_refl 2000) hz hc2)
    have Ha : ∃ b off, a = some ⟨b, off, none⟩ := by
      rcases hc with h | ⟨b, off, e, _⟩
      · omega
      · exact ⟨b, off, e⟩
    obtain ⟨b, off, rfl⟩ := Ha
    clear hz hc hc2
    unfold maxLen at hm
    go_enter Try.func33, Try.ntmps33
    go_wp2
    go_ret
    exact ⟨w.heap.size, rfl, H.out, (Below.refl _ _).alloc (Nat.le_refl _) _⟩

/-- A DRAWN TEXT of at most m bytes; nothing old has turned. -/
def Drawn (m : Nat) (w : World) (e : Ending) (w' : World) : Prop := ∃ s : ByteArray, e = .returned (.string s) ∧ s.size ≤ m ∧ Below w.heap.size w w'

theorem Below.ofGrown {n₀ B : Nat} {w w' : World} (hg : w.grownBy w' (some B)) (h1 : n₀ ≤ B) (h2 : n₀ ≤ w.heap.size) : Below n₀ w w' :=
  (Below.refl n₀ w).grown hg h2 (fun k e => by cases e; exact h1)

end Go.Proofs.Ytmmckpjapnkepaa

/- DiskNew of the program and of the specification. Conditions: none. -/
import Derived.Test.YtifgoanicbaohaaPDG7
import Derived.Test.YtifgoanicbaohaaPDGT2
import Derived.Deep.RegionWith
namespace Go.Proofs.Ytifgoanicbaohaa
open Go.RowKit Go.Sort

def twelve : List ByteArray := List.replicate 12 ByteArray.empty
def two2 : List ByteArray := List.replicate 2 ByteArray.empty
def twelveB : List Bool := List.replicate 12 false
/-- **DiskNew**, as the document has it. -/
noncomputable def diskNew (st : Int) : DiskD := if tt (StateOk st) then ⟨st, twelve, two2, twelveB, []⟩ else disk0
theorem diskNew_yes {st : Int} (h : StateOk st) : diskNew st = ⟨st, twelve, two2, twelveB, []⟩ := by unfold diskNew; rw [tt_true h]; rfl
theorem diskNew_no {st : Int} (h : ¬StateOk st) : diskNew st = disk0 := by unfold diskNew; rw [tt_false h]; rfl

theorem mk12 (w : World) : (Instr.makeSlice 23 (.int .i64 12) (.int .i64 12)).run Try.prog w = .ok (.slice (some ⟨w.heap.size, 0, none⟩) 12 12) (w.alloc (.cells (txC twelve).toArray 9)) := by kernel_rfl
theorem mk2 (w : World) : (Instr.makeSlice 23 (.int .i64 2) (.int .i64 2)).run Try.prog w = .ok (.slice (some ⟨w.heap.size, 0, none⟩) 2 2) (w.alloc (.cells (txC two2).toArray 9)) := by kernel_rfl
theorem mk12b (w : World) : (Instr.makeSlice 24 (.int .i64 12) (.int .i64 12)).run Try.prog w = .ok (.slice (some ⟨w.heap.size, 0, none⟩) 12 12) (w.alloc (.cells (boC twelveB).toArray 4)) := by kernel_rfl

theorem own_of_blk {w : World} {base g n K : Nat} {cs : Array Value} {t : TypeId} (h : Blk w g cs t) (hb : base ≤ g) (hs : cs.size = n * K) (hm : n ≤ maxLen) : w.ownsRow base t K (.slice (some ⟨g, 0, none⟩) n n) n cs.toList :=
  ⟨by rw [Array.length_toList]; exact hs, .inr ⟨g, n, cs, rfl, hb, h, Nat.le_refl _, hm, hs, List.take_of_length_le (by rw [Array.length_toList, hs]; exact Nat.le_refl _)⟩⟩

theorem blk4 (w : World) (o : Obj) (A B C : Array Value) (tA tB tC : TypeId) :
    Blk ((((w.alloc o).alloc (.cells A tA)).alloc (.cells B tB)).alloc (.cells C tC)).drew (w.heap.size + 1) A tA ∧ Blk ((((w.alloc o).alloc (.cells A tA)).alloc (.cells B tB)).alloc (.cells C tC)).drew (w.heap.size + 1 + 1) B tB ∧ Blk ((((w.alloc o).alloc (.cells A tA)).alloc (.cells B tB)).alloc (.cells C tC)).drew (w.heap.size + 1 + 1 + 1) C tC := by
  have h1 := Blk.new (w.alloc o) A tA
  have h2 := Blk.new ((w.alloc o).alloc (.cells A tA)) B tB
  have h3 := Blk.new (((w.alloc o).alloc (.cells A tA)).alloc (.cells B tB)) C tC
  have g1 := h1.below ((Below.refl _ _).alloc (Nat.le_refl _) (.cells B tB)) h1.lt
  have g1 := g1.below ((Below.refl _ _).alloc (Nat.le_refl _) (.cells C tC)) g1.lt
  have g1 := g1.below (Below.refl _ _).drew g1.lt
  have g2 := h2.below ((Below.refl _ _).alloc (Nat.le_refl _) (.cells C tC)) h2.lt
  have g2 := g2.below (Below.refl _ _).drew g2.lt
  have g3 := h3.below (Below.refl _ _).drew h3.lt
  simp only [World.size_alloc] at g1 g2 g3
  exact ⟨g1, g2, g3⟩
theorem own_new {W : World} {base b1 b2 b3 : Nat} {A1 A2 A3 : Array Value} {st : Int} (e1 : (txC twelve).toArray = A1) (e2 : (txC two2).toArray = A2) (e3 : (boC twelveB).toArray = A3) (h1 : Blk W b1 A1 9) (h2 : Blk W b2 A2 9) (h3 : Blk W b3 A3 4)
    (k1 : base ≤ b1) (k2 : base ≤ b2) (k3 : base ≤ b3) (hne : b1 ≠ b2) :
    OwnDisk W base (.agg #[.int .i64 st, .slice (some ⟨b1, 0, none⟩) 12 12, .slice (some ⟨b2, 0, none⟩) 2 2, .slice (some ⟨b3, 0, none⟩) 12 12, .slice none 0 0]) ⟨st, twelve, two2, twelveB, []⟩ := by
  subst e1 e2 e3
  have o1 := own_of_blk (n := 12) (K := 1) h1 k1 (by simp [txC, twelve]) (by simp [maxLen])
  have o2 := own_of_blk (n := 2) (K := 1) h2 k2 (by simp [txC, two2]) (by simp [maxLen])
  have o3 := own_of_blk (n := 12) (K := 1) h3 k3 (by simp [boC, twelveB]) (by simp [maxLen])
  refine ⟨_, _, _, _, rfl, o1, o2, o3, ⟨rfl, .inl ⟨rfl, rfl⟩⟩, fun i h k => hne ?_⟩
  simp only [Value.ownBlock, Option.some.injEq] at h k
  omega

end Go.Proofs.Ytifgoanicbaohaa

/- What lasts over a call that turns one row. Conditions: none. -/
import Derived.Test.YtmmckpjapnkepaaGT
namespace Go.Proofs.Ytmmckpjapnkepaa
open Go.RowKit Go.Sort

theorem own_gb {w w' : World} {base K : Nat} {e : TypeId} {v : Value} {n : Nat} {xs : List Value} {r : Option Nat} (h : w.ownsRow base e K v n xs) (hg : w.grownBy w' r) (hne : ∀ i, r = some i → v.ownBlock ≠ some i) : w'.ownsRow base e K v n xs :=
  h.kept hg (by
    cases hv : v.ownBlock with
    | none => exact .inl rfl
    | some j => exact .inr (fun e => hne j e.symm hv))
theorem Blk.gb {w w' : World} {D : Nat} {cs : Array Value} {t : TypeId} {r : Option Nat} (h : Blk w D cs t) (hg : w.grownBy w' r) (hne : r ≠ some D) : Blk w' D cs t :=
  (hg.block D h.lt (fun e => hne e.symm)).trans h

theorem own_blk_ne {w : World} {base K : Nat} {e : TypeId} {v : Value} {n : Nat} {xs : List Value} (h : w.ownsRow base e K v n xs) {D : Nat} {cs : Array Value} {t : TypeId} (hb : Blk w D cs t) (hne : e ≠ t) : v.ownBlock ≠ some D := by
  intro hp
  rcases h.2 with ⟨rfl, _⟩ | ⟨g1, cap1, cur1, rfl, _, hg1, _⟩
  · cases hp
  · simp only [Value.ownBlock, Option.some.injEq] at hp
    rw [hp] at hg1
    exact hne (Blk.type hg1 hb)

end Go.Proofs.Ytmmckpjapnkepaa

/- slices.Clone of truth values, by one application of the theorem that the library has of it. Conditions: the theorem names its own. What lasts over a call that turns one row. Conditions: none. -/
import Derived.Ground.SlgnProg
import Derived.Shelf.SlicesE.Clone
import Derived.Test.YtifgoanicbaohaaPDHT3
import Derived.Test.YtifgoanicbaohaaPDGT
namespace Go.Proofs.Ytifgoanicbaohaa
open Go.Shelf Go.RowKit
def laysCl_ren : Go.Shelf.Ren := ⟨fun | 41 => 49 | n => n, fun | 22 => 24 | 23 => 4 | 4 => 4 | n => n, fun | n => n⟩
theorem laysCl : Go.Proofs.SlLaysE0.n41 Try.prog laysCl_ren := {
  mixed := by kernel_rfl
  f41 := ⟨Try.f49.name, by decide, Try.func49.trans (congrArg some (by kernel_rfl))⟩
  t4 := Try.underlying4
  a4 := Try.isAgg4
  z4 := Try.sizeOf4
  v4 := Try.zeroValue4
  t22 := Try.underlying24
  a22 := Try.isAgg24
  z22 := Try.sizeOf24
  v22 := Try.zeroValue24 }
theorem cloneBool (i0 : TypeInfo) (z : Value) (size bytes : Nat) (hi : Try.prog.info? 4 = some i0) (hz0 : i0.zero = some z) (hz1 : i0.size = size) (hz2 : i0.bytes = bytes) (hzs : z.cells.size = size) (hsz : 0 < size) (z23 : ∀ w, (Go.sizeOf 4).run Try.prog w = .ok size w) (b off n c : Nat) (news : List Value) (w : World) (hl : news.length = n * size) (hn : n ≤ maxLen) (hbig : n * bytes ≤ 140737488355328) (hc : ∀ j u, news[j]? = some u → w.cell? ⟨b, off + j, none⟩ = some u) (h1 : ∀ u ∈ news, u.oneCell' = true) :
    Calls Try.prog 49 #[.slice (some ⟨b, off, none⟩) n c] w fun e w' => ∃ v', e = .returned v' ∧ w'.ownsRow w.heap.size 4 size v' n news ∧ v' ≠ .slice none 0 0 ∧ Below w.heap.size w w' := AnyE.slices_Clone laysCl i0 z size bytes hi hz0 hz1 hz2 hzs hsz z23 b off n c news w hl hn hbig hc h1
end Go.Proofs.Ytifgoanicbaohaa

namespace Go.Proofs.Ytifgoanicbaohaa
open Go.RowKit Go.Sort

theorem own_gb {w w' : World} {base K : Nat} {e : TypeId} {v : Value} {n : Nat} {xs : List Value} {r : Option Nat} (h : w.ownsRow base e K v n xs) (hg : w.grownBy w' r) (hne : ∀ i, r = some i → v.ownBlock ≠ some i) : w'.ownsRow base e K v n xs :=
  h.kept hg (by
    cases hv : v.ownBlock with
    | none => exact .inl rfl
    | some j => exact .inr (fun e => hne j e.symm hv))
theorem Blk.gb {w w' : World} {D : Nat} {cs : Array Value} {t : TypeId} {r : Option Nat} (h : Blk w D cs t) (hg : w.grownBy w' r) (hne : r ≠ some D) : Blk w' D cs t :=
  (hg.block D h.lt (fun e => hne e.symm)).trans h

theorem own_blk_ne {w : World} {base K : Nat} {e : TypeId} {v : Value} {n : Nat} {xs : List Value} (h : w.ownsRow base e K v n xs) {D : Nat} {cs : Array Value} {t : TypeId} (hb : Blk w D cs t) (hne : e ≠ t) : v.ownBlock ≠ some D := by
  intro hp
  rcases h.2 with ⟨rfl, _⟩ | ⟨g1, cap1, cur1, rfl, _, hg1, _⟩
  · cases hp
  · simp only [Value.ownBlock, Option.some.injEq] at hp
    rw [hp] at hg1
    exact hne (Blk.type hg1 hb)

end Go.Proofs.Ytifgoanicbaohaa

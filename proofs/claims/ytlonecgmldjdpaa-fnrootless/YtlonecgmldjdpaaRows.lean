/-
  No cell of these rows narrows 'for every input' (looked for: loops, veiled, ifaces, maps, wideKeys, modest, calm, conditions, laid).
  DERIVED. THE GIVEN ROWS OF THIS SEAT. 7 by the template 'for every input the law returns true; each argument reads behind the call as it read before'; 0 by the template 'total and deterministic' (their statements: YtlonecgmldjdpaaTotals.lean).
  GIVEN WITH THE SEED: the statements are not yours to turn. If you find one false, say at which input.
  Laid BY PROGRAM, IN A SANDBOX (cutbox-rows.mjs): the forced cells as the released guide's own fill.sh prints them over the translation 03c38bb3ebe25d48… (all of the seat's roots in one cut). By AI agents, Wed Nov 11 2026. No macro, syntax, notation, axiom, sorry.
-/
import Derived.Test.YtlonecgmldjdpaaChecked
import GoSem.Claim
import GoSem.ClaimJoined
import GoSem.ClaimMapViews
import Derived.JoinedTies
import Derived.KernelRfl
namespace Go.Proofs.Ytlonecgmldjdpaa
/- THE CELL 'sum', in the pinned program and in every row, IS THE sha256 OF THE DUMP (.gsa) THAT YtlonecgmldjdpaaProg.lean LOADS. Nothing in Lean hashes anything: it is a label: what it is worth is what the hold of that sum in a sandbox is worth. -/
noncomputable def Try.pinned : Pinned := { name := "ytlonecgmldjdpaa", sum := "03c38bb3ebe25d48db9f8b1ffa59790094e418d5d951a3a0e570e75d595c96a5", checked := Try.checked }
namespace Rows
def none {H : Type} : Left H := { results := [], args := [] }

/-- 'laws.FnRootPlaces': WHATEVER THE INPUT: true; the input reads as it did. -/
def fnRootPlacesSpec : ChangeSpec := { name := "fnRootPlaces", fn := fun _ => fun
  | [d] => { results := [.lit (.bool true)], args := [d] }
  | _ => none }
def fnRootPlacesRow : OpenClaim := { program := "ytlonecgmldjdpaa", sum := "03c38bb3ebe25d48db9f8b1ffa59790094e418d5d951a3a0e570e75d595c96a5", func := "loop.example/paling/laws.FnRootPlaces", spec := "fnRootPlaces", unfollowed := true, recurses := true, apart := false }
def FnRootPlacesSaid : Prop := fnRootPlacesRow.holds Try.pinned (OpenSpec.ofChange fnRootPlacesSpec)

/-- ITS FALSE NEIGHBOUR: 'it returns false'. Refute it at one input. -/
def fnRootPlacesWrong : ChangeSpec := { name := "fnRootPlaces", fn := fun _ => fun
  | [d] => { results := [.lit (.bool false)], args := [d] }
  | _ => none }
def FnRootPlacesWrongFalsely : Prop := fnRootPlacesRow.holds Try.pinned (OpenSpec.ofChange fnRootPlacesWrong)

/-- 'laws.FnRootLess': WHATEVER THE INPUT: true; the input reads as it did. -/
def fnRootLessSpec : ChangeSpec := { name := "fnRootLess", fn := fun _ => fun
  | [d1, d2] => { results := [.lit (.bool true)], args := [d1, d2] }
  | _ => none }
def fnRootLessRow : OpenClaim := { program := "ytlonecgmldjdpaa", sum := "03c38bb3ebe25d48db9f8b1ffa59790094e418d5d951a3a0e570e75d595c96a5", func := "loop.example/paling/laws.FnRootLess", spec := "fnRootLess", unfollowed := true, recurses := true, apart := false }
def FnRootLessSaid : Prop := fnRootLessRow.holds Try.pinned (OpenSpec.ofChange fnRootLessSpec)

/-- ITS FALSE NEIGHBOUR: 'it returns false'. Refute it at one input. -/
def fnRootLessWrong : ChangeSpec := { name := "fnRootLess", fn := fun _ => fun
  | [d1, d2] => { results := [.lit (.bool false)], args := [d1, d2] }
  | _ => none }
def FnRootLessWrongFalsely : Prop := fnRootLessRow.holds Try.pinned (OpenSpec.ofChange fnRootLessWrong)

/-- 'laws.FnSpaceFree': WHATEVER THE INPUT: true; the input reads as it did. -/
def fnSpaceFreeSpec : ChangeSpec := { name := "fnSpaceFree", fn := fun _ => fun
  | [d] => { results := [.lit (.bool true)], args := [d] }
  | _ => none }
def fnSpaceFreeRow : OpenClaim := { program := "ytlonecgmldjdpaa", sum := "03c38bb3ebe25d48db9f8b1ffa59790094e418d5d951a3a0e570e75d595c96a5", func := "loop.example/paling/laws.FnSpaceFree", spec := "fnSpaceFree", unfollowed := true, recurses := true, apart := false }
def FnSpaceFreeSaid : Prop := fnSpaceFreeRow.holds Try.pinned (OpenSpec.ofChange fnSpaceFreeSpec)

/-- ITS FALSE NEIGHBOUR: 'it returns false'. Refute it at one input. -/
def fnSpaceFreeWrong : ChangeSpec := { name := "fnSpaceFree", fn := fun _ => fun
  | [d] => { results := [.lit (.bool false)], args := [d] }
  | _ => none }
def FnSpaceFreeWrongFalsely : Prop := fnSpaceFreeRow.holds Try.pinned (OpenSpec.ofChange fnSpaceFreeWrong)

/-- 'laws.FnSpaceTake': WHATEVER THE INPUT: true; the input reads as it did. -/
def fnSpaceTakeSpec : ChangeSpec := { name := "fnSpaceTake", fn := fun _ => fun
  | [d] => { results := [.lit (.bool true)], args := [d] }
  | _ => none }
def fnSpaceTakeRow : OpenClaim := { program := "ytlonecgmldjdpaa", sum := "03c38bb3ebe25d48db9f8b1ffa59790094e418d5d951a3a0e570e75d595c96a5", func := "loop.example/paling/laws.FnSpaceTake", spec := "fnSpaceTake", unfollowed := true, recurses := true, apart := false }
def FnSpaceTakeSaid : Prop := fnSpaceTakeRow.holds Try.pinned (OpenSpec.ofChange fnSpaceTakeSpec)

/-- ITS FALSE NEIGHBOUR: 'it returns false'. Refute it at one input. -/
def fnSpaceTakeWrong : ChangeSpec := { name := "fnSpaceTake", fn := fun _ => fun
  | [d] => { results := [.lit (.bool false)], args := [d] }
  | _ => none }
def FnSpaceTakeWrongFalsely : Prop := fnSpaceTakeRow.holds Try.pinned (OpenSpec.ofChange fnSpaceTakeWrong)

/-- 'laws.FnSpaceMore': WHATEVER THE INPUT: true; the input reads as it did. -/
def fnSpaceMoreSpec : ChangeSpec := { name := "fnSpaceMore", fn := fun _ => fun
  | [d] => { results := [.lit (.bool true)], args := [d] }
  | _ => none }
def fnSpaceMoreRow : OpenClaim := { program := "ytlonecgmldjdpaa", sum := "03c38bb3ebe25d48db9f8b1ffa59790094e418d5d951a3a0e570e75d595c96a5", func := "loop.example/paling/laws.FnSpaceMore", spec := "fnSpaceMore", unfollowed := true, recurses := true, apart := false }
def FnSpaceMoreSaid : Prop := fnSpaceMoreRow.holds Try.pinned (OpenSpec.ofChange fnSpaceMoreSpec)

/-- ITS FALSE NEIGHBOUR: 'it returns false'. Refute it at one input. -/
def fnSpaceMoreWrong : ChangeSpec := { name := "fnSpaceMore", fn := fun _ => fun
  | [d] => { results := [.lit (.bool false)], args := [d] }
  | _ => none }
def FnSpaceMoreWrongFalsely : Prop := fnSpaceMoreRow.holds Try.pinned (OpenSpec.ofChange fnSpaceMoreWrong)

/-- 'laws.FnSpaceMost': WHATEVER THE INPUT: true; the input reads as it did. -/
def fnSpaceMostSpec : ChangeSpec := { name := "fnSpaceMost", fn := fun _ => fun
  | [d] => { results := [.lit (.bool true)], args := [d] }
  | _ => none }
def fnSpaceMostRow : OpenClaim := { program := "ytlonecgmldjdpaa", sum := "03c38bb3ebe25d48db9f8b1ffa59790094e418d5d951a3a0e570e75d595c96a5", func := "loop.example/paling/laws.FnSpaceMost", spec := "fnSpaceMost", unfollowed := true, recurses := true, apart := false }
def FnSpaceMostSaid : Prop := fnSpaceMostRow.holds Try.pinned (OpenSpec.ofChange fnSpaceMostSpec)

/-- ITS FALSE NEIGHBOUR: 'it returns false'. Refute it at one input. -/
def fnSpaceMostWrong : ChangeSpec := { name := "fnSpaceMost", fn := fun _ => fun
  | [d] => { results := [.lit (.bool false)], args := [d] }
  | _ => none }
def FnSpaceMostWrongFalsely : Prop := fnSpaceMostRow.holds Try.pinned (OpenSpec.ofChange fnSpaceMostWrong)

/-- 'laws.FnExactSpaceTake': WHATEVER THE INPUT: true; the input reads as it did. -/
def fnExactSpaceTakeSpec : ChangeSpec := { name := "fnExactSpaceTake", fn := fun _ => fun
  | [d1, d2, d3, d4] => { results := [.lit (.bool true)], args := [d1, d2, d3, d4] }
  | _ => none }
def fnExactSpaceTakeRow : OpenClaim := { program := "ytlonecgmldjdpaa", sum := "03c38bb3ebe25d48db9f8b1ffa59790094e418d5d951a3a0e570e75d595c96a5", func := "loop.example/paling/laws.FnExactSpaceTake", spec := "fnExactSpaceTake", unfollowed := true, recurses := true, apart := false }
def FnExactSpaceTakeSaid : Prop := fnExactSpaceTakeRow.holds Try.pinned (OpenSpec.ofChange fnExactSpaceTakeSpec)

/-- ITS FALSE NEIGHBOUR: 'it returns false'. Refute it at one input. -/
def fnExactSpaceTakeWrong : ChangeSpec := { name := "fnExactSpaceTake", fn := fun _ => fun
  | [d1, d2, d3, d4] => { results := [.lit (.bool false)], args := [d1, d2, d3, d4] }
  | _ => none }
def FnExactSpaceTakeWrongFalsely : Prop := fnExactSpaceTakeRow.holds Try.pinned (OpenSpec.ofChange fnExactSpaceTakeWrong)

/- THE SECOND FORM. 'bulk': how many values and letters a reading holds, each counted each time it is reached (what is shared counts as often as it is met; a slice's spare places count too). A statement '..UptoSaid' is the law's where the arguments, and the package variables that the reading takes, are together of bulk at most 1048576: NARROWER than '..Said'. Prove '..Said' where nothing that the law and all that it calls make is longer than what came in: it says more and counts as full. Else prove '..UptoSaid'. A law counts once. -/
mutual
def uptoBulk {H : Type} : DataW H → Nat
  | .lit (.string bytes) => bytes.length + 1
  | .lit _ => 1
  | .nil => 1
  | .ptr d => uptoBulk d + 1
  | .slice elems spare => uptoBulkAll elems + uptoBulkAll spare + 1
  | .agg parts => uptoBulkAll parts + 1
  | .iface _ d => uptoBulk d + 1
  | .map entries => uptoBulkEntries entries + 1
  | .held _ => 1
def uptoBulkAll {H : Type} : List (DataW H) → Nat
  | [] => 0
  | d :: r => uptoBulk d + uptoBulkAll r
def uptoBulkEntries {H : Type} : List (Lit × DataW H) → Nat
  | [] => 0
  | x :: r => uptoBulkEntry x + uptoBulkEntries r
def uptoBulkEntry {H : Type} : Lit × DataW H → Nat
  | (.string bytes, d) => bytes.length + uptoBulk d + 1
  | (_, d) => uptoBulk d + 1
 end
def uptoSmall : (H : Type) → List (DataW H) → Bool := fun _ ds => decide (uptoBulkAll ds ≤ 1048576)
def OpenSpec.upto (s : _root_.Go.ChangeSpec) : _root_.Go.OpenSpec := { _root_.Go.OpenSpec.ofChange s with cond := some uptoSmall }

/-- 'laws.FnRootPlaces', WHERE WHAT IT READS IS OF BULK AT MOST 1048576: true; the input reads as it did. -/
def fnRootPlacesUptoRow : OpenClaim := { program := "ytlonecgmldjdpaa", sum := "03c38bb3ebe25d48db9f8b1ffa59790094e418d5d951a3a0e570e75d595c96a5", func := "loop.example/paling/laws.FnRootPlaces", spec := "fnRootPlaces", unfollowed := true, recurses := true, apart := false, narrowed := true }
def FnRootPlacesUptoSaid : Prop := fnRootPlacesUptoRow.holds Try.pinned (OpenSpec.upto fnRootPlacesSpec)

/-- 'laws.FnRootLess', WHERE WHAT IT READS IS OF BULK AT MOST 1048576: true; the input reads as it did. -/
def fnRootLessUptoRow : OpenClaim := { program := "ytlonecgmldjdpaa", sum := "03c38bb3ebe25d48db9f8b1ffa59790094e418d5d951a3a0e570e75d595c96a5", func := "loop.example/paling/laws.FnRootLess", spec := "fnRootLess", unfollowed := true, recurses := true, apart := false, narrowed := true }
def FnRootLessUptoSaid : Prop := fnRootLessUptoRow.holds Try.pinned (OpenSpec.upto fnRootLessSpec)

/-- 'laws.FnSpaceFree', WHERE WHAT IT READS IS OF BULK AT MOST 1048576: true; the input reads as it did. -/
def fnSpaceFreeUptoRow : OpenClaim := { program := "ytlonecgmldjdpaa", sum := "03c38bb3ebe25d48db9f8b1ffa59790094e418d5d951a3a0e570e75d595c96a5", func := "loop.example/paling/laws.FnSpaceFree", spec := "fnSpaceFree", unfollowed := true, recurses := true, apart := false, narrowed := true }
def FnSpaceFreeUptoSaid : Prop := fnSpaceFreeUptoRow.holds Try.pinned (OpenSpec.upto fnSpaceFreeSpec)

/-- 'laws.FnSpaceTake', WHERE WHAT IT READS IS OF BULK AT MOST 1048576: true; the input reads as it did. -/
def fnSpaceTakeUptoRow : OpenClaim := { program := "ytlonecgmldjdpaa", sum := "03c38bb3ebe25d48db9f8b1ffa59790094e418d5d951a3a0e570e75d595c96a5", func := "loop.example/paling/laws.FnSpaceTake", spec := "fnSpaceTake", unfollowed := true, recurses := true, apart := false, narrowed := true }
def FnSpaceTakeUptoSaid : Prop := fnSpaceTakeUptoRow.holds Try.pinned (OpenSpec.upto fnSpaceTakeSpec)

/-- 'laws.FnSpaceMore', WHERE WHAT IT READS IS OF BULK AT MOST 1048576: true; the input reads as it did. -/
def fnSpaceMoreUptoRow : OpenClaim := { program := "ytlonecgmldjdpaa", sum := "03c38bb3ebe25d48db9f8b1ffa59790094e418d5d951a3a0e570e75d595c96a5", func := "loop.example/paling/laws.FnSpaceMore", spec := "fnSpaceMore", unfollowed := true, recurses := true, apart := false, narrowed := true }
def FnSpaceMoreUptoSaid : Prop := fnSpaceMoreUptoRow.holds Try.pinned (OpenSpec.upto fnSpaceMoreSpec)

/-- 'laws.FnSpaceMost', WHERE WHAT IT READS IS OF BULK AT MOST 1048576: true; the input reads as it did. -/
def fnSpaceMostUptoRow : OpenClaim := { program := "ytlonecgmldjdpaa", sum := "03c38bb3ebe25d48db9f8b1ffa59790094e418d5d951a3a0e570e75d595c96a5", func := "loop.example/paling/laws.FnSpaceMost", spec := "fnSpaceMost", unfollowed := true, recurses := true, apart := false, narrowed := true }
def FnSpaceMostUptoSaid : Prop := fnSpaceMostUptoRow.holds Try.pinned (OpenSpec.upto fnSpaceMostSpec)

/-- 'laws.FnExactSpaceTake', WHERE WHAT IT READS IS OF BULK AT MOST 1048576: true; the input reads as it did. -/
def fnExactSpaceTakeUptoRow : OpenClaim := { program := "ytlonecgmldjdpaa", sum := "03c38bb3ebe25d48db9f8b1ffa59790094e418d5d951a3a0e570e75d595c96a5", func := "loop.example/paling/laws.FnExactSpaceTake", spec := "fnExactSpaceTake", unfollowed := true, recurses := true, apart := false, narrowed := true }
def FnExactSpaceTakeUptoSaid : Prop := fnExactSpaceTakeUptoRow.holds Try.pinned (OpenSpec.upto fnExactSpaceTakeSpec)

end Rows
end Go.Proofs.Ytlonecgmldjdpaa

/-
  No cell of these rows narrows 'for every input' (looked for: loops, veiled, ifaces, maps, wideKeys, modest, calm, conditions, laid).
  DERIVED. THE GIVEN ROWS OF THIS SEAT. 9 by the template 'for every input the law returns true; each argument reads behind the call as it read before'; 0 by the template 'total and deterministic' (their statements: YtagfnhgioljfnaaTotals.lean).
  GIVEN WITH THE SEED: the statements are not yours to turn. If you find one false, say at which input.
  Laid BY PROGRAM, IN A SANDBOX (cutbox-rows.mjs): the forced cells as the released guide's own fill.sh prints them over the translation 423a13bab1197f9e… (all of the seat's roots in one cut). By AI agents, Wed Nov 11 2026. No macro, syntax, notation, axiom, sorry.
-/
import Derived.Test.YtagfnhgioljfnaaChecked
import GoSem.Claim
import GoSem.ClaimJoined
import GoSem.ClaimMapViews
import Derived.JoinedTies
import Derived.KernelRfl
namespace Go.Proofs.Ytagfnhgioljfnaa
/- THE CELL 'sum', in the pinned program and in every row, IS THE sha256 OF THE DUMP (.gsa) THAT YtagfnhgioljfnaaProg.lean LOADS. Nothing in Lean hashes anything: it is a label: what it is worth is what the hold of that sum in a sandbox is worth. -/
noncomputable def Try.pinned : Pinned := { name := "ytagfnhgioljfnaa", sum := "423a13bab1197f9e3d6ed211a4494780b92bf5fd75655b4ec1fff7f1323def57", checked := Try.checked }
namespace Rows
def none {H : Type} : Left H := { results := [], args := [] }

/-- 'laws.FnSumOne': WHATEVER THE INPUT: true; the input reads as it did. -/
def fnSumOneSpec : ChangeSpec := { name := "fnSumOne", fn := fun _ => fun
  | [d1, d2] => { results := [.lit (.bool true)], args := [d1, d2] }
  | _ => none }
def fnSumOneRow : OpenClaim := { program := "ytagfnhgioljfnaa", sum := "423a13bab1197f9e3d6ed211a4494780b92bf5fd75655b4ec1fff7f1323def57", func := "loop.example/paling/laws.FnSumOne", spec := "fnSumOne", unfollowed := true, recurses := true, apart := false }
def FnSumOneSaid : Prop := fnSumOneRow.holds Try.pinned (OpenSpec.ofChange fnSumOneSpec)

/-- ITS FALSE NEIGHBOUR: 'it returns false'. Refute it at one input. -/
def fnSumOneWrong : ChangeSpec := { name := "fnSumOne", fn := fun _ => fun
  | [d1, d2] => { results := [.lit (.bool false)], args := [d1, d2] }
  | _ => none }
def FnSumOneWrongFalsely : Prop := fnSumOneRow.holds Try.pinned (OpenSpec.ofChange fnSumOneWrong)

/-- 'laws.FnSumMost': WHATEVER THE INPUT: true; the input reads as it did. -/
def fnSumMostSpec : ChangeSpec := { name := "fnSumMost", fn := fun _ => fun
  | [d] => { results := [.lit (.bool true)], args := [d] }
  | _ => none }
def fnSumMostRow : OpenClaim := { program := "ytagfnhgioljfnaa", sum := "423a13bab1197f9e3d6ed211a4494780b92bf5fd75655b4ec1fff7f1323def57", func := "loop.example/paling/laws.FnSumMost", spec := "fnSumMost", unfollowed := true, recurses := true, apart := false }
def FnSumMostSaid : Prop := fnSumMostRow.holds Try.pinned (OpenSpec.ofChange fnSumMostSpec)

/-- ITS FALSE NEIGHBOUR: 'it returns false'. Refute it at one input. -/
def fnSumMostWrong : ChangeSpec := { name := "fnSumMost", fn := fun _ => fun
  | [d] => { results := [.lit (.bool false)], args := [d] }
  | _ => none }
def FnSumMostWrongFalsely : Prop := fnSumMostRow.holds Try.pinned (OpenSpec.ofChange fnSumMostWrong)

/-- 'laws.FnPtrApart': WHATEVER THE INPUT: true; the input reads as it did. -/
def fnPtrApartSpec : ChangeSpec := { name := "fnPtrApart", fn := fun _ => fun
  | [d] => { results := [.lit (.bool true)], args := [d] }
  | _ => none }
def fnPtrApartRow : OpenClaim := { program := "ytagfnhgioljfnaa", sum := "423a13bab1197f9e3d6ed211a4494780b92bf5fd75655b4ec1fff7f1323def57", func := "loop.example/paling/laws.FnPtrApart", spec := "fnPtrApart", apart := false }
def FnPtrApartSaid : Prop := fnPtrApartRow.holds Try.pinned (OpenSpec.ofChange fnPtrApartSpec)

/-- ITS FALSE NEIGHBOUR: 'it returns false'. Refute it at one input. -/
def fnPtrApartWrong : ChangeSpec := { name := "fnPtrApart", fn := fun _ => fun
  | [d] => { results := [.lit (.bool false)], args := [d] }
  | _ => none }
def FnPtrApartWrongFalsely : Prop := fnPtrApartRow.holds Try.pinned (OpenSpec.ofChange fnPtrApartWrong)

/-- 'laws.FnRootPlaces': WHATEVER THE INPUT: true; the input reads as it did. -/
def fnRootPlacesSpec : ChangeSpec := { name := "fnRootPlaces", fn := fun _ => fun
  | [d] => { results := [.lit (.bool true)], args := [d] }
  | _ => none }
def fnRootPlacesRow : OpenClaim := { program := "ytagfnhgioljfnaa", sum := "423a13bab1197f9e3d6ed211a4494780b92bf5fd75655b4ec1fff7f1323def57", func := "loop.example/paling/laws.FnRootPlaces", spec := "fnRootPlaces", unfollowed := true, recurses := true, apart := false }
def FnRootPlacesSaid : Prop := fnRootPlacesRow.holds Try.pinned (OpenSpec.ofChange fnRootPlacesSpec)

/-- ITS FALSE NEIGHBOUR: 'it returns false'. Refute it at one input. -/
def fnRootPlacesWrong : ChangeSpec := { name := "fnRootPlaces", fn := fun _ => fun
  | [d] => { results := [.lit (.bool false)], args := [d] }
  | _ => none }
def FnRootPlacesWrongFalsely : Prop := fnRootPlacesRow.holds Try.pinned (OpenSpec.ofChange fnRootPlacesWrong)

/-- 'laws.FnRootLess': WHATEVER THE INPUT: true; the input reads as it did. -/
def fnRootLessSpec : ChangeSpec := { name := "fnRootLess", fn := fun _ => fun
  | [d1, d2] => { results := [.lit (.bool true)], args := [d1, d2] }
  | _ => none }
def fnRootLessRow : OpenClaim := { program := "ytagfnhgioljfnaa", sum := "423a13bab1197f9e3d6ed211a4494780b92bf5fd75655b4ec1fff7f1323def57", func := "loop.example/paling/laws.FnRootLess", spec := "fnRootLess", unfollowed := true, recurses := true, apart := false }
def FnRootLessSaid : Prop := fnRootLessRow.holds Try.pinned (OpenSpec.ofChange fnRootLessSpec)

/-- ITS FALSE NEIGHBOUR: 'it returns false'. Refute it at one input. -/
def fnRootLessWrong : ChangeSpec := { name := "fnRootLess", fn := fun _ => fun
  | [d1, d2] => { results := [.lit (.bool false)], args := [d1, d2] }
  | _ => none }
def FnRootLessWrongFalsely : Prop := fnRootLessRow.holds Try.pinned (OpenSpec.ofChange fnRootLessWrong)

/-- 'laws.FnExactSumOf': WHATEVER THE INPUT: true; the input reads as it did. -/
def fnExactSumOfSpec : ChangeSpec := { name := "fnExactSumOf", fn := fun _ => fun
  | [d] => { results := [.lit (.bool true)], args := [d] }
  | _ => none }
def fnExactSumOfRow : OpenClaim := { program := "ytagfnhgioljfnaa", sum := "423a13bab1197f9e3d6ed211a4494780b92bf5fd75655b4ec1fff7f1323def57", func := "loop.example/paling/laws.FnExactSumOf", spec := "fnExactSumOf", unfollowed := true, recurses := true, apart := false }
def FnExactSumOfSaid : Prop := fnExactSumOfRow.holds Try.pinned (OpenSpec.ofChange fnExactSumOfSpec)

/-- ITS FALSE NEIGHBOUR: 'it returns false'. Refute it at one input. -/
def fnExactSumOfWrong : ChangeSpec := { name := "fnExactSumOf", fn := fun _ => fun
  | [d] => { results := [.lit (.bool false)], args := [d] }
  | _ => none }
def FnExactSumOfWrongFalsely : Prop := fnExactSumOfRow.holds Try.pinned (OpenSpec.ofChange fnExactSumOfWrong)

/-- 'laws.FnExactPtrOk': WHATEVER THE INPUT: true; the input reads as it did. -/
def fnExactPtrOkSpec : ChangeSpec := { name := "fnExactPtrOk", fn := fun _ => fun
  | [d1, d2] => { results := [.lit (.bool true)], args := [d1, d2] }
  | _ => none }
def fnExactPtrOkRow : OpenClaim := { program := "ytagfnhgioljfnaa", sum := "423a13bab1197f9e3d6ed211a4494780b92bf5fd75655b4ec1fff7f1323def57", func := "loop.example/paling/laws.FnExactPtrOk", spec := "fnExactPtrOk", apart := false }
def FnExactPtrOkSaid : Prop := fnExactPtrOkRow.holds Try.pinned (OpenSpec.ofChange fnExactPtrOkSpec)

/-- ITS FALSE NEIGHBOUR: 'it returns false'. Refute it at one input. -/
def fnExactPtrOkWrong : ChangeSpec := { name := "fnExactPtrOk", fn := fun _ => fun
  | [d1, d2] => { results := [.lit (.bool false)], args := [d1, d2] }
  | _ => none }
def FnExactPtrOkWrongFalsely : Prop := fnExactPtrOkRow.holds Try.pinned (OpenSpec.ofChange fnExactPtrOkWrong)

/-- 'laws.FnExactRootOk': WHATEVER THE INPUT: true; the input reads as it did. -/
def fnExactRootOkSpec : ChangeSpec := { name := "fnExactRootOk", fn := fun _ => fun
  | [d1, d2] => { results := [.lit (.bool true)], args := [d1, d2] }
  | _ => none }
def fnExactRootOkRow : OpenClaim := { program := "ytagfnhgioljfnaa", sum := "423a13bab1197f9e3d6ed211a4494780b92bf5fd75655b4ec1fff7f1323def57", func := "loop.example/paling/laws.FnExactRootOk", spec := "fnExactRootOk", unfollowed := true, recurses := true, apart := false }
def FnExactRootOkSaid : Prop := fnExactRootOkRow.holds Try.pinned (OpenSpec.ofChange fnExactRootOkSpec)

/-- ITS FALSE NEIGHBOUR: 'it returns false'. Refute it at one input. -/
def fnExactRootOkWrong : ChangeSpec := { name := "fnExactRootOk", fn := fun _ => fun
  | [d1, d2] => { results := [.lit (.bool false)], args := [d1, d2] }
  | _ => none }
def FnExactRootOkWrongFalsely : Prop := fnExactRootOkRow.holds Try.pinned (OpenSpec.ofChange fnExactRootOkWrong)

/-- 'laws.FnExactRootPlaces': WHATEVER THE INPUT: true; the input reads as it did. -/
def fnExactRootPlacesSpec : ChangeSpec := { name := "fnExactRootPlaces", fn := fun _ => fun
  | [d1, d2] => { results := [.lit (.bool true)], args := [d1, d2] }
  | _ => none }
def fnExactRootPlacesRow : OpenClaim := { program := "ytagfnhgioljfnaa", sum := "423a13bab1197f9e3d6ed211a4494780b92bf5fd75655b4ec1fff7f1323def57", func := "loop.example/paling/laws.FnExactRootPlaces", spec := "fnExactRootPlaces", unfollowed := true, recurses := true, apart := false }
def FnExactRootPlacesSaid : Prop := fnExactRootPlacesRow.holds Try.pinned (OpenSpec.ofChange fnExactRootPlacesSpec)

/-- ITS FALSE NEIGHBOUR: 'it returns false'. Refute it at one input. -/
def fnExactRootPlacesWrong : ChangeSpec := { name := "fnExactRootPlaces", fn := fun _ => fun
  | [d1, d2] => { results := [.lit (.bool false)], args := [d1, d2] }
  | _ => none }
def FnExactRootPlacesWrongFalsely : Prop := fnExactRootPlacesRow.holds Try.pinned (OpenSpec.ofChange fnExactRootPlacesWrong)

/- THE SECOND FORM. 'bulk': how many values and letters a reading holds, each counted each time it is reached (what is shared counts as often as it is met; a slice's spare places count too). A statement '..UptoSaid' is the law's where the arguments, and the package variables that the reading takes, are together of bulk at most 1048576: NARROWER than '..Said'. Prove '..Said' where nothing that the law and all that it calls make is longer than what came in: it says more and counts as full. Else prove '..UptoSaid'. A law counts once. -/
mutual
def uptoBulk {H : Type} : DataW H → Nat
  | .lit (.string bytes) => bytes.length + 1
  | .lit _ => 1
  | .nil => 1
  | .ptr d => uptoBulk d + 1
  | .slice elems spare => uptoBulkAll elems + uptoBulkAll spare + 1
  | .agg parts => uptoBulkAll parts + 1
  | .iface _ d => uptoBulk d + 1
  | .map entries => uptoBulkEntries entries + 1
  | .held _ => 1
def uptoBulkAll {H : Type} : List (DataW H) → Nat
  | [] => 0
  | d :: r => uptoBulk d + uptoBulkAll r
def uptoBulkEntries {H : Type} : List (Lit × DataW H) → Nat
  | [] => 0
  | x :: r => uptoBulkEntry x + uptoBulkEntries r
def uptoBulkEntry {H : Type} : Lit × DataW H → Nat
  | (.string bytes, d) => bytes.length + uptoBulk d + 1
  | (_, d) => uptoBulk d + 1
 end
def uptoSmall : (H : Type) → List (DataW H) → Bool := fun _ ds => decide (uptoBulkAll ds ≤ 1048576)
def OpenSpec.upto (s : _root_.Go.ChangeSpec) : _root_.Go.OpenSpec := { _root_.Go.OpenSpec.ofChange s with cond := some uptoSmall }

/-- 'laws.FnSumOne', WHERE WHAT IT READS IS OF BULK AT MOST 1048576: true; the input reads as it did. -/
def fnSumOneUptoRow : OpenClaim := { program := "ytagfnhgioljfnaa", sum := "423a13bab1197f9e3d6ed211a4494780b92bf5fd75655b4ec1fff7f1323def57", func := "loop.example/paling/laws.FnSumOne", spec := "fnSumOne", unfollowed := true, recurses := true, apart := false, narrowed := true }
def FnSumOneUptoSaid : Prop := fnSumOneUptoRow.holds Try.pinned (OpenSpec.upto fnSumOneSpec)

/-- 'laws.FnSumMost', WHERE WHAT IT READS IS OF BULK AT MOST 1048576: true; the input reads as it did. -/
def fnSumMostUptoRow : OpenClaim := { program := "ytagfnhgioljfnaa", sum := "423a13bab1197f9e3d6ed211a4494780b92bf5fd75655b4ec1fff7f1323def57", func := "loop.example/paling/laws.FnSumMost", spec := "fnSumMost", unfollowed := true, recurses := true, apart := false, narrowed := true }
def FnSumMostUptoSaid : Prop := fnSumMostUptoRow.holds Try.pinned (OpenSpec.upto fnSumMostSpec)

/-- 'laws.FnPtrApart', WHERE WHAT IT READS IS OF BULK AT MOST 1048576: true; the input reads as it did. -/
def fnPtrApartUptoRow : OpenClaim := { program := "ytagfnhgioljfnaa", sum := "423a13bab1197f9e3d6ed211a4494780b92bf5fd75655b4ec1fff7f1323def57", func := "loop.example/paling/laws.FnPtrApart", spec := "fnPtrApart", apart := false, narrowed := true }
def FnPtrApartUptoSaid : Prop := fnPtrApartUptoRow.holds Try.pinned (OpenSpec.upto fnPtrApartSpec)

/-- 'laws.FnRootPlaces', WHERE WHAT IT READS IS OF BULK AT MOST 1048576: true; the input reads as it did. -/
def fnRootPlacesUptoRow : OpenClaim := { program := "ytagfnhgioljfnaa", sum := "423a13bab1197f9e3d6ed211a4494780b92bf5fd75655b4ec1fff7f1323def57", func := "loop.example/paling/laws.FnRootPlaces", spec := "fnRootPlaces", unfollowed := true, recurses := true, apart := false, narrowed := true }
def FnRootPlacesUptoSaid : Prop := fnRootPlacesUptoRow.holds Try.pinned (OpenSpec.upto fnRootPlacesSpec)

/-- 'laws.FnRootLess', WHERE WHAT IT READS IS OF BULK AT MOST 1048576: true; the input reads as it did. -/
def fnRootLessUptoRow : OpenClaim := { program := "ytagfnhgioljfnaa", sum := "423a13bab1197f9e3d6ed211a4494780b92bf5fd75655b4ec1fff7f1323def57", func := "loop.example/paling/laws.FnRootLess", spec := "fnRootLess", unfollowed := true, recurses := true, apart := false, narrowed := true }
def FnRootLessUptoSaid : Prop := fnRootLessUptoRow.holds Try.pinned (OpenSpec.upto fnRootLessSpec)

/-- 'laws.FnExactSumOf', WHERE WHAT IT READS IS OF BULK AT MOST 1048576: true; the input reads as it did. -/
def fnExactSumOfUptoRow : OpenClaim := { program := "ytagfnhgioljfnaa", sum := "423a13bab1197f9e3d6ed211a4494780b92bf5fd75655b4ec1fff7f1323def57", func := "loop.example/paling/laws.FnExactSumOf", spec := "fnExactSumOf", unfollowed := true, recurses := true, apart := false, narrowed := true }
def FnExactSumOfUptoSaid : Prop := fnExactSumOfUptoRow.holds Try.pinned (OpenSpec.upto fnExactSumOfSpec)

/-- 'laws.FnExactPtrOk', WHERE WHAT IT READS IS OF BULK AT MOST 1048576: true; the input reads as it did. -/
def fnExactPtrOkUptoRow : OpenClaim := { program := "ytagfnhgioljfnaa", sum := "423a13bab1197f9e3d6ed211a4494780b92bf5fd75655b4ec1fff7f1323def57", func := "loop.example/paling/laws.FnExactPtrOk", spec := "fnExactPtrOk", apart := false, narrowed := true }
def FnExactPtrOkUptoSaid : Prop := fnExactPtrOkUptoRow.holds Try.pinned (OpenSpec.upto fnExactPtrOkSpec)

/-- 'laws.FnExactRootOk', WHERE WHAT IT READS IS OF BULK AT MOST 1048576: true; the input reads as it did. -/
def fnExactRootOkUptoRow : OpenClaim := { program := "ytagfnhgioljfnaa", sum := "423a13bab1197f9e3d6ed211a4494780b92bf5fd75655b4ec1fff7f1323def57", func := "loop.example/paling/laws.FnExactRootOk", spec := "fnExactRootOk", unfollowed := true, recurses := true, apart := false, narrowed := true }
def FnExactRootOkUptoSaid : Prop := fnExactRootOkUptoRow.holds Try.pinned (OpenSpec.upto fnExactRootOkSpec)

/-- 'laws.FnExactRootPlaces', WHERE WHAT IT READS IS OF BULK AT MOST 1048576: true; the input reads as it did. -/
def fnExactRootPlacesUptoRow : OpenClaim := { program := "ytagfnhgioljfnaa", sum := "423a13bab1197f9e3d6ed211a4494780b92bf5fd75655b4ec1fff7f1323def57", func := "loop.example/paling/laws.FnExactRootPlaces", spec := "fnExactRootPlaces", unfollowed := true, recurses := true, apart := false, narrowed := true }
def FnExactRootPlacesUptoSaid : Prop := fnExactRootPlacesUptoRow.holds Try.pinned (OpenSpec.upto fnExactRootPlacesSpec)

end Rows
end Go.Proofs.Ytagfnhgioljfnaa

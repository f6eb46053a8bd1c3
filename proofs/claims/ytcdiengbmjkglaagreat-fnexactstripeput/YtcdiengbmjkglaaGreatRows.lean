/-
  No cell of these rows narrows 'for every input' (looked for: loops, veiled, ifaces, maps, wideKeys, modest, calm, conditions, laid).
  DERIVED. THE GIVEN ROWS OF THIS SEAT. 2 by the template 'for every input the law returns true; each argument reads behind the call as it read before'; 0 by the template 'total and deterministic' (their statements: YtcdiengbmjkglaaGreatTotals.lean).
  GIVEN WITH THE SEED: the statements are not yours to turn. If you find one false, say at which input.
  Laid BY PROGRAM, IN A SANDBOX (cutbox-rows.mjs): the forced cells as the released guide's own fill.sh prints them over the translation 5d027d18fc099f5f… (all of the seat's roots in one cut). By AI agents, Wed Nov 11 2026. No macro, syntax, notation, axiom, sorry.
-/
import Derived.Test.YtcdiengbmjkglaaGreatChecked
import GoSem.Claim
import GoSem.ClaimJoined
import GoSem.ClaimMapViews
import Derived.JoinedTies
import Derived.KernelRfl
namespace Go.Proofs.YtcdiengbmjkglaaGreat
/- THE CELL 'sum', in the pinned program and in every row, IS THE sha256 OF THE DUMP (.gsa) THAT YtcdiengbmjkglaaGreatProg.lean LOADS. Nothing in Lean hashes anything: it is a label: what it is worth is what the hold of that sum in a sandbox is worth. -/
noncomputable def Tryz.pinned : Pinned := { name := "ytcdiengbmjkglaagreat", sum := "5d027d18fc099f5f181704fde06bc93ad5a742f7505ffbd9f845d46ddb65504f", checked := Tryz.checked }
namespace Rows
def none {H : Type} : Left H := { results := [], args := [] }

/-- 'laws.FnExactStripePut': WHATEVER THE INPUT: true; the input reads as it did. -/
def fnExactStripePutSpec : ChangeSpec := { name := "fnExactStripePut", fn := fun _ => fun
  | [d1, d2, d3] => { results := [.lit (.bool true)], args := [d1, d2, d3] }
  | _ => none }
def fnExactStripePutRow : OpenClaim := { program := "ytcdiengbmjkglaagreat", sum := "5d027d18fc099f5f181704fde06bc93ad5a742f7505ffbd9f845d46ddb65504f", func := "loop.example/paling/laws.FnExactStripePut", spec := "fnExactStripePut", inPlace := ["internal/abi.NoEscape", "internal/bytealg.MakeNoZero"], unfollowed := true, recurses := true, apart := false }
def FnExactStripePutSaid : Prop := fnExactStripePutRow.holds Tryz.pinned (OpenSpec.ofChange fnExactStripePutSpec)

/-- ITS FALSE NEIGHBOUR: 'it returns false'. Refute it at one input. -/
def fnExactStripePutWrong : ChangeSpec := { name := "fnExactStripePut", fn := fun _ => fun
  | [d1, d2, d3] => { results := [.lit (.bool false)], args := [d1, d2, d3] }
  | _ => none }
def FnExactStripePutWrongFalsely : Prop := fnExactStripePutRow.holds Tryz.pinned (OpenSpec.ofChange fnExactStripePutWrong)

/-- 'laws.FnStripeBeside': WHATEVER THE INPUT: true; the input reads as it did. -/
def fnStripeBesideSpec : ChangeSpec := { name := "fnStripeBeside", fn := fun _ => fun
  | [d] => { results := [.lit (.bool true)], args := [d] }
  | _ => none }
def fnStripeBesideRow : OpenClaim := { program := "ytcdiengbmjkglaagreat", sum := "5d027d18fc099f5f181704fde06bc93ad5a742f7505ffbd9f845d46ddb65504f", func := "loop.example/paling/laws.FnStripeBeside", spec := "fnStripeBeside", inPlace := ["internal/abi.NoEscape", "internal/bytealg.MakeNoZero"], unfollowed := true, recurses := true, apart := false }
def FnStripeBesideSaid : Prop := fnStripeBesideRow.holds Tryz.pinned (OpenSpec.ofChange fnStripeBesideSpec)

/-- ITS FALSE NEIGHBOUR: 'it returns false'. Refute it at one input. -/
def fnStripeBesideWrong : ChangeSpec := { name := "fnStripeBeside", fn := fun _ => fun
  | [d] => { results := [.lit (.bool false)], args := [d] }
  | _ => none }
def FnStripeBesideWrongFalsely : Prop := fnStripeBesideRow.holds Tryz.pinned (OpenSpec.ofChange fnStripeBesideWrong)

/- THE SECOND FORM. 'bulk': how many values and letters a reading holds, each counted each time it is reached (what is shared counts as often as it is met; a slice's spare places count too). A statement '..UptoSaid' is the law's where the arguments, and the package variables that the reading takes, are together of bulk at most 1048576: NARROWER than '..Said'. Prove '..Said' where nothing that the law and all that it calls make is longer than what came in: it says more and counts as full. Else prove '..UptoSaid'. A law counts once. -/
mutual
def uptoBulk {H : Type} : DataW H → Nat
  | .lit (.string bytes) => bytes.length + 1
  | .lit _ => 1
  | .nil => 1
  | .ptr d => uptoBulk d + 1
  | .slice elems spare => uptoBulkAll elems + uptoBulkAll spare + 1
  | .agg parts => uptoBulkAll parts + 1
  | .iface _ d => uptoBulk d + 1
  | .map entries => uptoBulkEntries entries + 1
  | .held _ => 1
def uptoBulkAll {H : Type} : List (DataW H) → Nat
  | [] => 0
  | d :: r => uptoBulk d + uptoBulkAll r
def uptoBulkEntries {H : Type} : List (Lit × DataW H) → Nat
  | [] => 0
  | x :: r => uptoBulkEntry x + uptoBulkEntries r
def uptoBulkEntry {H : Type} : Lit × DataW H → Nat
  | (.string bytes, d) => bytes.length + uptoBulk d + 1
  | (_, d) => uptoBulk d + 1
 end
def uptoSmall : (H : Type) → List (DataW H) → Bool := fun _ ds => decide (uptoBulkAll ds ≤ 1048576)
def OpenSpec.upto (s : _root_.Go.ChangeSpec) : _root_.Go.OpenSpec := { _root_.Go.OpenSpec.ofChange s with cond := some uptoSmall }

/-- 'laws.FnExactStripePut', WHERE WHAT IT READS IS OF BULK AT MOST 1048576: true; the input reads as it did. -/
def fnExactStripePutUptoRow : OpenClaim := { program := "ytcdiengbmjkglaagreat", sum := "5d027d18fc099f5f181704fde06bc93ad5a742f7505ffbd9f845d46ddb65504f", func := "loop.example/paling/laws.FnExactStripePut", spec := "fnExactStripePut", inPlace := ["internal/abi.NoEscape", "internal/bytealg.MakeNoZero"], unfollowed := true, recurses := true, apart := false, narrowed := true }
def FnExactStripePutUptoSaid : Prop := fnExactStripePutUptoRow.holds Tryz.pinned (OpenSpec.upto fnExactStripePutSpec)

/-- 'laws.FnStripeBeside', WHERE WHAT IT READS IS OF BULK AT MOST 1048576: true; the input reads as it did. -/
def fnStripeBesideUptoRow : OpenClaim := { program := "ytcdiengbmjkglaagreat", sum := "5d027d18fc099f5f181704fde06bc93ad5a742f7505ffbd9f845d46ddb65504f", func := "loop.example/paling/laws.FnStripeBeside", spec := "fnStripeBeside", inPlace := ["internal/abi.NoEscape", "internal/bytealg.MakeNoZero"], unfollowed := true, recurses := true, apart := false, narrowed := true }
def FnStripeBesideUptoSaid : Prop := fnStripeBesideUptoRow.holds Tryz.pinned (OpenSpec.upto fnStripeBesideSpec)

end Rows
end Go.Proofs.YtcdiengbmjkglaaGreat

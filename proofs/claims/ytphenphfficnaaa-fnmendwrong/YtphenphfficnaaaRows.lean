/-
  No cell of these rows narrows 'for every input' (looked for: loops, veiled, ifaces, maps, wideKeys, modest, calm, conditions, laid).
  DERIVED. THE GIVEN ROWS OF THIS SEAT. 12 by the template 'for every input the law returns true; each argument reads behind the call as it read before'; 0 by the template 'total and deterministic' (their statements: YtphenphfficnaaaTotals.lean).
  GIVEN WITH THE SEED: the statements are not yours to turn. If you find one false, say at which input.
  Laid BY PROGRAM, IN A SANDBOX (cutbox-rows.mjs): the forced cells as the released guide's own fill.sh prints them over the translation e055a790a0707077… (all of the seat's roots in one cut). By AI agents, Wed Nov 11 2026. No macro, syntax, notation, axiom, sorry.
-/
import Derived.Test.YtphenphfficnaaaChecked
import GoSem.Claim
import GoSem.ClaimJoined
import GoSem.ClaimMapViews
import Derived.JoinedTies
import Derived.KernelRfl
namespace Go.Proofs.Ytphenphfficnaaa
/- THE CELL 'sum', in the pinned program and in every row, IS THE sha256 OF THE DUMP (.gsa) THAT YtphenphfficnaaaProg.lean LOADS. Nothing in Lean hashes anything: it is a label: what it is worth is what the hold of that sum in a sandbox is worth. -/
noncomputable def Try.pinned : Pinned := { name := "ytphenphfficnaaa", sum := "e055a790a0707077f8f5274c4c3cee84cf095152be9b49be917ec744686b670a", checked := Try.checked }
namespace Rows
def none {H : Type} : Left H := { results := [], args := [] }

/-- 'laws.FnSumOne': WHATEVER THE INPUT: true; the input reads as it did. -/
def fnSumOneSpec : ChangeSpec := { name := "fnSumOne", fn := fun _ => fun
  | [d1, d2] => { results := [.lit (.bool true)], args := [d1, d2] }
  | _ => none }
def fnSumOneRow : OpenClaim := { program := "ytphenphfficnaaa", sum := "e055a790a0707077f8f5274c4c3cee84cf095152be9b49be917ec744686b670a", func := "loop.example/paling/laws.FnSumOne", spec := "fnSumOne", unfollowed := true, recurses := true, apart := false }
def FnSumOneSaid : Prop := fnSumOneRow.holds Try.pinned (OpenSpec.ofChange fnSumOneSpec)

/-- ITS FALSE NEIGHBOUR: 'it returns false'. Refute it at one input. -/
def fnSumOneWrong : ChangeSpec := { name := "fnSumOne", fn := fun _ => fun
  | [d1, d2] => { results := [.lit (.bool false)], args := [d1, d2] }
  | _ => none }
def FnSumOneWrongFalsely : Prop := fnSumOneRow.holds Try.pinned (OpenSpec.ofChange fnSumOneWrong)

/-- 'laws.FnSumMost': WHATEVER THE INPUT: true; the input reads as it did. -/
def fnSumMostSpec : ChangeSpec := { name := "fnSumMost", fn := fun _ => fun
  | [d] => { results := [.lit (.bool true)], args := [d] }
  | _ => none }
def fnSumMostRow : OpenClaim := { program := "ytphenphfficnaaa", sum := "e055a790a0707077f8f5274c4c3cee84cf095152be9b49be917ec744686b670a", func := "loop.example/paling/laws.FnSumMost", spec := "fnSumMost", unfollowed := true, recurses := true, apart := false }
def FnSumMostSaid : Prop := fnSumMostRow.holds Try.pinned (OpenSpec.ofChange fnSumMostSpec)

/-- ITS FALSE NEIGHBOUR: 'it returns false'. Refute it at one input. -/
def fnSumMostWrong : ChangeSpec := { name := "fnSumMost", fn := fun _ => fun
  | [d] => { results := [.lit (.bool false)], args := [d] }
  | _ => none }
def FnSumMostWrongFalsely : Prop := fnSumMostRow.holds Try.pinned (OpenSpec.ofChange fnSumMostWrong)

/-- 'laws.FnXorBack': WHATEVER THE INPUT: true; the input reads as it did. -/
def fnXorBackSpec : ChangeSpec := { name := "fnXorBack", fn := fun _ => fun
  | [d] => { results := [.lit (.bool true)], args := [d] }
  | _ => none }
def fnXorBackRow : OpenClaim := { program := "ytphenphfficnaaa", sum := "e055a790a0707077f8f5274c4c3cee84cf095152be9b49be917ec744686b670a", func := "loop.example/paling/laws.FnXorBack", spec := "fnXorBack", inPlace := ["internal/abi.NoEscape", "internal/bytealg.MakeNoZero"], unfollowed := true, recurses := true, apart := false }
def FnXorBackSaid : Prop := fnXorBackRow.holds Try.pinned (OpenSpec.ofChange fnXorBackSpec)

/-- ITS FALSE NEIGHBOUR: 'it returns false'. Refute it at one input. -/
def fnXorBackWrong : ChangeSpec := { name := "fnXorBack", fn := fun _ => fun
  | [d] => { results := [.lit (.bool false)], args := [d] }
  | _ => none }
def FnXorBackWrongFalsely : Prop := fnXorBackRow.holds Try.pinned (OpenSpec.ofChange fnXorBackWrong)

/-- 'laws.FnXorThree': WHATEVER THE INPUT: true; the input reads as it did. -/
def fnXorThreeSpec : ChangeSpec := { name := "fnXorThree", fn := fun _ => fun
  | [d1, d2] => { results := [.lit (.bool true)], args := [d1, d2] }
  | _ => none }
def fnXorThreeRow : OpenClaim := { program := "ytphenphfficnaaa", sum := "e055a790a0707077f8f5274c4c3cee84cf095152be9b49be917ec744686b670a", func := "loop.example/paling/laws.FnXorThree", spec := "fnXorThree", inPlace := ["internal/abi.NoEscape", "internal/bytealg.MakeNoZero"], unfollowed := true, recurses := true, apart := false }
def FnXorThreeSaid : Prop := fnXorThreeRow.holds Try.pinned (OpenSpec.ofChange fnXorThreeSpec)

/-- ITS FALSE NEIGHBOUR: 'it returns false'. Refute it at one input. -/
def fnXorThreeWrong : ChangeSpec := { name := "fnXorThree", fn := fun _ => fun
  | [d1, d2] => { results := [.lit (.bool false)], args := [d1, d2] }
  | _ => none }
def FnXorThreeWrongFalsely : Prop := fnXorThreeRow.holds Try.pinned (OpenSpec.ofChange fnXorThreeWrong)

/-- 'laws.FnColsBack': WHATEVER THE INPUT: true; the input reads as it did. -/
def fnColsBackSpec : ChangeSpec := { name := "fnColsBack", fn := fun _ => fun
  | [d] => { results := [.lit (.bool true)], args := [d] }
  | _ => none }
def fnColsBackRow : OpenClaim := { program := "ytphenphfficnaaa", sum := "e055a790a0707077f8f5274c4c3cee84cf095152be9b49be917ec744686b670a", func := "loop.example/paling/laws.FnColsBack", spec := "fnColsBack", inPlace := ["internal/abi.NoEscape", "internal/bytealg.MakeNoZero"], unfollowed := true, recurses := true, apart := false }
def FnColsBackSaid : Prop := fnColsBackRow.holds Try.pinned (OpenSpec.ofChange fnColsBackSpec)

/-- ITS FALSE NEIGHBOUR: 'it returns false'. Refute it at one input. -/
def fnColsBackWrong : ChangeSpec := { name := "fnColsBack", fn := fun _ => fun
  | [d] => { results := [.lit (.bool false)], args := [d] }
  | _ => none }
def FnColsBackWrongFalsely : Prop := fnColsBackRow.holds Try.pinned (OpenSpec.ofChange fnColsBackWrong)

/-- 'laws.FnColsStrict': WHATEVER THE INPUT: true; the input reads as it did. -/
def fnColsStrictSpec : ChangeSpec := { name := "fnColsStrict", fn := fun _ => fun
  | [d] => { results := [.lit (.bool true)], args := [d] }
  | _ => none }
def fnColsStrictRow : OpenClaim := { program := "ytphenphfficnaaa", sum := "e055a790a0707077f8f5274c4c3cee84cf095152be9b49be917ec744686b670a", func := "loop.example/paling/laws.FnColsStrict", spec := "fnColsStrict", inPlace := ["internal/abi.NoEscape", "internal/bytealg.MakeNoZero"], unfollowed := true, recurses := true, apart := false }
def FnColsStrictSaid : Prop := fnColsStrictRow.holds Try.pinned (OpenSpec.ofChange fnColsStrictSpec)

/-- ITS FALSE NEIGHBOUR: 'it returns false'. Refute it at one input. -/
def fnColsStrictWrong : ChangeSpec := { name := "fnColsStrict", fn := fun _ => fun
  | [d] => { results := [.lit (.bool false)], args := [d] }
  | _ => none }
def FnColsStrictWrongFalsely : Prop := fnColsStrictRow.holds Try.pinned (OpenSpec.ofChange fnColsStrictWrong)

/-- 'laws.FnParityNone': WHATEVER THE INPUT: true; the input reads as it did. -/
def fnParityNoneSpec : ChangeSpec := { name := "fnParityNone", fn := fun _ => fun
  | [d] => { results := [.lit (.bool true)], args := [d] }
  | _ => none }
def fnParityNoneRow : OpenClaim := { program := "ytphenphfficnaaa", sum := "e055a790a0707077f8f5274c4c3cee84cf095152be9b49be917ec744686b670a", func := "loop.example/paling/laws.FnParityNone", spec := "fnParityNone", inPlace := ["internal/abi.NoEscape", "internal/bytealg.MakeNoZero"], unfollowed := true, recurses := true, apart := false }
def FnParityNoneSaid : Prop := fnParityNoneRow.holds Try.pinned (OpenSpec.ofChange fnParityNoneSpec)

/-- ITS FALSE NEIGHBOUR: 'it returns false'. Refute it at one input. -/
def fnParityNoneWrong : ChangeSpec := { name := "fnParityNone", fn := fun _ => fun
  | [d] => { results := [.lit (.bool false)], args := [d] }
  | _ => none }
def FnParityNoneWrongFalsely : Prop := fnParityNoneRow.holds Try.pinned (OpenSpec.ofChange fnParityNoneWrong)

/-- 'laws.FnMendBack': WHATEVER THE INPUT: true; the input reads as it did. -/
def fnMendBackSpec : ChangeSpec := { name := "fnMendBack", fn := fun _ => fun
  | [d1, d2] => { results := [.lit (.bool true)], args := [d1, d2] }
  | _ => none }
def fnMendBackRow : OpenClaim := { program := "ytphenphfficnaaa", sum := "e055a790a0707077f8f5274c4c3cee84cf095152be9b49be917ec744686b670a", func := "loop.example/paling/laws.FnMendBack", spec := "fnMendBack", inPlace := ["internal/abi.NoEscape", "internal/bytealg.MakeNoZero"], unfollowed := true, recurses := true, apart := false }
def FnMendBackSaid : Prop := fnMendBackRow.holds Try.pinned (OpenSpec.ofChange fnMendBackSpec)

/-- ITS FALSE NEIGHBOUR: 'it returns false'. Refute it at one input. -/
def fnMendBackWrong : ChangeSpec := { name := "fnMendBack", fn := fun _ => fun
  | [d1, d2] => { results := [.lit (.bool false)], args := [d1, d2] }
  | _ => none }
def FnMendBackWrongFalsely : Prop := fnMendBackRow.holds Try.pinned (OpenSpec.ofChange fnMendBackWrong)

/-- 'laws.FnMendParity': WHATEVER THE INPUT: true; the input reads as it did. -/
def fnMendParitySpec : ChangeSpec := { name := "fnMendParity", fn := fun _ => fun
  | [d] => { results := [.lit (.bool true)], args := [d] }
  | _ => none }
def fnMendParityRow : OpenClaim := { program := "ytphenphfficnaaa", sum := "e055a790a0707077f8f5274c4c3cee84cf095152be9b49be917ec744686b670a", func := "loop.example/paling/laws.FnMendParity", spec := "fnMendParity", inPlace := ["internal/abi.NoEscape", "internal/bytealg.MakeNoZero"], unfollowed := true, recurses := true, apart := false }
def FnMendParitySaid : Prop := fnMendParityRow.holds Try.pinned (OpenSpec.ofChange fnMendParitySpec)

/-- ITS FALSE NEIGHBOUR: 'it returns false'. Refute it at one input. -/
def fnMendParityWrong : ChangeSpec := { name := "fnMendParity", fn := fun _ => fun
  | [d] => { results := [.lit (.bool false)], args := [d] }
  | _ => none }
def FnMendParityWrongFalsely : Prop := fnMendParityRow.holds Try.pinned (OpenSpec.ofChange fnMendParityWrong)

/-- 'laws.FnParityMore': WHATEVER THE INPUT: true; the input reads as it did. -/
def fnParityMoreSpec : ChangeSpec := { name := "fnParityMore", fn := fun _ => fun
  | [d1, d2] => { results := [.lit (.bool true)], args := [d1, d2] }
  | _ => none }
def fnParityMoreRow : OpenClaim := { program := "ytphenphfficnaaa", sum := "e055a790a0707077f8f5274c4c3cee84cf095152be9b49be917ec744686b670a", func := "loop.example/paling/laws.FnParityMore", spec := "fnParityMore", inPlace := ["internal/abi.NoEscape", "internal/bytealg.MakeNoZero"], unfollowed := true, recurses := true, apart := false }
def FnParityMoreSaid : Prop := fnParityMoreRow.holds Try.pinned (OpenSpec.ofChange fnParityMoreSpec)

/-- ITS FALSE NEIGHBOUR: 'it returns false'. Refute it at one input. -/
def fnParityMoreWrong : ChangeSpec := { name := "fnParityMore", fn := fun _ => fun
  | [d1, d2] => { results := [.lit (.bool false)], args := [d1, d2] }
  | _ => none }
def FnParityMoreWrongFalsely : Prop := fnParityMoreRow.holds Try.pinned (OpenSpec.ofChange fnParityMoreWrong)

/-- 'laws.FnMendWrong': WHATEVER THE INPUT: true; the input reads as it did. -/
def fnMendWrongSpec : ChangeSpec := { name := "fnMendWrong", fn := fun _ => fun
  | [d1, d2] => { results := [.lit (.bool true)], args := [d1, d2] }
  | _ => none }
def fnMendWrongRow : OpenClaim := { program := "ytphenphfficnaaa", sum := "e055a790a0707077f8f5274c4c3cee84cf095152be9b49be917ec744686b670a", func := "loop.example/paling/laws.FnMendWrong", spec := "fnMendWrong", inPlace := ["internal/abi.NoEscape", "internal/bytealg.MakeNoZero"], unfollowed := true, recurses := true, apart := false }
def FnMendWrongSaid : Prop := fnMendWrongRow.holds Try.pinned (OpenSpec.ofChange fnMendWrongSpec)

/-- ITS FALSE NEIGHBOUR: 'it returns false'. Refute it at one input. -/
def fnMendWrongWrong : ChangeSpec := { name := "fnMendWrong", fn := fun _ => fun
  | [d1, d2] => { results := [.lit (.bool false)], args := [d1, d2] }
  | _ => none }
def FnMendWrongWrongFalsely : Prop := fnMendWrongRow.holds Try.pinned (OpenSpec.ofChange fnMendWrongWrong)

/-- 'laws.FnExactSumOf': WHATEVER THE INPUT: true; the input reads as it did. -/
def fnExactSumOfSpec : ChangeSpec := { name := "fnExactSumOf", fn := fun _ => fun
  | [d] => { results := [.lit (.bool true)], args := [d] }
  | _ => none }
def fnExactSumOfRow : OpenClaim := { program := "ytphenphfficnaaa", sum := "e055a790a0707077f8f5274c4c3cee84cf095152be9b49be917ec744686b670a", func := "loop.example/paling/laws.FnExactSumOf", spec := "fnExactSumOf", unfollowed := true, recurses := true, apart := false }
def FnExactSumOfSaid : Prop := fnExactSumOfRow.holds Try.pinned (OpenSpec.ofChange fnExactSumOfSpec)

/-- ITS FALSE NEIGHBOUR: 'it returns false'. Refute it at one input. -/
def fnExactSumOfWrong : ChangeSpec := { name := "fnExactSumOf", fn := fun _ => fun
  | [d] => { results := [.lit (.bool false)], args := [d] }
  | _ => none }
def FnExactSumOfWrongFalsely : Prop := fnExactSumOfRow.holds Try.pinned (OpenSpec.ofChange fnExactSumOfWrong)

/- THE SECOND FORM. 'bulk': how many values and letters a reading holds, each counted each time it is reached (what is shared counts as often as it is met; a slice's spare places count too). A statement '..UptoSaid' is the law's where the arguments, and the package variables that the reading takes, are together of bulk at most 1048576: NARROWER than '..Said'. Prove '..Said' where nothing that the law and all that it calls make is longer than what came in: it says more and counts as full. Else prove '..UptoSaid'. A law counts once. -/
mutual
def uptoBulk {H : Type} : DataW H → Nat
  | .lit (.string bytes) => bytes.length + 1
  | .lit _ => 1
  | .nil => 1
  | .ptr d => uptoBulk d + 1
  | .slice elems spare => uptoBulkAll elems + uptoBulkAll spare + 1
  | .agg parts => uptoBulkAll parts + 1
  | .iface _ d => uptoBulk d + 1
  | .map entries => uptoBulkEntries entries + 1
  | .held _ => 1
def uptoBulkAll {H : Type} : List (DataW H) → Nat
  | [] => 0
  | d :: r => uptoBulk d + uptoBulkAll r
def uptoBulkEntries {H : Type} : List (Lit × DataW H) → Nat
  | [] => 0
  | x :: r => uptoBulkEntry x + uptoBulkEntries r
def uptoBulkEntry {H : Type} : Lit × DataW H → Nat
  | (.string bytes, d) => bytes.length + uptoBulk d + 1
  | (_, d) => uptoBulk d + 1
 end
def uptoSmall : (H : Type) → List (DataW H) → Bool := fun _ ds => decide (uptoBulkAll ds ≤ 1048576)
def OpenSpec.upto (s : _root_.Go.ChangeSpec) : _root_.Go.OpenSpec := { _root_.Go.OpenSpec.ofChange s with cond := some uptoSmall }

/-- 'laws.FnSumOne', WHERE WHAT IT READS IS OF BULK AT MOST 1048576: true; the input reads as it did. -/
def fnSumOneUptoRow : OpenClaim := { program := "ytphenphfficnaaa", sum := "e055a790a0707077f8f5274c4c3cee84cf095152be9b49be917ec744686b670a", func := "loop.example/paling/laws.FnSumOne", spec := "fnSumOne", unfollowed := true, recurses := true, apart := false, narrowed := true }
def FnSumOneUptoSaid : Prop := fnSumOneUptoRow.holds Try.pinned (OpenSpec.upto fnSumOneSpec)

/-- 'laws.FnSumMost', WHERE WHAT IT READS IS OF BULK AT MOST 1048576: true; the input reads as it did. -/
def fnSumMostUptoRow : OpenClaim := { program := "ytphenphfficnaaa", sum := "e055a790a0707077f8f5274c4c3cee84cf095152be9b49be917ec744686b670a", func := "loop.example/paling/laws.FnSumMost", spec := "fnSumMost", unfollowed := true, recurses := true, apart := false, narrowed := true }
def FnSumMostUptoSaid : Prop := fnSumMostUptoRow.holds Try.pinned (OpenSpec.upto fnSumMostSpec)

/-- 'laws.FnXorBack', WHERE WHAT IT READS IS OF BULK AT MOST 1048576: true; the input reads as it did. -/
def fnXorBackUptoRow : OpenClaim := { program := "ytphenphfficnaaa", sum := "e055a790a0707077f8f5274c4c3cee84cf095152be9b49be917ec744686b670a", func := "loop.example/paling/laws.FnXorBack", spec := "fnXorBack", inPlace := ["internal/abi.NoEscape", "internal/bytealg.MakeNoZero"], unfollowed := true, recurses := true, apart := false, narrowed := true }
def FnXorBackUptoSaid : Prop := fnXorBackUptoRow.holds Try.pinned (OpenSpec.upto fnXorBackSpec)

/-- 'laws.FnXorThree', WHERE WHAT IT READS IS OF BULK AT MOST 1048576: true; the input reads as it did. -/
def fnXorThreeUptoRow : OpenClaim := { program := "ytphenphfficnaaa", sum := "e055a790a0707077f8f5274c4c3cee84cf095152be9b49be917ec744686b670a", func := "loop.example/paling/laws.FnXorThree", spec := "fnXorThree", inPlace := ["internal/abi.NoEscape", "internal/bytealg.MakeNoZero"], unfollowed := true, recurses := true, apart := false, narrowed := true }
def FnXorThreeUptoSaid : Prop := fnXorThreeUptoRow.holds Try.pinned (OpenSpec.upto fnXorThreeSpec)

/-- 'laws.FnColsBack', WHERE WHAT IT READS IS OF BULK AT MOST 1048576: true; the input reads as it did. -/
def fnColsBackUptoRow : OpenClaim := { program := "ytphenphfficnaaa", sum := "e055a790a0707077f8f5274c4c3cee84cf095152be9b49be917ec744686b670a", func := "loop.example/paling/laws.FnColsBack", spec := "fnColsBack", inPlace := ["internal/abi.NoEscape", "internal/bytealg.MakeNoZero"], unfollowed := true, recurses := true, apart := false, narrowed := true }
def FnColsBackUptoSaid : Prop := fnColsBackUptoRow.holds Try.pinned (OpenSpec.upto fnColsBackSpec)

/-- 'laws.FnColsStrict', WHERE WHAT IT READS IS OF BULK AT MOST 1048576: true; the input reads as it did. -/
def fnColsStrictUptoRow : OpenClaim := { program := "ytphenphfficnaaa", sum := "e055a790a0707077f8f5274c4c3cee84cf095152be9b49be917ec744686b670a", func := "loop.example/paling/laws.FnColsStrict", spec := "fnColsStrict", inPlace := ["internal/abi.NoEscape", "internal/bytealg.MakeNoZero"], unfollowed := true, recurses := true, apart := false, narrowed := true }
def FnColsStrictUptoSaid : Prop := fnColsStrictUptoRow.holds Try.pinned (OpenSpec.upto fnColsStrictSpec)

/-- 'laws.FnParityNone', WHERE WHAT IT READS IS OF BULK AT MOST 1048576: true; the input reads as it did. -/
def fnParityNoneUptoRow : OpenClaim := { program := "ytphenphfficnaaa", sum := "e055a790a0707077f8f5274c4c3cee84cf095152be9b49be917ec744686b670a", func := "loop.example/paling/laws.FnParityNone", spec := "fnParityNone", inPlace := ["internal/abi.NoEscape", "internal/bytealg.MakeNoZero"], unfollowed := true, recurses := true, apart := false, narrowed := true }
def FnParityNoneUptoSaid : Prop := fnParityNoneUptoRow.holds Try.pinned (OpenSpec.upto fnParityNoneSpec)

/-- 'laws.FnMendBack', WHERE WHAT IT READS IS OF BULK AT MOST 1048576: true; the input reads as it did. -/
def fnMendBackUptoRow : OpenClaim := { program := "ytphenphfficnaaa", sum := "e055a790a0707077f8f5274c4c3cee84cf095152be9b49be917ec744686b670a", func := "loop.example/paling/laws.FnMendBack", spec := "fnMendBack", inPlace := ["internal/abi.NoEscape", "internal/bytealg.MakeNoZero"], unfollowed := true, recurses := true, apart := false, narrowed := true }
def FnMendBackUptoSaid : Prop := fnMendBackUptoRow.holds Try.pinned (OpenSpec.upto fnMendBackSpec)

/-- 'laws.FnMendParity', WHERE WHAT IT READS IS OF BULK AT MOST 1048576: true; the input reads as it did. -/
def fnMendParityUptoRow : OpenClaim := { program := "ytphenphfficnaaa", sum := "e055a790a0707077f8f5274c4c3cee84cf095152be9b49be917ec744686b670a", func := "loop.example/paling/laws.FnMendParity", spec := "fnMendParity", inPlace := ["internal/abi.NoEscape", "internal/bytealg.MakeNoZero"], unfollowed := true, recurses := true, apart := false, narrowed := true }
def FnMendParityUptoSaid : Prop := fnMendParityUptoRow.holds Try.pinned (OpenSpec.upto fnMendParitySpec)

/-- 'laws.FnParityMore', WHERE WHAT IT READS IS OF BULK AT MOST 1048576: true; the input reads as it did. -/
def fnParityMoreUptoRow : OpenClaim := { program := "ytphenphfficnaaa", sum := "e055a790a0707077f8f5274c4c3cee84cf095152be9b49be917ec744686b670a", func := "loop.example/paling/laws.FnParityMore", spec := "fnParityMore", inPlace := ["internal/abi.NoEscape", "internal/bytealg.MakeNoZero"], unfollowed := true, recurses := true, apart := false, narrowed := true }
def FnParityMoreUptoSaid : Prop := fnParityMoreUptoRow.holds Try.pinned (OpenSpec.upto fnParityMoreSpec)

/-- 'laws.FnMendWrong', WHERE WHAT IT READS IS OF BULK AT MOST 1048576: true; the input reads as it did. -/
def fnMendWrongUptoRow : OpenClaim := { program := "ytphenphfficnaaa", sum := "e055a790a0707077f8f5274c4c3cee84cf095152be9b49be917ec744686b670a", func := "loop.example/paling/laws.FnMendWrong", spec := "fnMendWrong", inPlace := ["internal/abi.NoEscape", "internal/bytealg.MakeNoZero"], unfollowed := true, recurses := true, apart := false, narrowed := true }
def FnMendWrongUptoSaid : Prop := fnMendWrongUptoRow.holds Try.pinned (OpenSpec.upto fnMendWrongSpec)

/-- 'laws.FnExactSumOf', WHERE WHAT IT READS IS OF BULK AT MOST 1048576: true; the input reads as it did. -/
def fnExactSumOfUptoRow : OpenClaim := { program := "ytphenphfficnaaa", sum := "e055a790a0707077f8f5274c4c3cee84cf095152be9b49be917ec744686b670a", func := "loop.example/paling/laws.FnExactSumOf", spec := "fnExactSumOf", unfollowed := true, recurses := true, apart := false, narrowed := true }
def FnExactSumOfUptoSaid : Prop := fnExactSumOfUptoRow.holds Try.pinned (OpenSpec.upto fnExactSumOfSpec)

end Rows
end Go.Proofs.Ytphenphfficnaaa

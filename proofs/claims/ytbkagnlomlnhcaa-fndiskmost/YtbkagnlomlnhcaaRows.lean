/-
  No cell of these rows narrows 'for every input' (looked for: loops, veiled, ifaces, maps, wideKeys, modest, calm, conditions, laid).
  DERIVED. THE GIVEN ROWS OF THIS SEAT. 12 by the template 'for every input the law returns true; each argument reads behind the call as it read before'; 0 by the template 'total and deterministic' (their statements: YtbkagnlomlnhcaaTotals.lean).
  GIVEN WITH THE SEED: the statements are not yours to turn. If you find one false, say at which input.
  Laid BY PROGRAM, IN A SANDBOX (cutbox-rows.mjs): the forced cells as the released guide's own fill.sh prints them over the translation 4f0873e88ffb00f2… (all of the seat's roots in one cut). By AI agents, Wed Nov 11 2026. No macro, syntax, notation, axiom, sorry.
-/
import Derived.Test.YtbkagnlomlnhcaaChecked
import GoSem.Claim
import GoSem.ClaimJoined
import GoSem.ClaimMapViews
import Derived.JoinedTies
import Derived.KernelRfl
namespace Go.Proofs.Ytbkagnlomlnhcaa
/- THE CELL 'sum', in the pinned program and in every row, IS THE sha256 OF THE DUMP (.gsa) THAT YtbkagnlomlnhcaaProg.lean LOADS. Nothing in Lean hashes anything: it is a label: what it is worth is what the hold of that sum in a sandbox is worth. -/
noncomputable def Try.pinned : Pinned := { name := "ytbkagnlomlnhcaa", sum := "4f0873e88ffb00f2ae6cd047de08621e23ea6830d7744fbb9dd4d4bb916a4215", checked := Try.checked }
namespace Rows
def none {H : Type} : Left H := { results := [], args := [] }

/-- 'laws.FnExactDiskSpoil': WHATEVER THE INPUT: true; the input reads as it did. -/
def fnExactDiskSpoilSpec : ChangeSpec := { name := "fnExactDiskSpoil", fn := fun _ => fun
  | [d1, d2, d3, d4] => { results := [.lit (.bool true)], args := [d1, d2, d3, d4] }
  | _ => none }
def fnExactDiskSpoilRow : OpenClaim := { program := "ytbkagnlomlnhcaa", sum := "4f0873e88ffb00f2ae6cd047de08621e23ea6830d7744fbb9dd4d4bb916a4215", func := "loop.example/paling/laws.FnExactDiskSpoil", spec := "fnExactDiskSpoil", unfollowed := true, recurses := true, apart := false }
def FnExactDiskSpoilSaid : Prop := fnExactDiskSpoilRow.holds Try.pinned (OpenSpec.ofChange fnExactDiskSpoilSpec)

/-- ITS FALSE NEIGHBOUR: 'it returns false'. Refute it at one input. -/
def fnExactDiskSpoilWrong : ChangeSpec := { name := "fnExactDiskSpoil", fn := fun _ => fun
  | [d1, d2, d3, d4] => { results := [.lit (.bool false)], args := [d1, d2, d3, d4] }
  | _ => none }
def FnExactDiskSpoilWrongFalsely : Prop := fnExactDiskSpoilRow.holds Try.pinned (OpenSpec.ofChange fnExactDiskSpoilWrong)

/-- 'laws.FnDiskNew': WHATEVER THE INPUT: true; the input reads as it did. -/
def fnDiskNewSpec : ChangeSpec := { name := "fnDiskNew", fn := fun _ => fun
  | [d] => { results := [.lit (.bool true)], args := [d] }
  | _ => none }
def fnDiskNewRow : OpenClaim := { program := "ytbkagnlomlnhcaa", sum := "4f0873e88ffb00f2ae6cd047de08621e23ea6830d7744fbb9dd4d4bb916a4215", func := "loop.example/paling/laws.FnDiskNew", spec := "fnDiskNew", unfollowed := true, recurses := true, apart := false }
def FnDiskNewSaid : Prop := fnDiskNewRow.holds Try.pinned (OpenSpec.ofChange fnDiskNewSpec)

/-- ITS FALSE NEIGHBOUR: 'it returns false'. Refute it at one input. -/
def fnDiskNewWrong : ChangeSpec := { name := "fnDiskNew", fn := fun _ => fun
  | [d] => { results := [.lit (.bool false)], args := [d] }
  | _ => none }
def FnDiskNewWrongFalsely : Prop := fnDiskNewRow.holds Try.pinned (OpenSpec.ofChange fnDiskNewWrong)

/-- 'laws.FnDiskPut': WHATEVER THE INPUT: true; the input reads as it did. -/
def fnDiskPutSpec : ChangeSpec := { name := "fnDiskPut", fn := fun _ => fun
  | [d] => { results := [.lit (.bool true)], args := [d] }
  | _ => none }
def fnDiskPutRow : OpenClaim := { program := "ytbkagnlomlnhcaa", sum := "4f0873e88ffb00f2ae6cd047de08621e23ea6830d7744fbb9dd4d4bb916a4215", func := "loop.example/paling/laws.FnDiskPut", spec := "fnDiskPut", unfollowed := true, recurses := true, apart := false }
def FnDiskPutSaid : Prop := fnDiskPutRow.holds Try.pinned (OpenSpec.ofChange fnDiskPutSpec)

/-- ITS FALSE NEIGHBOUR: 'it returns false'. Refute it at one input. -/
def fnDiskPutWrong : ChangeSpec := { name := "fnDiskPut", fn := fun _ => fun
  | [d] => { results := [.lit (.bool false)], args := [d] }
  | _ => none }
def FnDiskPutWrongFalsely : Prop := fnDiskPutRow.holds Try.pinned (OpenSpec.ofChange fnDiskPutWrong)

/-- 'laws.FnDiskFlush': WHATEVER THE INPUT: true; the input reads as it did. -/
def fnDiskFlushSpec : ChangeSpec := { name := "fnDiskFlush", fn := fun _ => fun
  | [d] => { results := [.lit (.bool true)], args := [d] }
  | _ => none }
def fnDiskFlushRow : OpenClaim := { program := "ytbkagnlomlnhcaa", sum := "4f0873e88ffb00f2ae6cd047de08621e23ea6830d7744fbb9dd4d4bb916a4215", func := "loop.example/paling/laws.FnDiskFlush", spec := "fnDiskFlush", unfollowed := true, recurses := true, apart := false }
def FnDiskFlushSaid : Prop := fnDiskFlushRow.holds Try.pinned (OpenSpec.ofChange fnDiskFlushSpec)

/-- ITS FALSE NEIGHBOUR: 'it returns false'. Refute it at one input. -/
def fnDiskFlushWrong : ChangeSpec := { name := "fnDiskFlush", fn := fun _ => fun
  | [d] => { results := [.lit (.bool false)], args := [d] }
  | _ => none }
def FnDiskFlushWrongFalsely : Prop := fnDiskFlushRow.holds Try.pinned (OpenSpec.ofChange fnDiskFlushWrong)

/-- 'laws.FnDiskCrash': WHATEVER THE INPUT: true; the input reads as it did. -/
def fnDiskCrashSpec : ChangeSpec := { name := "fnDiskCrash", fn := fun _ => fun
  | [d] => { results := [.lit (.bool true)], args := [d] }
  | _ => none }
def fnDiskCrashRow : OpenClaim := { program := "ytbkagnlomlnhcaa", sum := "4f0873e88ffb00f2ae6cd047de08621e23ea6830d7744fbb9dd4d4bb916a4215", func := "loop.example/paling/laws.FnDiskCrash", spec := "fnDiskCrash", unfollowed := true, recurses := true, apart := false }
def FnDiskCrashSaid : Prop := fnDiskCrashRow.holds Try.pinned (OpenSpec.ofChange fnDiskCrashSpec)

/-- ITS FALSE NEIGHBOUR: 'it returns false'. Refute it at one input. -/
def fnDiskCrashWrong : ChangeSpec := { name := "fnDiskCrash", fn := fun _ => fun
  | [d] => { results := [.lit (.bool false)], args := [d] }
  | _ => none }
def FnDiskCrashWrongFalsely : Prop := fnDiskCrashRow.holds Try.pinned (OpenSpec.ofChange fnDiskCrashWrong)

/-- 'laws.FnDiskSpoil': WHATEVER THE INPUT: true; the input reads as it did. -/
def fnDiskSpoilSpec : ChangeSpec := { name := "fnDiskSpoil", fn := fun _ => fun
  | [d] => { results := [.lit (.bool true)], args := [d] }
  | _ => none }
def fnDiskSpoilRow : OpenClaim := { program := "ytbkagnlomlnhcaa", sum := "4f0873e88ffb00f2ae6cd047de08621e23ea6830d7744fbb9dd4d4bb916a4215", func := "loop.example/paling/laws.FnDiskSpoil", spec := "fnDiskSpoil", unfollowed := true, recurses := true, apart := false }
def FnDiskSpoilSaid : Prop := fnDiskSpoilRow.holds Try.pinned (OpenSpec.ofChange fnDiskSpoilSpec)

/-- ITS FALSE NEIGHBOUR: 'it returns false'. Refute it at one input. -/
def fnDiskSpoilWrong : ChangeSpec := { name := "fnDiskSpoil", fn := fun _ => fun
  | [d] => { results := [.lit (.bool false)], args := [d] }
  | _ => none }
def FnDiskSpoilWrongFalsely : Prop := fnDiskSpoilRow.holds Try.pinned (OpenSpec.ofChange fnDiskSpoilWrong)

/-- 'laws.FnDiskLast': WHATEVER THE INPUT: true; the input reads as it did. -/
def fnDiskLastSpec : ChangeSpec := { name := "fnDiskLast", fn := fun _ => fun
  | [d1, d2] => { results := [.lit (.bool true)], args := [d1, d2] }
  | _ => none }
def fnDiskLastRow : OpenClaim := { program := "ytbkagnlomlnhcaa", sum := "4f0873e88ffb00f2ae6cd047de08621e23ea6830d7744fbb9dd4d4bb916a4215", func := "loop.example/paling/laws.FnDiskLast", spec := "fnDiskLast", unfollowed := true, recurses := true, apart := false }
def FnDiskLastSaid : Prop := fnDiskLastRow.holds Try.pinned (OpenSpec.ofChange fnDiskLastSpec)

/-- ITS FALSE NEIGHBOUR: 'it returns false'. Refute it at one input. -/
def fnDiskLastWrong : ChangeSpec := { name := "fnDiskLast", fn := fun _ => fun
  | [d1, d2] => { results := [.lit (.bool false)], args := [d1, d2] }
  | _ => none }
def FnDiskLastWrongFalsely : Prop := fnDiskLastRow.holds Try.pinned (OpenSpec.ofChange fnDiskLastWrong)

/-- 'laws.FnDiskRing': WHATEVER THE INPUT: true; the input reads as it did. -/
def fnDiskRingSpec : ChangeSpec := { name := "fnDiskRing", fn := fun _ => fun
  | [d1, d2] => { results := [.lit (.bool true)], args := [d1, d2] }
  | _ => none }
def fnDiskRingRow : OpenClaim := { program := "ytbkagnlomlnhcaa", sum := "4f0873e88ffb00f2ae6cd047de08621e23ea6830d7744fbb9dd4d4bb916a4215", func := "loop.example/paling/laws.FnDiskRing", spec := "fnDiskRing", unfollowed := true, recurses := true, apart := false }
def FnDiskRingSaid : Prop := fnDiskRingRow.holds Try.pinned (OpenSpec.ofChange fnDiskRingSpec)

/-- ITS FALSE NEIGHBOUR: 'it returns false'. Refute it at one input. -/
def fnDiskRingWrong : ChangeSpec := { name := "fnDiskRing", fn := fun _ => fun
  | [d1, d2] => { results := [.lit (.bool false)], args := [d1, d2] }
  | _ => none }
def FnDiskRingWrongFalsely : Prop := fnDiskRingRow.holds Try.pinned (OpenSpec.ofChange fnDiskRingWrong)

/-- 'laws.FnDiskMost': WHATEVER THE INPUT: true; the input reads as it did. -/
def fnDiskMostSpec : ChangeSpec := { name := "fnDiskMost", fn := fun _ => fun
  | [d] => { results := [.lit (.bool true)], args := [d] }
  | _ => none }
def fnDiskMostRow : OpenClaim := { program := "ytbkagnlomlnhcaa", sum := "4f0873e88ffb00f2ae6cd047de08621e23ea6830d7744fbb9dd4d4bb916a4215", func := "loop.example/paling/laws.FnDiskMost", spec := "fnDiskMost", unfollowed := true, recurses := true, apart := false }
def FnDiskMostSaid : Prop := fnDiskMostRow.holds Try.pinned (OpenSpec.ofChange fnDiskMostSpec)

/-- ITS FALSE NEIGHBOUR: 'it returns false'. Refute it at one input. -/
def fnDiskMostWrong : ChangeSpec := { name := "fnDiskMost", fn := fun _ => fun
  | [d] => { results := [.lit (.bool false)], args := [d] }
  | _ => none }
def FnDiskMostWrongFalsely : Prop := fnDiskMostRow.holds Try.pinned (OpenSpec.ofChange fnDiskMostWrong)

/-- 'laws.FnExactStripeOk': WHATEVER THE INPUT: true; the input reads as it did. -/
def fnExactStripeOkSpec : ChangeSpec := { name := "fnExactStripeOk", fn := fun _ => fun
  | [d] => { results := [.lit (.bool true)], args := [d] }
  | _ => none }
def fnExactStripeOkRow : OpenClaim := { program := "ytbkagnlomlnhcaa", sum := "4f0873e88ffb00f2ae6cd047de08621e23ea6830d7744fbb9dd4d4bb916a4215", func := "loop.example/paling/laws.FnExactStripeOk", spec := "fnExactStripeOk", unfollowed := true, recurses := true, apart := false }
def FnExactStripeOkSaid : Prop := fnExactStripeOkRow.holds Try.pinned (OpenSpec.ofChange fnExactStripeOkSpec)

/-- ITS FALSE NEIGHBOUR: 'it returns false'. Refute it at one input. -/
def fnExactStripeOkWrong : ChangeSpec := { name := "fnExactStripeOk", fn := fun _ => fun
  | [d] => { results := [.lit (.bool false)], args := [d] }
  | _ => none }
def FnExactStripeOkWrongFalsely : Prop := fnExactStripeOkRow.holds Try.pinned (OpenSpec.ofChange fnExactStripeOkWrong)

/-- 'laws.FnStripePtr': WHATEVER THE INPUT: true; the input reads as it did. -/
def fnStripePtrSpec : ChangeSpec := { name := "fnStripePtr", fn := fun _ => fun
  | [d] => { results := [.lit (.bool true)], args := [d] }
  | _ => none }
def fnStripePtrRow : OpenClaim := { program := "ytbkagnlomlnhcaa", sum := "4f0873e88ffb00f2ae6cd047de08621e23ea6830d7744fbb9dd4d4bb916a4215", func := "loop.example/paling/laws.FnStripePtr", spec := "fnStripePtr", unfollowed := true, recurses := true, apart := false }
def FnStripePtrSaid : Prop := fnStripePtrRow.holds Try.pinned (OpenSpec.ofChange fnStripePtrSpec)

/-- ITS FALSE NEIGHBOUR: 'it returns false'. Refute it at one input. -/
def fnStripePtrWrong : ChangeSpec := { name := "fnStripePtr", fn := fun _ => fun
  | [d] => { results := [.lit (.bool false)], args := [d] }
  | _ => none }
def FnStripePtrWrongFalsely : Prop := fnStripePtrRow.holds Try.pinned (OpenSpec.ofChange fnStripePtrWrong)

/-- 'laws.FnExactStripePtr': WHATEVER THE INPUT: true; the input reads as it did. -/
def fnExactStripePtrSpec : ChangeSpec := { name := "fnExactStripePtr", fn := fun _ => fun
  | [d1, d2] => { results := [.lit (.bool true)], args := [d1, d2] }
  | _ => none }
def fnExactStripePtrRow : OpenClaim := { program := "ytbkagnlomlnhcaa", sum := "4f0873e88ffb00f2ae6cd047de08621e23ea6830d7744fbb9dd4d4bb916a4215", func := "loop.example/paling/laws.FnExactStripePtr", spec := "fnExactStripePtr", unfollowed := true, recurses := true, apart := false }
def FnExactStripePtrSaid : Prop := fnExactStripePtrRow.holds Try.pinned (OpenSpec.ofChange fnExactStripePtrSpec)

/-- ITS FALSE NEIGHBOUR: 'it returns false'. Refute it at one input. -/
def fnExactStripePtrWrong : ChangeSpec := { name := "fnExactStripePtr", fn := fun _ => fun
  | [d1, d2] => { results := [.lit (.bool false)], args := [d1, d2] }
  | _ => none }
def FnExactStripePtrWrongFalsely : Prop := fnExactStripePtrRow.holds Try.pinned (OpenSpec.ofChange fnExactStripePtrWrong)

/- THE SECOND FORM. 'bulk': how many values and letters a reading holds, each counted each time it is reached (what is shared counts as often as it is met; a slice's spare places count too). A statement '..UptoSaid' is the law's where the arguments, and the package variables that the reading takes, are together of bulk at most 1048576: NARROWER than '..Said'. Prove '..Said' where nothing that the law and all that it calls make is longer than what came in: it says more and counts as full. Else prove '..UptoSaid'. A law counts once. -/
mutual
def uptoBulk {H : Type} : DataW H → Nat
  | .lit (.string bytes) => bytes.length + 1
  | .lit _ => 1
  | .nil => 1
  | .ptr d => uptoBulk d + 1
  | .slice elems spare => uptoBulkAll elems + uptoBulkAll spare + 1
  | .agg parts => uptoBulkAll parts + 1
  | .iface _ d => uptoBulk d + 1
  | .map entries => uptoBulkEntries entries + 1
  | .held _ => 1
def uptoBulkAll {H : Type} : List (DataW H) → Nat
  | [] => 0
  | d :: r => uptoBulk d + uptoBulkAll r
def uptoBulkEntries {H : Type} : List (Lit × DataW H) → Nat
  | [] => 0
  | x :: r => uptoBulkEntry x + uptoBulkEntries r
def uptoBulkEntry {H : Type} : Lit × DataW H → Nat
  | (.string bytes, d) => bytes.length + uptoBulk d + 1
  | (_, d) => uptoBulk d + 1
 end
def uptoSmall : (H : Type) → List (DataW H) → Bool := fun _ ds => decide (uptoBulkAll ds ≤ 1048576)
def OpenSpec.upto (s : _root_.Go.ChangeSpec) : _root_.Go.OpenSpec := { _root_.Go.OpenSpec.ofChange s with cond := some uptoSmall }

/-- 'laws.FnExactDiskSpoil', WHERE WHAT IT READS IS OF BULK AT MOST 1048576: true; the input reads as it did. -/
def fnExactDiskSpoilUptoRow : OpenClaim := { program := "ytbkagnlomlnhcaa", sum := "4f0873e88ffb00f2ae6cd047de08621e23ea6830d7744fbb9dd4d4bb916a4215", func := "loop.example/paling/laws.FnExactDiskSpoil", spec := "fnExactDiskSpoil", unfollowed := true, recurses := true, apart := false, narrowed := true }
def FnExactDiskSpoilUptoSaid : Prop := fnExactDiskSpoilUptoRow.holds Try.pinned (OpenSpec.upto fnExactDiskSpoilSpec)

/-- 'laws.FnDiskNew', WHERE WHAT IT READS IS OF BULK AT MOST 1048576: true; the input reads as it did. -/
def fnDiskNewUptoRow : OpenClaim := { program := "ytbkagnlomlnhcaa", sum := "4f0873e88ffb00f2ae6cd047de08621e23ea6830d7744fbb9dd4d4bb916a4215", func := "loop.example/paling/laws.FnDiskNew", spec := "fnDiskNew", unfollowed := true, recurses := true, apart := false, narrowed := true }
def FnDiskNewUptoSaid : Prop := fnDiskNewUptoRow.holds Try.pinned (OpenSpec.upto fnDiskNewSpec)

/-- 'laws.FnDiskPut', WHERE WHAT IT READS IS OF BULK AT MOST 1048576: true; the input reads as it did. -/
def fnDiskPutUptoRow : OpenClaim := { program := "ytbkagnlomlnhcaa", sum := "4f0873e88ffb00f2ae6cd047de08621e23ea6830d7744fbb9dd4d4bb916a4215", func := "loop.example/paling/laws.FnDiskPut", spec := "fnDiskPut", unfollowed := true, recurses := true, apart := false, narrowed := true }
def FnDiskPutUptoSaid : Prop := fnDiskPutUptoRow.holds Try.pinned (OpenSpec.upto fnDiskPutSpec)

/-- 'laws.FnDiskFlush', WHERE WHAT IT READS IS OF BULK AT MOST 1048576: true; the input reads as it did. -/
def fnDiskFlushUptoRow : OpenClaim := { program := "ytbkagnlomlnhcaa", sum := "4f0873e88ffb00f2ae6cd047de08621e23ea6830d7744fbb9dd4d4bb916a4215", func := "loop.example/paling/laws.FnDiskFlush", spec := "fnDiskFlush", unfollowed := true, recurses := true, apart := false, narrowed := true }
def FnDiskFlushUptoSaid : Prop := fnDiskFlushUptoRow.holds Try.pinned (OpenSpec.upto fnDiskFlushSpec)

/-- 'laws.FnDiskCrash', WHERE WHAT IT READS IS OF BULK AT MOST 1048576: true; the input reads as it did. -/
def fnDiskCrashUptoRow : OpenClaim := { program := "ytbkagnlomlnhcaa", sum := "4f0873e88ffb00f2ae6cd047de08621e23ea6830d7744fbb9dd4d4bb916a4215", func := "loop.example/paling/laws.FnDiskCrash", spec := "fnDiskCrash", unfollowed := true, recurses := true, apart := false, narrowed := true }
def FnDiskCrashUptoSaid : Prop := fnDiskCrashUptoRow.holds Try.pinned (OpenSpec.upto fnDiskCrashSpec)

/-- 'laws.FnDiskSpoil', WHERE WHAT IT READS IS OF BULK AT MOST 1048576: true; the input reads as it did. -/
def fnDiskSpoilUptoRow : OpenClaim := { program := "ytbkagnlomlnhcaa", sum := "4f0873e88ffb00f2ae6cd047de08621e23ea6830d7744fbb9dd4d4bb916a4215", func := "loop.example/paling/laws.FnDiskSpoil", spec := "fnDiskSpoil", unfollowed := true, recurses := true, apart := false, narrowed := true }
def FnDiskSpoilUptoSaid : Prop := fnDiskSpoilUptoRow.holds Try.pinned (OpenSpec.upto fnDiskSpoilSpec)

/-- 'laws.FnDiskLast', WHERE WHAT IT READS IS OF BULK AT MOST 1048576: true; the input reads as it did. -/
def fnDiskLastUptoRow : OpenClaim := { program := "ytbkagnlomlnhcaa", sum := "4f0873e88ffb00f2ae6cd047de08621e23ea6830d7744fbb9dd4d4bb916a4215", func := "loop.example/paling/laws.FnDiskLast", spec := "fnDiskLast", unfollowed := true, recurses := true, apart := false, narrowed := true }
def FnDiskLastUptoSaid : Prop := fnDiskLastUptoRow.holds Try.pinned (OpenSpec.upto fnDiskLastSpec)

/-- 'laws.FnDiskRing', WHERE WHAT IT READS IS OF BULK AT MOST 1048576: true; the input reads as it did. -/
def fnDiskRingUptoRow : OpenClaim := { program := "ytbkagnlomlnhcaa", sum := "4f0873e88ffb00f2ae6cd047de08621e23ea6830d7744fbb9dd4d4bb916a4215", func := "loop.example/paling/laws.FnDiskRing", spec := "fnDiskRing", unfollowed := true, recurses := true, apart := false, narrowed := true }
def FnDiskRingUptoSaid : Prop := fnDiskRingUptoRow.holds Try.pinned (OpenSpec.upto fnDiskRingSpec)

/-- 'laws.FnDiskMost', WHERE WHAT IT READS IS OF BULK AT MOST 1048576: true; the input reads as it did. -/
def fnDiskMostUptoRow : OpenClaim := { program := "ytbkagnlomlnhcaa", sum := "4f0873e88ffb00f2ae6cd047de08621e23ea6830d7744fbb9dd4d4bb916a4215", func := "loop.example/paling/laws.FnDiskMost", spec := "fnDiskMost", unfollowed := true, recurses := true, apart := false, narrowed := true }
def FnDiskMostUptoSaid : Prop := fnDiskMostUptoRow.holds Try.pinned (OpenSpec.upto fnDiskMostSpec)

/-- 'laws.FnExactStripeOk', WHERE WHAT IT READS IS OF BULK AT MOST 1048576: true; the input reads as it did. -/
def fnExactStripeOkUptoRow : OpenClaim := { program := "ytbkagnlomlnhcaa", sum := "4f0873e88ffb00f2ae6cd047de08621e23ea6830d7744fbb9dd4d4bb916a4215", func := "loop.example/paling/laws.FnExactStripeOk", spec := "fnExactStripeOk", unfollowed := true, recurses := true, apart := false, narrowed := true }
def FnExactStripeOkUptoSaid : Prop := fnExactStripeOkUptoRow.holds Try.pinned (OpenSpec.upto fnExactStripeOkSpec)

/-- 'laws.FnStripePtr', WHERE WHAT IT READS IS OF BULK AT MOST 1048576: true; the input reads as it did. -/
def fnStripePtrUptoRow : OpenClaim := { program := "ytbkagnlomlnhcaa", sum := "4f0873e88ffb00f2ae6cd047de08621e23ea6830d7744fbb9dd4d4bb916a4215", func := "loop.example/paling/laws.FnStripePtr", spec := "fnStripePtr", unfollowed := true, recurses := true, apart := false, narrowed := true }
def FnStripePtrUptoSaid : Prop := fnStripePtrUptoRow.holds Try.pinned (OpenSpec.upto fnStripePtrSpec)

/-- 'laws.FnExactStripePtr', WHERE WHAT IT READS IS OF BULK AT MOST 1048576: true; the input reads as it did. -/
def fnExactStripePtrUptoRow : OpenClaim := { program := "ytbkagnlomlnhcaa", sum := "4f0873e88ffb00f2ae6cd047de08621e23ea6830d7744fbb9dd4d4bb916a4215", func := "loop.example/paling/laws.FnExactStripePtr", spec := "fnExactStripePtr", unfollowed := true, recurses := true, apart := false, narrowed := true }
def FnExactStripePtrUptoSaid : Prop := fnExactStripePtrUptoRow.holds Try.pinned (OpenSpec.upto fnExactStripePtrSpec)

end Rows
end Go.Proofs.Ytbkagnlomlnhcaa

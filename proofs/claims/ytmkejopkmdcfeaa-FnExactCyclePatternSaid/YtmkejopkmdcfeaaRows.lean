/-
  No cell of these rows narrows 'for every input' (looked for: loops, veiled, ifaces, maps, wideKeys, modest, calm, conditions, laid).
  DERIVED. THE GIVEN ROWS OF THIS SEAT. 12 by the template 'for every input the law returns true; each argument reads behind the call as it read before'; 0 by the template 'total and deterministic' (their statements: YtmkejopkmdcfeaaTotals.lean).
  GIVEN WITH THE SEED: the statements are not yours to turn. If you find one false, say at which input.
  Laid BY PROGRAM, IN A SANDBOX (cutbox-rows.mjs): the forced cells as the released guide's own fill.sh prints them over the translation db31632b8962c061… (all of the seat's roots in one cut). By AI agents, Wed Nov 11 2026. No macro, syntax, notation, axiom, sorry.
-/
import Derived.Test.YtmkejopkmdcfeaaChecked
import GoSem.Claim
import GoSem.ClaimJoined
import GoSem.ClaimMapViews
import Derived.JoinedTies
import Derived.KernelRfl
namespace Go.Proofs.Ytmkejopkmdcfeaa
/- THE CELL 'sum', in the pinned program and in every row, IS THE sha256 OF THE DUMP (.gsa) THAT YtmkejopkmdcfeaaProg.lean LOADS. Nothing in Lean hashes anything: it is a label: what it is worth is what the hold of that sum in a sandbox is worth. -/
noncomputable def Try.pinned : Pinned := { name := "ytmkejopkmdcfeaa", sum := "db31632b8962c06179fc1023897ab527037efb2d75cdc23b8243195c56fcc1e0", checked := Try.checked }
namespace Rows
def none {H : Type} : Left H := { results := [], args := [] }

/-- 'laws.FnExactValueAt': WHATEVER THE INPUT: true; the input reads as it did. -/
def fnExactValueAtSpec : ChangeSpec := { name := "fnExactValueAt", fn := fun _ => fun
  | [d1, d2] => { results := [.lit (.bool true)], args := [d1, d2] }
  | _ => none }
def fnExactValueAtRow : OpenClaim := { program := "ytmkejopkmdcfeaa", sum := "db31632b8962c06179fc1023897ab527037efb2d75cdc23b8243195c56fcc1e0", func := "loop.example/g01003/laws.FnExactValueAt", spec := "fnExactValueAt", unfollowed := true, recurses := true, apart := false }
def FnExactValueAtSaid : Prop := fnExactValueAtRow.holds Try.pinned (OpenSpec.ofChange fnExactValueAtSpec)

/-- ITS FALSE NEIGHBOUR: 'it returns false'. Refute it at one input. -/
def fnExactValueAtWrong : ChangeSpec := { name := "fnExactValueAt", fn := fun _ => fun
  | [d1, d2] => { results := [.lit (.bool false)], args := [d1, d2] }
  | _ => none }
def FnExactValueAtWrongFalsely : Prop := fnExactValueAtRow.holds Try.pinned (OpenSpec.ofChange fnExactValueAtWrong)

/-- 'laws.FnExactIterateMap': WHATEVER THE INPUT: true; the input reads as it did. -/
def fnExactIterateMapSpec : ChangeSpec := { name := "fnExactIterateMap", fn := fun _ => fun
  | [d1, d2, d3] => { results := [.lit (.bool true)], args := [d1, d2, d3] }
  | _ => none }
def fnExactIterateMapRow : OpenClaim := { program := "ytmkejopkmdcfeaa", sum := "db31632b8962c06179fc1023897ab527037efb2d75cdc23b8243195c56fcc1e0", func := "loop.example/g01003/laws.FnExactIterateMap", spec := "fnExactIterateMap", unfollowed := true, recurses := true, apart := false }
def FnExactIterateMapSaid : Prop := fnExactIterateMapRow.holds Try.pinned (OpenSpec.ofChange fnExactIterateMapSpec)

/-- ITS FALSE NEIGHBOUR: 'it returns false'. Refute it at one input. -/
def fnExactIterateMapWrong : ChangeSpec := { name := "fnExactIterateMap", fn := fun _ => fun
  | [d1, d2, d3] => { results := [.lit (.bool false)], args := [d1, d2, d3] }
  | _ => none }
def FnExactIterateMapWrongFalsely : Prop := fnExactIterateMapRow.holds Try.pinned (OpenSpec.ofChange fnExactIterateMapWrong)

/-- 'laws.FnExactOrbitOf': WHATEVER THE INPUT: true; the input reads as it did. -/
def fnExactOrbitOfSpec : ChangeSpec := { name := "fnExactOrbitOf", fn := fun _ => fun
  | [d1, d2, d3] => { results := [.lit (.bool true)], args := [d1, d2, d3] }
  | _ => none }
def fnExactOrbitOfRow : OpenClaim := { program := "ytmkejopkmdcfeaa", sum := "db31632b8962c06179fc1023897ab527037efb2d75cdc23b8243195c56fcc1e0", func := "loop.example/g01003/laws.FnExactOrbitOf", spec := "fnExactOrbitOf", unfollowed := true, recurses := true, apart := false }
def FnExactOrbitOfSaid : Prop := fnExactOrbitOfRow.holds Try.pinned (OpenSpec.ofChange fnExactOrbitOfSpec)

/-- ITS FALSE NEIGHBOUR: 'it returns false'. Refute it at one input. -/
def fnExactOrbitOfWrong : ChangeSpec := { name := "fnExactOrbitOf", fn := fun _ => fun
  | [d1, d2, d3] => { results := [.lit (.bool false)], args := [d1, d2, d3] }
  | _ => none }
def FnExactOrbitOfWrongFalsely : Prop := fnExactOrbitOfRow.holds Try.pinned (OpenSpec.ofChange fnExactOrbitOfWrong)

/-- 'laws.FnExactPeriodOf': WHATEVER THE INPUT: true; the input reads as it did. -/
def fnExactPeriodOfSpec : ChangeSpec := { name := "fnExactPeriodOf", fn := fun _ => fun
  | [d1, d2, d3] => { results := [.lit (.bool true)], args := [d1, d2, d3] }
  | _ => none }
def fnExactPeriodOfRow : OpenClaim := { program := "ytmkejopkmdcfeaa", sum := "db31632b8962c06179fc1023897ab527037efb2d75cdc23b8243195c56fcc1e0", func := "loop.example/g01003/laws.FnExactPeriodOf", spec := "fnExactPeriodOf", unfollowed := true, recurses := true, apart := false }
def FnExactPeriodOfSaid : Prop := fnExactPeriodOfRow.holds Try.pinned (OpenSpec.ofChange fnExactPeriodOfSpec)

/-- ITS FALSE NEIGHBOUR: 'it returns false'. Refute it at one input. -/
def fnExactPeriodOfWrong : ChangeSpec := { name := "fnExactPeriodOf", fn := fun _ => fun
  | [d1, d2, d3] => { results := [.lit (.bool false)], args := [d1, d2, d3] }
  | _ => none }
def FnExactPeriodOfWrongFalsely : Prop := fnExactPeriodOfRow.holds Try.pinned (OpenSpec.ofChange fnExactPeriodOfWrong)

/-- 'laws.FnExactLimitCycle': WHATEVER THE INPUT: true; the input reads as it did. -/
def fnExactLimitCycleSpec : ChangeSpec := { name := "fnExactLimitCycle", fn := fun _ => fun
  | [d1, d2, d3] => { results := [.lit (.bool true)], args := [d1, d2, d3] }
  | _ => none }
def fnExactLimitCycleRow : OpenClaim := { program := "ytmkejopkmdcfeaa", sum := "db31632b8962c06179fc1023897ab527037efb2d75cdc23b8243195c56fcc1e0", func := "loop.example/g01003/laws.FnExactLimitCycle", spec := "fnExactLimitCycle", unfollowed := true, recurses := true, apart := false }
def FnExactLimitCycleSaid : Prop := fnExactLimitCycleRow.holds Try.pinned (OpenSpec.ofChange fnExactLimitCycleSpec)

/-- ITS FALSE NEIGHBOUR: 'it returns false'. Refute it at one input. -/
def fnExactLimitCycleWrong : ChangeSpec := { name := "fnExactLimitCycle", fn := fun _ => fun
  | [d1, d2, d3] => { results := [.lit (.bool false)], args := [d1, d2, d3] }
  | _ => none }
def FnExactLimitCycleWrongFalsely : Prop := fnExactLimitCycleRow.holds Try.pinned (OpenSpec.ofChange fnExactLimitCycleWrong)

/-- 'laws.FnExactVisitsOf': WHATEVER THE INPUT: true; the input reads as it did. -/
def fnExactVisitsOfSpec : ChangeSpec := { name := "fnExactVisitsOf", fn := fun _ => fun
  | [d1, d2, d3, d4, d5] => { results := [.lit (.bool true)], args := [d1, d2, d3, d4, d5] }
  | _ => none }
def fnExactVisitsOfRow : OpenClaim := { program := "ytmkejopkmdcfeaa", sum := "db31632b8962c06179fc1023897ab527037efb2d75cdc23b8243195c56fcc1e0", func := "loop.example/g01003/laws.FnExactVisitsOf", spec := "fnExactVisitsOf", unfollowed := true, recurses := true, apart := false }
def FnExactVisitsOfSaid : Prop := fnExactVisitsOfRow.holds Try.pinned (OpenSpec.ofChange fnExactVisitsOfSpec)

/-- ITS FALSE NEIGHBOUR: 'it returns false'. Refute it at one input. -/
def fnExactVisitsOfWrong : ChangeSpec := { name := "fnExactVisitsOf", fn := fun _ => fun
  | [d1, d2, d3, d4, d5] => { results := [.lit (.bool false)], args := [d1, d2, d3, d4, d5] }
  | _ => none }
def FnExactVisitsOfWrongFalsely : Prop := fnExactVisitsOfRow.holds Try.pinned (OpenSpec.ofChange fnExactVisitsOfWrong)

/-- 'laws.FnExactOrbitDistance': WHATEVER THE INPUT: true; the input reads as it did. -/
def fnExactOrbitDistanceSpec : ChangeSpec := { name := "fnExactOrbitDistance", fn := fun _ => fun
  | [d1, d2, d3, d4] => { results := [.lit (.bool true)], args := [d1, d2, d3, d4] }
  | _ => none }
def fnExactOrbitDistanceRow : OpenClaim := { program := "ytmkejopkmdcfeaa", sum := "db31632b8962c06179fc1023897ab527037efb2d75cdc23b8243195c56fcc1e0", func := "loop.example/g01003/laws.FnExactOrbitDistance", spec := "fnExactOrbitDistance", unfollowed := true, recurses := true, apart := false }
def FnExactOrbitDistanceSaid : Prop := fnExactOrbitDistanceRow.holds Try.pinned (OpenSpec.ofChange fnExactOrbitDistanceSpec)

/-- ITS FALSE NEIGHBOUR: 'it returns false'. Refute it at one input. -/
def fnExactOrbitDistanceWrong : ChangeSpec := { name := "fnExactOrbitDistance", fn := fun _ => fun
  | [d1, d2, d3, d4] => { results := [.lit (.bool false)], args := [d1, d2, d3, d4] }
  | _ => none }
def FnExactOrbitDistanceWrongFalsely : Prop := fnExactOrbitDistanceRow.holds Try.pinned (OpenSpec.ofChange fnExactOrbitDistanceWrong)

/-- 'laws.FnExactStepsInSize': WHATEVER THE INPUT: true; the input reads as it did. -/
def fnExactStepsInSizeSpec : ChangeSpec := { name := "fnExactStepsInSize", fn := fun _ => fun
  | [d1, d2, d3] => { results := [.lit (.bool true)], args := [d1, d2, d3] }
  | _ => none }
def fnExactStepsInSizeRow : OpenClaim := { program := "ytmkejopkmdcfeaa", sum := "db31632b8962c06179fc1023897ab527037efb2d75cdc23b8243195c56fcc1e0", func := "loop.example/g01003/laws.FnExactStepsInSize", spec := "fnExactStepsInSize", unfollowed := true, recurses := true, apart := false }
def FnExactStepsInSizeSaid : Prop := fnExactStepsInSizeRow.holds Try.pinned (OpenSpec.ofChange fnExactStepsInSizeSpec)

/-- ITS FALSE NEIGHBOUR: 'it returns false'. Refute it at one input. -/
def fnExactStepsInSizeWrong : ChangeSpec := { name := "fnExactStepsInSize", fn := fun _ => fun
  | [d1, d2, d3] => { results := [.lit (.bool false)], args := [d1, d2, d3] }
  | _ => none }
def FnExactStepsInSizeWrongFalsely : Prop := fnExactStepsInSizeRow.holds Try.pinned (OpenSpec.ofChange fnExactStepsInSizeWrong)

/-- 'laws.FnExactGreatestDen': WHATEVER THE INPUT: true; the input reads as it did. -/
def fnExactGreatestDenSpec : ChangeSpec := { name := "fnExactGreatestDen", fn := fun _ => fun
  | [d1, d2, d3] => { results := [.lit (.bool true)], args := [d1, d2, d3] }
  | _ => none }
def fnExactGreatestDenRow : OpenClaim := { program := "ytmkejopkmdcfeaa", sum := "db31632b8962c06179fc1023897ab527037efb2d75cdc23b8243195c56fcc1e0", func := "loop.example/g01003/laws.FnExactGreatestDen", spec := "fnExactGreatestDen", unfollowed := true, recurses := true, apart := false }
def FnExactGreatestDenSaid : Prop := fnExactGreatestDenRow.holds Try.pinned (OpenSpec.ofChange fnExactGreatestDenSpec)

/-- ITS FALSE NEIGHBOUR: 'it returns false'. Refute it at one input. -/
def fnExactGreatestDenWrong : ChangeSpec := { name := "fnExactGreatestDen", fn := fun _ => fun
  | [d1, d2, d3] => { results := [.lit (.bool false)], args := [d1, d2, d3] }
  | _ => none }
def FnExactGreatestDenWrongFalsely : Prop := fnExactGreatestDenRow.holds Try.pinned (OpenSpec.ofChange fnExactGreatestDenWrong)

/-- 'laws.FnExactMultiplierAt': WHATEVER THE INPUT: true; the input reads as it did. -/
def fnExactMultiplierAtSpec : ChangeSpec := { name := "fnExactMultiplierAt", fn := fun _ => fun
  | [d1, d2, d3] => { results := [.lit (.bool true)], args := [d1, d2, d3] }
  | _ => none }
def fnExactMultiplierAtRow : OpenClaim := { program := "ytmkejopkmdcfeaa", sum := "db31632b8962c06179fc1023897ab527037efb2d75cdc23b8243195c56fcc1e0", func := "loop.example/g01003/laws.FnExactMultiplierAt", spec := "fnExactMultiplierAt", unfollowed := true, recurses := true, apart := false }
def FnExactMultiplierAtSaid : Prop := fnExactMultiplierAtRow.holds Try.pinned (OpenSpec.ofChange fnExactMultiplierAtSpec)

/-- ITS FALSE NEIGHBOUR: 'it returns false'. Refute it at one input. -/
def fnExactMultiplierAtWrong : ChangeSpec := { name := "fnExactMultiplierAt", fn := fun _ => fun
  | [d1, d2, d3] => { results := [.lit (.bool false)], args := [d1, d2, d3] }
  | _ => none }
def FnExactMultiplierAtWrongFalsely : Prop := fnExactMultiplierAtRow.holds Try.pinned (OpenSpec.ofChange fnExactMultiplierAtWrong)

/-- 'laws.FnExactCyclePattern': WHATEVER THE INPUT: true; the input reads as it did. -/
def fnExactCyclePatternSpec : ChangeSpec := { name := "fnExactCyclePattern", fn := fun _ => fun
  | [d1, d2, d3] => { results := [.lit (.bool true)], args := [d1, d2, d3] }
  | _ => none }
def fnExactCyclePatternRow : OpenClaim := { program := "ytmkejopkmdcfeaa", sum := "db31632b8962c06179fc1023897ab527037efb2d75cdc23b8243195c56fcc1e0", func := "loop.example/g01003/laws.FnExactCyclePattern", spec := "fnExactCyclePattern", unfollowed := true, recurses := true, apart := false }
def FnExactCyclePatternSaid : Prop := fnExactCyclePatternRow.holds Try.pinned (OpenSpec.ofChange fnExactCyclePatternSpec)

/-- ITS FALSE NEIGHBOUR: 'it returns false'. Refute it at one input. -/
def fnExactCyclePatternWrong : ChangeSpec := { name := "fnExactCyclePattern", fn := fun _ => fun
  | [d1, d2, d3] => { results := [.lit (.bool false)], args := [d1, d2, d3] }
  | _ => none }
def FnExactCyclePatternWrongFalsely : Prop := fnExactCyclePatternRow.holds Try.pinned (OpenSpec.ofChange fnExactCyclePatternWrong)

/-- 'laws.FnExactIsCycle': WHATEVER THE INPUT: true; the input reads as it did. -/
def fnExactIsCycleSpec : ChangeSpec := { name := "fnExactIsCycle", fn := fun _ => fun
  | [d1, d2] => { results := [.lit (.bool true)], args := [d1, d2] }
  | _ => none }
def fnExactIsCycleRow : OpenClaim := { program := "ytmkejopkmdcfeaa", sum := "db31632b8962c06179fc1023897ab527037efb2d75cdc23b8243195c56fcc1e0", func := "loop.example/g01003/laws.FnExactIsCycle", spec := "fnExactIsCycle", unfollowed := true, recurses := true, apart := false }
def FnExactIsCycleSaid : Prop := fnExactIsCycleRow.holds Try.pinned (OpenSpec.ofChange fnExactIsCycleSpec)

/-- ITS FALSE NEIGHBOUR: 'it returns false'. Refute it at one input. -/
def fnExactIsCycleWrong : ChangeSpec := { name := "fnExactIsCycle", fn := fun _ => fun
  | [d1, d2] => { results := [.lit (.bool false)], args := [d1, d2] }
  | _ => none }
def FnExactIsCycleWrongFalsely : Prop := fnExactIsCycleRow.holds Try.pinned (OpenSpec.ofChange fnExactIsCycleWrong)

/- THE SECOND FORM. 'bulk': how many values and letters a reading holds, each counted each time it is reached (what is shared counts as often as it is met; a slice's spare places count too). A statement '..UptoSaid' is the law's where the arguments, and the package variables that the reading takes, are together of bulk at most 1048576: NARROWER than '..Said'. Prove '..Said' where nothing that the law and all that it calls make is longer than what came in: it says more and counts as full. Else prove '..UptoSaid'. A law counts once. -/
mutual
def uptoBulk {H : Type} : DataW H → Nat
  | .lit (.string bytes) => bytes.length + 1
  | .lit _ => 1
  | .nil => 1
  | .ptr d => uptoBulk d + 1
  | .slice elems spare => uptoBulkAll elems + uptoBulkAll spare + 1
  | .agg parts => uptoBulkAll parts + 1
  | .iface _ d => uptoBulk d + 1
  | .map entries => uptoBulkEntries entries + 1
  | .held _ => 1
def uptoBulkAll {H : Type} : List (DataW H) → Nat
  | [] => 0
  | d :: r => uptoBulk d + uptoBulkAll r
def uptoBulkEntries {H : Type} : List (Lit × DataW H) → Nat
  | [] => 0
  | x :: r => uptoBulkEntry x + uptoBulkEntries r
def uptoBulkEntry {H : Type} : Lit × DataW H → Nat
  | (.string bytes, d) => bytes.length + uptoBulk d + 1
  | (_, d) => uptoBulk d + 1
 end
def uptoSmall : (H : Type) → List (DataW H) → Bool := fun _ ds => decide (uptoBulkAll ds ≤ 1048576)
def OpenSpec.upto (s : _root_.Go.ChangeSpec) : _root_.Go.OpenSpec := { _root_.Go.OpenSpec.ofChange s with cond := some uptoSmall }

/-- 'laws.FnExactValueAt', WHERE WHAT IT READS IS OF BULK AT MOST 1048576: true; the input reads as it did. -/
def fnExactValueAtUptoRow : OpenClaim := { program := "ytmkejopkmdcfeaa", sum := "db31632b8962c06179fc1023897ab527037efb2d75cdc23b8243195c56fcc1e0", func := "loop.example/g01003/laws.FnExactValueAt", spec := "fnExactValueAt", unfollowed := true, recurses := true, apart := false, narrowed := true }
def FnExactValueAtUptoSaid : Prop := fnExactValueAtUptoRow.holds Try.pinned (OpenSpec.upto fnExactValueAtSpec)

/-- 'laws.FnExactIterateMap', WHERE WHAT IT READS IS OF BULK AT MOST 1048576: true; the input reads as it did. -/
def fnExactIterateMapUptoRow : OpenClaim := { program := "ytmkejopkmdcfeaa", sum := "db31632b8962c06179fc1023897ab527037efb2d75cdc23b8243195c56fcc1e0", func := "loop.example/g01003/laws.FnExactIterateMap", spec := "fnExactIterateMap", unfollowed := true, recurses := true, apart := false, narrowed := true }
def FnExactIterateMapUptoSaid : Prop := fnExactIterateMapUptoRow.holds Try.pinned (OpenSpec.upto fnExactIterateMapSpec)

/-- 'laws.FnExactOrbitOf', WHERE WHAT IT READS IS OF BULK AT MOST 1048576: true; the input reads as it did. -/
def fnExactOrbitOfUptoRow : OpenClaim := { program := "ytmkejopkmdcfeaa", sum := "db31632b8962c06179fc1023897ab527037efb2d75cdc23b8243195c56fcc1e0", func := "loop.example/g01003/laws.FnExactOrbitOf", spec := "fnExactOrbitOf", unfollowed := true, recurses := true, apart := false, narrowed := true }
def FnExactOrbitOfUptoSaid : Prop := fnExactOrbitOfUptoRow.holds Try.pinned (OpenSpec.upto fnExactOrbitOfSpec)

/-- 'laws.FnExactPeriodOf', WHERE WHAT IT READS IS OF BULK AT MOST 1048576: true; the input reads as it did. -/
def fnExactPeriodOfUptoRow : OpenClaim := { program := "ytmkejopkmdcfeaa", sum := "db31632b8962c06179fc1023897ab527037efb2d75cdc23b8243195c56fcc1e0", func := "loop.example/g01003/laws.FnExactPeriodOf", spec := "fnExactPeriodOf", unfollowed := true, recurses := true, apart := false, narrowed := true }
def FnExactPeriodOfUptoSaid : Prop := fnExactPeriodOfUptoRow.holds Try.pinned (OpenSpec.upto fnExactPeriodOfSpec)

/-- 'laws.FnExactLimitCycle', WHERE WHAT IT READS IS OF BULK AT MOST 1048576: true; the input reads as it did. -/
def fnExactLimitCycleUptoRow : OpenClaim := { program := "ytmkejopkmdcfeaa", sum := "db31632b8962c06179fc1023897ab527037efb2d75cdc23b8243195c56fcc1e0", func := "loop.example/g01003/laws.FnExactLimitCycle", spec := "fnExactLimitCycle", unfollowed := true, recurses := true, apart := false, narrowed := true }
def FnExactLimitCycleUptoSaid : Prop := fnExactLimitCycleUptoRow.holds Try.pinned (OpenSpec.upto fnExactLimitCycleSpec)

/-- 'laws.FnExactVisitsOf', WHERE WHAT IT READS IS OF BULK AT MOST 1048576: true; the input reads as it did. -/
def fnExactVisitsOfUptoRow : OpenClaim := { program := "ytmkejopkmdcfeaa", sum := "db31632b8962c06179fc1023897ab527037efb2d75cdc23b8243195c56fcc1e0", func := "loop.example/g01003/laws.FnExactVisitsOf", spec := "fnExactVisitsOf", unfollowed := true, recurses := true, apart := false, narrowed := true }
def FnExactVisitsOfUptoSaid : Prop := fnExactVisitsOfUptoRow.holds Try.pinned (OpenSpec.upto fnExactVisitsOfSpec)

/-- 'laws.FnExactOrbitDistance', WHERE WHAT IT READS IS OF BULK AT MOST 1048576: true; the input reads as it did. -/
def fnExactOrbitDistanceUptoRow : OpenClaim := { program := "ytmkejopkmdcfeaa", sum := "db31632b8962c06179fc1023897ab527037efb2d75cdc23b8243195c56fcc1e0", func := "loop.example/g01003/laws.FnExactOrbitDistance", spec := "fnExactOrbitDistance", unfollowed := true, recurses := true, apart := false, narrowed := true }
def FnExactOrbitDistanceUptoSaid : Prop := fnExactOrbitDistanceUptoRow.holds Try.pinned (OpenSpec.upto fnExactOrbitDistanceSpec)

/-- 'laws.FnExactStepsInSize', WHERE WHAT IT READS IS OF BULK AT MOST 1048576: true; the input reads as it did. -/
def fnExactStepsInSizeUptoRow : OpenClaim := { program := "ytmkejopkmdcfeaa", sum := "db31632b8962c06179fc1023897ab527037efb2d75cdc23b8243195c56fcc1e0", func := "loop.example/g01003/laws.FnExactStepsInSize", spec := "fnExactStepsInSize", unfollowed := true, recurses := true, apart := false, narrowed := true }
def FnExactStepsInSizeUptoSaid : Prop := fnExactStepsInSizeUptoRow.holds Try.pinned (OpenSpec.upto fnExactStepsInSizeSpec)

/-- 'laws.FnExactGreatestDen', WHERE WHAT IT READS IS OF BULK AT MOST 1048576: true; the input reads as it did. -/
def fnExactGreatestDenUptoRow : OpenClaim := { program := "ytmkejopkmdcfeaa", sum := "db31632b8962c06179fc1023897ab527037efb2d75cdc23b8243195c56fcc1e0", func := "loop.example/g01003/laws.FnExactGreatestDen", spec := "fnExactGreatestDen", unfollowed := true, recurses := true, apart := false, narrowed := true }
def FnExactGreatestDenUptoSaid : Prop := fnExactGreatestDenUptoRow.holds Try.pinned (OpenSpec.upto fnExactGreatestDenSpec)

/-- 'laws.FnExactMultiplierAt', WHERE WHAT IT READS IS OF BULK AT MOST 1048576: true; the input reads as it did. -/
def fnExactMultiplierAtUptoRow : OpenClaim := { program := "ytmkejopkmdcfeaa", sum := "db31632b8962c06179fc1023897ab527037efb2d75cdc23b8243195c56fcc1e0", func := "loop.example/g01003/laws.FnExactMultiplierAt", spec := "fnExactMultiplierAt", unfollowed := true, recurses := true, apart := false, narrowed := true }
def FnExactMultiplierAtUptoSaid : Prop := fnExactMultiplierAtUptoRow.holds Try.pinned (OpenSpec.upto fnExactMultiplierAtSpec)

/-- 'laws.FnExactCyclePattern', WHERE WHAT IT READS IS OF BULK AT MOST 1048576: true; the input reads as it did. -/
def fnExactCyclePatternUptoRow : OpenClaim := { program := "ytmkejopkmdcfeaa", sum := "db31632b8962c06179fc1023897ab527037efb2d75cdc23b8243195c56fcc1e0", func := "loop.example/g01003/laws.FnExactCyclePattern", spec := "fnExactCyclePattern", unfollowed := true, recurses := true, apart := false, narrowed := true }
def FnExactCyclePatternUptoSaid : Prop := fnExactCyclePatternUptoRow.holds Try.pinned (OpenSpec.upto fnExactCyclePatternSpec)

/-- 'laws.FnExactIsCycle', WHERE WHAT IT READS IS OF BULK AT MOST 1048576: true; the input reads as it did. -/
def fnExactIsCycleUptoRow : OpenClaim := { program := "ytmkejopkmdcfeaa", sum := "db31632b8962c06179fc1023897ab527037efb2d75cdc23b8243195c56fcc1e0", func := "loop.example/g01003/laws.FnExactIsCycle", spec := "fnExactIsCycle", unfollowed := true, recurses := true, apart := false, narrowed := true }
def FnExactIsCycleUptoSaid : Prop := fnExactIsCycleUptoRow.holds Try.pinned (OpenSpec.upto fnExactIsCycleSpec)

end Rows
end Go.Proofs.Ytmkejopkmdcfeaa

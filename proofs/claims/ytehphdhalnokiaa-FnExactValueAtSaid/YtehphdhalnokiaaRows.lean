/-
  No cell of these rows narrows 'for every input' (looked for: loops, veiled, ifaces, maps, wideKeys, modest, calm, conditions, laid).
  DERIVED. THE GIVEN ROWS OF THIS SEAT. 13 by the template 'for every input the law returns true; each argument reads behind the call as it read before'; 0 by the template 'total and deterministic' (their statements: YtehphdhalnokiaaTotals.lean).
  GIVEN WITH THE SEED: the statements are not yours to turn. If you find one false, say at which input.
  Laid BY PROGRAM, IN A SANDBOX (cutbox-rows.mjs): the forced cells as the released guide's own fill.sh prints them over the translation 32694b6cc9b0195a… (all of the seat's roots in one cut). By AI agents, Wed Nov 11 2026. No macro, syntax, notation, axiom, sorry.
-/
import Derived.Test.YtehphdhalnokiaaChecked
import GoSem.Claim
import GoSem.ClaimJoined
import GoSem.ClaimMapViews
import Derived.JoinedTies
import Derived.KernelRfl
namespace Go.Proofs.Ytehphdhalnokiaa
/- THE CELL 'sum', in the pinned program and in every row, IS THE sha256 OF THE DUMP (.gsa) THAT YtehphdhalnokiaaProg.lean LOADS. Nothing in Lean hashes anything: it is a label: what it is worth is what the hold of that sum in a sandbox is worth. -/
noncomputable def Try.pinned : Pinned := { name := "ytehphdhalnokiaa", sum := "32694b6cc9b0195ab77a96b09ecb109b1fa7675a901ea62352f3c4c859dc8ec7", checked := Try.checked }
namespace Rows
def none {H : Type} : Left H := { results := [], args := [] }

/-- 'laws.FnLapRanges': WHATEVER THE INPUT: true; the input reads as it did. -/
def fnLapRangesSpec : ChangeSpec := { name := "fnLapRanges", fn := fun _ => fun
  | [d1, d2] => { results := [.lit (.bool true)], args := [d1, d2] }
  | _ => none }
def fnLapRangesRow : OpenClaim := { program := "ytehphdhalnokiaa", sum := "32694b6cc9b0195ab77a96b09ecb109b1fa7675a901ea62352f3c4c859dc8ec7", func := "loop.example/g01003/laws.FnLapRanges", spec := "fnLapRanges", unfollowed := true, recurses := true, apart := false }
def FnLapRangesSaid : Prop := fnLapRangesRow.holds Try.pinned (OpenSpec.ofChange fnLapRangesSpec)

/-- ITS FALSE NEIGHBOUR: 'it returns false'. Refute it at one input. -/
def fnLapRangesWrong : ChangeSpec := { name := "fnLapRanges", fn := fun _ => fun
  | [d1, d2] => { results := [.lit (.bool false)], args := [d1, d2] }
  | _ => none }
def FnLapRangesWrongFalsely : Prop := fnLapRangesRow.holds Try.pinned (OpenSpec.ofChange fnLapRangesWrong)

/-- 'laws.FnFixed': WHATEVER THE INPUT: true; the input reads as it did. -/
def fnFixedSpec : ChangeSpec := { name := "fnFixed", fn := fun _ => fun
  | [d1, d2] => { results := [.lit (.bool true)], args := [d1, d2] }
  | _ => none }
def fnFixedRow : OpenClaim := { program := "ytehphdhalnokiaa", sum := "32694b6cc9b0195ab77a96b09ecb109b1fa7675a901ea62352f3c4c859dc8ec7", func := "loop.example/g01003/laws.FnFixed", spec := "fnFixed", unfollowed := true, recurses := true, apart := false }
def FnFixedSaid : Prop := fnFixedRow.holds Try.pinned (OpenSpec.ofChange fnFixedSpec)

/-- ITS FALSE NEIGHBOUR: 'it returns false'. Refute it at one input. -/
def fnFixedWrong : ChangeSpec := { name := "fnFixed", fn := fun _ => fun
  | [d1, d2] => { results := [.lit (.bool false)], args := [d1, d2] }
  | _ => none }
def FnFixedWrongFalsely : Prop := fnFixedRow.holds Try.pinned (OpenSpec.ofChange fnFixedWrong)

/-- 'laws.FnExactCompareRats': WHATEVER THE INPUT: true; the input reads as it did. -/
def fnExactCompareRatsSpec : ChangeSpec := { name := "fnExactCompareRats", fn := fun _ => fun
  | [d1, d2] => { results := [.lit (.bool true)], args := [d1, d2] }
  | _ => none }
def fnExactCompareRatsRow : OpenClaim := { program := "ytehphdhalnokiaa", sum := "32694b6cc9b0195ab77a96b09ecb109b1fa7675a901ea62352f3c4c859dc8ec7", func := "loop.example/g01003/laws.FnExactCompareRats", spec := "fnExactCompareRats", apart := false }
def FnExactCompareRatsSaid : Prop := fnExactCompareRatsRow.holds Try.pinned (OpenSpec.ofChange fnExactCompareRatsSpec)

/-- ITS FALSE NEIGHBOUR: 'it returns false'. Refute it at one input. -/
def fnExactCompareRatsWrong : ChangeSpec := { name := "fnExactCompareRats", fn := fun _ => fun
  | [d1, d2] => { results := [.lit (.bool false)], args := [d1, d2] }
  | _ => none }
def FnExactCompareRatsWrongFalsely : Prop := fnExactCompareRatsRow.holds Try.pinned (OpenSpec.ofChange fnExactCompareRatsWrong)

/-- 'laws.FnExactIsMap': WHATEVER THE INPUT: true; the input reads as it did. -/
def fnExactIsMapSpec : ChangeSpec := { name := "fnExactIsMap", fn := fun _ => fun
  | [d] => { results := [.lit (.bool true)], args := [d] }
  | _ => none }
def fnExactIsMapRow : OpenClaim := { program := "ytehphdhalnokiaa", sum := "32694b6cc9b0195ab77a96b09ecb109b1fa7675a901ea62352f3c4c859dc8ec7", func := "loop.example/g01003/laws.FnExactIsMap", spec := "fnExactIsMap", apart := false }
def FnExactIsMapSaid : Prop := fnExactIsMapRow.holds Try.pinned (OpenSpec.ofChange fnExactIsMapSpec)

/-- ITS FALSE NEIGHBOUR: 'it returns false'. Refute it at one input. -/
def fnExactIsMapWrong : ChangeSpec := { name := "fnExactIsMap", fn := fun _ => fun
  | [d] => { results := [.lit (.bool false)], args := [d] }
  | _ => none }
def FnExactIsMapWrongFalsely : Prop := fnExactIsMapRow.holds Try.pinned (OpenSpec.ofChange fnExactIsMapWrong)

/-- 'laws.FnExactValueAt': WHATEVER THE INPUT: true; the input reads as it did. -/
def fnExactValueAtSpec : ChangeSpec := { name := "fnExactValueAt", fn := fun _ => fun
  | [d1, d2] => { results := [.lit (.bool true)], args := [d1, d2] }
  | _ => none }
def fnExactValueAtRow : OpenClaim := { program := "ytehphdhalnokiaa", sum := "32694b6cc9b0195ab77a96b09ecb109b1fa7675a901ea62352f3c4c859dc8ec7", func := "loop.example/g01003/laws.FnExactValueAt", spec := "fnExactValueAt", unfollowed := true, recurses := true, apart := false }
def FnExactValueAtSaid : Prop := fnExactValueAtRow.holds Try.pinned (OpenSpec.ofChange fnExactValueAtSpec)

/-- ITS FALSE NEIGHBOUR: 'it returns false'. Refute it at one input. -/
def fnExactValueAtWrong : ChangeSpec := { name := "fnExactValueAt", fn := fun _ => fun
  | [d1, d2] => { results := [.lit (.bool false)], args := [d1, d2] }
  | _ => none }
def FnExactValueAtWrongFalsely : Prop := fnExactValueAtRow.holds Try.pinned (OpenSpec.ofChange fnExactValueAtWrong)

/-- 'laws.FnExactSlopesOf': WHATEVER THE INPUT: true; the input reads as it did. -/
def fnExactSlopesOfSpec : ChangeSpec := { name := "fnExactSlopesOf", fn := fun _ => fun
  | [d] => { results := [.lit (.bool true)], args := [d] }
  | _ => none }
def fnExactSlopesOfRow : OpenClaim := { program := "ytehphdhalnokiaa", sum := "32694b6cc9b0195ab77a96b09ecb109b1fa7675a901ea62352f3c4c859dc8ec7", func := "loop.example/g01003/laws.FnExactSlopesOf", spec := "fnExactSlopesOf", unfollowed := true, recurses := true, apart := false }
def FnExactSlopesOfSaid : Prop := fnExactSlopesOfRow.holds Try.pinned (OpenSpec.ofChange fnExactSlopesOfSpec)

/-- ITS FALSE NEIGHBOUR: 'it returns false'. Refute it at one input. -/
def fnExactSlopesOfWrong : ChangeSpec := { name := "fnExactSlopesOf", fn := fun _ => fun
  | [d] => { results := [.lit (.bool false)], args := [d] }
  | _ => none }
def FnExactSlopesOfWrongFalsely : Prop := fnExactSlopesOfRow.holds Try.pinned (OpenSpec.ofChange fnExactSlopesOfWrong)

/-- 'laws.FnExactLapsOf': WHATEVER THE INPUT: true; the input reads as it did. -/
def fnExactLapsOfSpec : ChangeSpec := { name := "fnExactLapsOf", fn := fun _ => fun
  | [d] => { results := [.lit (.bool true)], args := [d] }
  | _ => none }
def fnExactLapsOfRow : OpenClaim := { program := "ytehphdhalnokiaa", sum := "32694b6cc9b0195ab77a96b09ecb109b1fa7675a901ea62352f3c4c859dc8ec7", func := "loop.example/g01003/laws.FnExactLapsOf", spec := "fnExactLapsOf", apart := false }
def FnExactLapsOfSaid : Prop := fnExactLapsOfRow.holds Try.pinned (OpenSpec.ofChange fnExactLapsOfSpec)

/-- ITS FALSE NEIGHBOUR: 'it returns false'. Refute it at one input. -/
def fnExactLapsOfWrong : ChangeSpec := { name := "fnExactLapsOf", fn := fun _ => fun
  | [d] => { results := [.lit (.bool false)], args := [d] }
  | _ => none }
def FnExactLapsOfWrongFalsely : Prop := fnExactLapsOfRow.holds Try.pinned (OpenSpec.ofChange fnExactLapsOfWrong)

/-- 'laws.FnExactTurningPoints': WHATEVER THE INPUT: true; the input reads as it did. -/
def fnExactTurningPointsSpec : ChangeSpec := { name := "fnExactTurningPoints", fn := fun _ => fun
  | [d] => { results := [.lit (.bool true)], args := [d] }
  | _ => none }
def fnExactTurningPointsRow : OpenClaim := { program := "ytehphdhalnokiaa", sum := "32694b6cc9b0195ab77a96b09ecb109b1fa7675a901ea62352f3c4c859dc8ec7", func := "loop.example/g01003/laws.FnExactTurningPoints", spec := "fnExactTurningPoints", apart := false }
def FnExactTurningPointsSaid : Prop := fnExactTurningPointsRow.holds Try.pinned (OpenSpec.ofChange fnExactTurningPointsSpec)

/-- ITS FALSE NEIGHBOUR: 'it returns false'. Refute it at one input. -/
def fnExactTurningPointsWrong : ChangeSpec := { name := "fnExactTurningPoints", fn := fun _ => fun
  | [d] => { results := [.lit (.bool false)], args := [d] }
  | _ => none }
def FnExactTurningPointsWrongFalsely : Prop := fnExactTurningPointsRow.holds Try.pinned (OpenSpec.ofChange fnExactTurningPointsWrong)

/-- 'laws.FnExactImageOf': WHATEVER THE INPUT: true; the input reads as it did. -/
def fnExactImageOfSpec : ChangeSpec := { name := "fnExactImageOf", fn := fun _ => fun
  | [d1, d2, d3] => { results := [.lit (.bool true)], args := [d1, d2, d3] }
  | _ => none }
def fnExactImageOfRow : OpenClaim := { program := "ytehphdhalnokiaa", sum := "32694b6cc9b0195ab77a96b09ecb109b1fa7675a901ea62352f3c4c859dc8ec7", func := "loop.example/g01003/laws.FnExactImageOf", spec := "fnExactImageOf", unfollowed := true, recurses := true, apart := false }
def FnExactImageOfSaid : Prop := fnExactImageOfRow.holds Try.pinned (OpenSpec.ofChange fnExactImageOfSpec)

/-- ITS FALSE NEIGHBOUR: 'it returns false'. Refute it at one input. -/
def fnExactImageOfWrong : ChangeSpec := { name := "fnExactImageOf", fn := fun _ => fun
  | [d1, d2, d3] => { results := [.lit (.bool false)], args := [d1, d2, d3] }
  | _ => none }
def FnExactImageOfWrongFalsely : Prop := fnExactImageOfRow.holds Try.pinned (OpenSpec.ofChange fnExactImageOfWrong)

/-- 'laws.FnExactFixedPoints': WHATEVER THE INPUT: true; the input reads as it did. -/
def fnExactFixedPointsSpec : ChangeSpec := { name := "fnExactFixedPoints", fn := fun _ => fun
  | [d] => { results := [.lit (.bool true)], args := [d] }
  | _ => none }
def fnExactFixedPointsRow : OpenClaim := { program := "ytehphdhalnokiaa", sum := "32694b6cc9b0195ab77a96b09ecb109b1fa7675a901ea62352f3c4c859dc8ec7", func := "loop.example/g01003/laws.FnExactFixedPoints", spec := "fnExactFixedPoints", unfollowed := true, recurses := true, apart := false }
def FnExactFixedPointsSaid : Prop := fnExactFixedPointsRow.holds Try.pinned (OpenSpec.ofChange fnExactFixedPointsSpec)

/-- ITS FALSE NEIGHBOUR: 'it returns false'. Refute it at one input. -/
def fnExactFixedPointsWrong : ChangeSpec := { name := "fnExactFixedPoints", fn := fun _ => fun
  | [d] => { results := [.lit (.bool false)], args := [d] }
  | _ => none }
def FnExactFixedPointsWrongFalsely : Prop := fnExactFixedPointsRow.holds Try.pinned (OpenSpec.ofChange fnExactFixedPointsWrong)

/-- 'laws.FnExactPointsBefore': WHATEVER THE INPUT: true; the input reads as it did. -/
def fnExactPointsBeforeSpec : ChangeSpec := { name := "fnExactPointsBefore", fn := fun _ => fun
  | [d1, d2] => { results := [.lit (.bool true)], args := [d1, d2] }
  | _ => none }
def fnExactPointsBeforeRow : OpenClaim := { program := "ytehphdhalnokiaa", sum := "32694b6cc9b0195ab77a96b09ecb109b1fa7675a901ea62352f3c4c859dc8ec7", func := "loop.example/g01003/laws.FnExactPointsBefore", spec := "fnExactPointsBefore", unfollowed := true, recurses := true, apart := false }
def FnExactPointsBeforeSaid : Prop := fnExactPointsBeforeRow.holds Try.pinned (OpenSpec.ofChange fnExactPointsBeforeSpec)

/-- ITS FALSE NEIGHBOUR: 'it returns false'. Refute it at one input. -/
def fnExactPointsBeforeWrong : ChangeSpec := { name := "fnExactPointsBefore", fn := fun _ => fun
  | [d1, d2] => { results := [.lit (.bool false)], args := [d1, d2] }
  | _ => none }
def FnExactPointsBeforeWrongFalsely : Prop := fnExactPointsBeforeRow.holds Try.pinned (OpenSpec.ofChange fnExactPointsBeforeWrong)

/-- 'laws.FnExactSimpleMap': WHATEVER THE INPUT: true; the input reads as it did. -/
def fnExactSimpleMapSpec : ChangeSpec := { name := "fnExactSimpleMap", fn := fun _ => fun
  | [d] => { results := [.lit (.bool true)], args := [d] }
  | _ => none }
def fnExactSimpleMapRow : OpenClaim := { program := "ytehphdhalnokiaa", sum := "32694b6cc9b0195ab77a96b09ecb109b1fa7675a901ea62352f3c4c859dc8ec7", func := "loop.example/g01003/laws.FnExactSimpleMap", spec := "fnExactSimpleMap", unfollowed := true, recurses := true, apart := false }
def FnExactSimpleMapSaid : Prop := fnExactSimpleMapRow.holds Try.pinned (OpenSpec.ofChange fnExactSimpleMapSpec)

/-- ITS FALSE NEIGHBOUR: 'it returns false'. Refute it at one input. -/
def fnExactSimpleMapWrong : ChangeSpec := { name := "fnExactSimpleMap", fn := fun _ => fun
  | [d] => { results := [.lit (.bool false)], args := [d] }
  | _ => none }
def FnExactSimpleMapWrongFalsely : Prop := fnExactSimpleMapRow.holds Try.pinned (OpenSpec.ofChange fnExactSimpleMapWrong)

/-- 'laws.FnExactReflectMap': WHATEVER THE INPUT: true; the input reads as it did. -/
def fnExactReflectMapSpec : ChangeSpec := { name := "fnExactReflectMap", fn := fun _ => fun
  | [d] => { results := [.lit (.bool true)], args := [d] }
  | _ => none }
def fnExactReflectMapRow : OpenClaim := { program := "ytehphdhalnokiaa", sum := "32694b6cc9b0195ab77a96b09ecb109b1fa7675a901ea62352f3c4c859dc8ec7", func := "loop.example/g01003/laws.FnExactReflectMap", spec := "fnExactReflectMap", unfollowed := true, recurses := true, apart := false }
def FnExactReflectMapSaid : Prop := fnExactReflectMapRow.holds Try.pinned (OpenSpec.ofChange fnExactReflectMapSpec)

/-- ITS FALSE NEIGHBOUR: 'it returns false'. Refute it at one input. -/
def fnExactReflectMapWrong : ChangeSpec := { name := "fnExactReflectMap", fn := fun _ => fun
  | [d] => { results := [.lit (.bool false)], args := [d] }
  | _ => none }
def FnExactReflectMapWrongFalsely : Prop := fnExactReflectMapRow.holds Try.pinned (OpenSpec.ofChange fnExactReflectMapWrong)

/- THE SECOND FORM. 'bulk': how many values and letters a reading holds, each counted each time it is reached (what is shared counts as often as it is met; a slice's spare places count too). A statement '..UptoSaid' is the law's where the arguments, and the package variables that the reading takes, are together of bulk at most 1048576: NARROWER than '..Said'. Prove '..Said' where nothing that the law and all that it calls make is longer than what came in: it says more and counts as full. Else prove '..UptoSaid'. A law counts once. -/
mutual
def uptoBulk {H : Type} : DataW H → Nat
  | .lit (.string bytes) => bytes.length + 1
  | .lit _ => 1
  | .nil => 1
  | .ptr d => uptoBulk d + 1
  | .slice elems spare => uptoBulkAll elems + uptoBulkAll spare + 1
  | .agg parts => uptoBulkAll parts + 1
  | .iface _ d => uptoBulk d + 1
  | .map entries => uptoBulkEntries entries + 1
  | .held _ => 1
def uptoBulkAll {H : Type} : List (DataW H) → Nat
  | [] => 0
  | d :: r => uptoBulk d + uptoBulkAll r
def uptoBulkEntries {H : Type} : List (Lit × DataW H) → Nat
  | [] => 0
  | x :: r => uptoBulkEntry x + uptoBulkEntries r
def uptoBulkEntry {H : Type} : Lit × DataW H → Nat
  | (.string bytes, d) => bytes.length + uptoBulk d + 1
  | (_, d) => uptoBulk d + 1
 end
def uptoSmall : (H : Type) → List (DataW H) → Bool := fun _ ds => decide (uptoBulkAll ds ≤ 1048576)
def OpenSpec.upto (s : _root_.Go.ChangeSpec) : _root_.Go.OpenSpec := { _root_.Go.OpenSpec.ofChange s with cond := some uptoSmall }

/-- 'laws.FnLapRanges', WHERE WHAT IT READS IS OF BULK AT MOST 1048576: true; the input reads as it did. -/
def fnLapRangesUptoRow : OpenClaim := { program := "ytehphdhalnokiaa", sum := "32694b6cc9b0195ab77a96b09ecb109b1fa7675a901ea62352f3c4c859dc8ec7", func := "loop.example/g01003/laws.FnLapRanges", spec := "fnLapRanges", unfollowed := true, recurses := true, apart := false, narrowed := true }
def FnLapRangesUptoSaid : Prop := fnLapRangesUptoRow.holds Try.pinned (OpenSpec.upto fnLapRangesSpec)

/-- 'laws.FnFixed', WHERE WHAT IT READS IS OF BULK AT MOST 1048576: true; the input reads as it did. -/
def fnFixedUptoRow : OpenClaim := { program := "ytehphdhalnokiaa", sum := "32694b6cc9b0195ab77a96b09ecb109b1fa7675a901ea62352f3c4c859dc8ec7", func := "loop.example/g01003/laws.FnFixed", spec := "fnFixed", unfollowed := true, recurses := true, apart := false, narrowed := true }
def FnFixedUptoSaid : Prop := fnFixedUptoRow.holds Try.pinned (OpenSpec.upto fnFixedSpec)

/-- 'laws.FnExactCompareRats', WHERE WHAT IT READS IS OF BULK AT MOST 1048576: true; the input reads as it did. -/
def fnExactCompareRatsUptoRow : OpenClaim := { program := "ytehphdhalnokiaa", sum := "32694b6cc9b0195ab77a96b09ecb109b1fa7675a901ea62352f3c4c859dc8ec7", func := "loop.example/g01003/laws.FnExactCompareRats", spec := "fnExactCompareRats", apart := false, narrowed := true }
def FnExactCompareRatsUptoSaid : Prop := fnExactCompareRatsUptoRow.holds Try.pinned (OpenSpec.upto fnExactCompareRatsSpec)

/-- 'laws.FnExactIsMap', WHERE WHAT IT READS IS OF BULK AT MOST 1048576: true; the input reads as it did. -/
def fnExactIsMapUptoRow : OpenClaim := { program := "ytehphdhalnokiaa", sum := "32694b6cc9b0195ab77a96b09ecb109b1fa7675a901ea62352f3c4c859dc8ec7", func := "loop.example/g01003/laws.FnExactIsMap", spec := "fnExactIsMap", apart := false, narrowed := true }
def FnExactIsMapUptoSaid : Prop := fnExactIsMapUptoRow.holds Try.pinned (OpenSpec.upto fnExactIsMapSpec)

/-- 'laws.FnExactValueAt', WHERE WHAT IT READS IS OF BULK AT MOST 1048576: true; the input reads as it did. -/
def fnExactValueAtUptoRow : OpenClaim := { program := "ytehphdhalnokiaa", sum := "32694b6cc9b0195ab77a96b09ecb109b1fa7675a901ea62352f3c4c859dc8ec7", func := "loop.example/g01003/laws.FnExactValueAt", spec := "fnExactValueAt", unfollowed := true, recurses := true, apart := false, narrowed := true }
def FnExactValueAtUptoSaid : Prop := fnExactValueAtUptoRow.holds Try.pinned (OpenSpec.upto fnExactValueAtSpec)

/-- 'laws.FnExactSlopesOf', WHERE WHAT IT READS IS OF BULK AT MOST 1048576: true; the input reads as it did. -/
def fnExactSlopesOfUptoRow : OpenClaim := { program := "ytehphdhalnokiaa", sum := "32694b6cc9b0195ab77a96b09ecb109b1fa7675a901ea62352f3c4c859dc8ec7", func := "loop.example/g01003/laws.FnExactSlopesOf", spec := "fnExactSlopesOf", unfollowed := true, recurses := true, apart := false, narrowed := true }
def FnExactSlopesOfUptoSaid : Prop := fnExactSlopesOfUptoRow.holds Try.pinned (OpenSpec.upto fnExactSlopesOfSpec)

/-- 'laws.FnExactLapsOf', WHERE WHAT IT READS IS OF BULK AT MOST 1048576: true; the input reads as it did. -/
def fnExactLapsOfUptoRow : OpenClaim := { program := "ytehphdhalnokiaa", sum := "32694b6cc9b0195ab77a96b09ecb109b1fa7675a901ea62352f3c4c859dc8ec7", func := "loop.example/g01003/laws.FnExactLapsOf", spec := "fnExactLapsOf", apart := false, narrowed := true }
def FnExactLapsOfUptoSaid : Prop := fnExactLapsOfUptoRow.holds Try.pinned (OpenSpec.upto fnExactLapsOfSpec)

/-- 'laws.FnExactTurningPoints', WHERE WHAT IT READS IS OF BULK AT MOST 1048576: true; the input reads as it did. -/
def fnExactTurningPointsUptoRow : OpenClaim := { program := "ytehphdhalnokiaa", sum := "32694b6cc9b0195ab77a96b09ecb109b1fa7675a901ea62352f3c4c859dc8ec7", func := "loop.example/g01003/laws.FnExactTurningPoints", spec := "fnExactTurningPoints", apart := false, narrowed := true }
def FnExactTurningPointsUptoSaid : Prop := fnExactTurningPointsUptoRow.holds Try.pinned (OpenSpec.upto fnExactTurningPointsSpec)

/-- 'laws.FnExactImageOf', WHERE WHAT IT READS IS OF BULK AT MOST 1048576: true; the input reads as it did. -/
def fnExactImageOfUptoRow : OpenClaim := { program := "ytehphdhalnokiaa", sum := "32694b6cc9b0195ab77a96b09ecb109b1fa7675a901ea62352f3c4c859dc8ec7", func := "loop.example/g01003/laws.FnExactImageOf", spec := "fnExactImageOf", unfollowed := true, recurses := true, apart := false, narrowed := true }
def FnExactImageOfUptoSaid : Prop := fnExactImageOfUptoRow.holds Try.pinned (OpenSpec.upto fnExactImageOfSpec)

/-- 'laws.FnExactFixedPoints', WHERE WHAT IT READS IS OF BULK AT MOST 1048576: true; the input reads as it did. -/
def fnExactFixedPointsUptoRow : OpenClaim := { program := "ytehphdhalnokiaa", sum := "32694b6cc9b0195ab77a96b09ecb109b1fa7675a901ea62352f3c4c859dc8ec7", func := "loop.example/g01003/laws.FnExactFixedPoints", spec := "fnExactFixedPoints", unfollowed := true, recurses := true, apart := false, narrowed := true }
def FnExactFixedPointsUptoSaid : Prop := fnExactFixedPointsUptoRow.holds Try.pinned (OpenSpec.upto fnExactFixedPointsSpec)

/-- 'laws.FnExactPointsBefore', WHERE WHAT IT READS IS OF BULK AT MOST 1048576: true; the input reads as it did. -/
def fnExactPointsBeforeUptoRow : OpenClaim := { program := "ytehphdhalnokiaa", sum := "32694b6cc9b0195ab77a96b09ecb109b1fa7675a901ea62352f3c4c859dc8ec7", func := "loop.example/g01003/laws.FnExactPointsBefore", spec := "fnExactPointsBefore", unfollowed := true, recurses := true, apart := false, narrowed := true }
def FnExactPointsBeforeUptoSaid : Prop := fnExactPointsBeforeUptoRow.holds Try.pinned (OpenSpec.upto fnExactPointsBeforeSpec)

/-- 'laws.FnExactSimpleMap', WHERE WHAT IT READS IS OF BULK AT MOST 1048576: true; the input reads as it did. -/
def fnExactSimpleMapUptoRow : OpenClaim := { program := "ytehphdhalnokiaa", sum := "32694b6cc9b0195ab77a96b09ecb109b1fa7675a901ea62352f3c4c859dc8ec7", func := "loop.example/g01003/laws.FnExactSimpleMap", spec := "fnExactSimpleMap", unfollowed := true, recurses := true, apart := false, narrowed := true }
def FnExactSimpleMapUptoSaid : Prop := fnExactSimpleMapUptoRow.holds Try.pinned (OpenSpec.upto fnExactSimpleMapSpec)

/-- 'laws.FnExactReflectMap', WHERE WHAT IT READS IS OF BULK AT MOST 1048576: true; the input reads as it did. -/
def fnExactReflectMapUptoRow : OpenClaim := { program := "ytehphdhalnokiaa", sum := "32694b6cc9b0195ab77a96b09ecb109b1fa7675a901ea62352f3c4c859dc8ec7", func := "loop.example/g01003/laws.FnExactReflectMap", spec := "fnExactReflectMap", unfollowed := true, recurses := true, apart := false, narrowed := true }
def FnExactReflectMapUptoSaid : Prop := fnExactReflectMapUptoRow.holds Try.pinned (OpenSpec.upto fnExactReflectMapSpec)

end Rows
end Go.Proofs.Ytehphdhalnokiaa

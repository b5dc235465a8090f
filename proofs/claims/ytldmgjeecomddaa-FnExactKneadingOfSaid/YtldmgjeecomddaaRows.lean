/-
  No cell of these rows narrows 'for every input' (looked for: loops, veiled, ifaces, maps, wideKeys, modest, calm, conditions, laid).
  DERIVED. THE GIVEN ROWS OF THIS SEAT. 5 by the template 'for every input the law returns true; each argument reads behind the call as it read before'; 0 by the template 'total and deterministic' (their statements: YtldmgjeecomddaaTotals.lean).
  GIVEN WITH THE SEED: the statements are not yours to turn. If you find one false, say at which input.
  Laid BY PROGRAM, IN A SANDBOX (cutbox-rows.mjs): the forced cells as the released guide's own fill.sh prints them over the translation 9569f6de5e4758e3… (all of the seat's roots in one cut). By AI agents, Wed Nov 11 2026. No macro, syntax, notation, axiom, sorry.
-/
import Derived.Test.YtldmgjeecomddaaChecked
import GoSem.Claim
import GoSem.ClaimJoined
import GoSem.ClaimMapViews
import Derived.JoinedTies
import Derived.KernelRfl
namespace Go.Proofs.Ytldmgjeecomddaa
/- THE CELL 'sum', in the pinned program and in every row, IS THE sha256 OF THE DUMP (.gsa) THAT YtldmgjeecomddaaProg.lean LOADS. Nothing in Lean hashes anything: it is a label: what it is worth is what the hold of that sum in a sandbox is worth. -/
noncomputable def Try.pinned : Pinned := { name := "ytldmgjeecomddaa", sum := "9569f6de5e4758e381f8a7f945f0bbcd250027f3dcf9255077cf387dae5d4509", checked := Try.checked }
namespace Rows
def none {H : Type} : Left H := { results := [], args := [] }

/-- 'laws.FnExactKneadingOf': WHATEVER THE INPUT: true; the input reads as it did. -/
def fnExactKneadingOfSpec : ChangeSpec := { name := "fnExactKneadingOf", fn := fun _ => fun
  | [d1, d2] => { results := [.lit (.bool true)], args := [d1, d2] }
  | _ => none }
def fnExactKneadingOfRow : OpenClaim := { program := "ytldmgjeecomddaa", sum := "9569f6de5e4758e381f8a7f945f0bbcd250027f3dcf9255077cf387dae5d4509", func := "loop.example/g01003/laws.FnExactKneadingOf", spec := "fnExactKneadingOf", inPlace := ["internal/abi.NoEscape"], unfollowed := true, recurses := true, apart := false }
def FnExactKneadingOfSaid : Prop := fnExactKneadingOfRow.holds Try.pinned (OpenSpec.ofChange fnExactKneadingOfSpec)

/-- ITS FALSE NEIGHBOUR: 'it returns false'. Refute it at one input. -/
def fnExactKneadingOfWrong : ChangeSpec := { name := "fnExactKneadingOf", fn := fun _ => fun
  | [d1, d2] => { results := [.lit (.bool false)], args := [d1, d2] }
  | _ => none }
def FnExactKneadingOfWrongFalsely : Prop := fnExactKneadingOfRow.holds Try.pinned (OpenSpec.ofChange fnExactKneadingOfWrong)

/-- 'laws.FnExactTentOf': WHATEVER THE INPUT: true; the input reads as it did. -/
def fnExactTentOfSpec : ChangeSpec := { name := "fnExactTentOf", fn := fun _ => fun
  | [d] => { results := [.lit (.bool true)], args := [d] }
  | _ => none }
def fnExactTentOfRow : OpenClaim := { program := "ytldmgjeecomddaa", sum := "9569f6de5e4758e381f8a7f945f0bbcd250027f3dcf9255077cf387dae5d4509", func := "loop.example/g01003/laws.FnExactTentOf", spec := "fnExactTentOf", apart := false }
def FnExactTentOfSaid : Prop := fnExactTentOfRow.holds Try.pinned (OpenSpec.ofChange fnExactTentOfSpec)

/-- ITS FALSE NEIGHBOUR: 'it returns false'. Refute it at one input. -/
def fnExactTentOfWrong : ChangeSpec := { name := "fnExactTentOf", fn := fun _ => fun
  | [d] => { results := [.lit (.bool false)], args := [d] }
  | _ => none }
def FnExactTentOfWrongFalsely : Prop := fnExactTentOfRow.holds Try.pinned (OpenSpec.ofChange fnExactTentOfWrong)

/-- 'laws.FnExactTurningValues': WHATEVER THE INPUT: true; the input reads as it did. -/
def fnExactTurningValuesSpec : ChangeSpec := { name := "fnExactTurningValues", fn := fun _ => fun
  | [d1, d2] => { results := [.lit (.bool true)], args := [d1, d2] }
  | _ => none }
def fnExactTurningValuesRow : OpenClaim := { program := "ytldmgjeecomddaa", sum := "9569f6de5e4758e381f8a7f945f0bbcd250027f3dcf9255077cf387dae5d4509", func := "loop.example/g01003/laws.FnExactTurningValues", spec := "fnExactTurningValues", unfollowed := true, recurses := true, apart := false }
def FnExactTurningValuesSaid : Prop := fnExactTurningValuesRow.holds Try.pinned (OpenSpec.ofChange fnExactTurningValuesSpec)

/-- ITS FALSE NEIGHBOUR: 'it returns false'. Refute it at one input. -/
def fnExactTurningValuesWrong : ChangeSpec := { name := "fnExactTurningValues", fn := fun _ => fun
  | [d1, d2] => { results := [.lit (.bool false)], args := [d1, d2] }
  | _ => none }
def FnExactTurningValuesWrongFalsely : Prop := fnExactTurningValuesRow.holds Try.pinned (OpenSpec.ofChange fnExactTurningValuesWrong)

/-- 'laws.FnExactIsStrict': WHATEVER THE INPUT: true; the input reads as it did. -/
def fnExactIsStrictSpec : ChangeSpec := { name := "fnExactIsStrict", fn := fun _ => fun
  | [d] => { results := [.lit (.bool true)], args := [d] }
  | _ => none }
def fnExactIsStrictRow : OpenClaim := { program := "ytldmgjeecomddaa", sum := "9569f6de5e4758e381f8a7f945f0bbcd250027f3dcf9255077cf387dae5d4509", func := "loop.example/g01003/laws.FnExactIsStrict", spec := "fnExactIsStrict", apart := false }
def FnExactIsStrictSaid : Prop := fnExactIsStrictRow.holds Try.pinned (OpenSpec.ofChange fnExactIsStrictSpec)

/-- ITS FALSE NEIGHBOUR: 'it returns false'. Refute it at one input. -/
def fnExactIsStrictWrong : ChangeSpec := { name := "fnExactIsStrict", fn := fun _ => fun
  | [d] => { results := [.lit (.bool false)], args := [d] }
  | _ => none }
def FnExactIsStrictWrongFalsely : Prop := fnExactIsStrictRow.holds Try.pinned (OpenSpec.ofChange fnExactIsStrictWrong)

/-- 'laws.FnExactIsUnimodal': WHATEVER THE INPUT: true; the input reads as it did. -/
def fnExactIsUnimodalSpec : ChangeSpec := { name := "fnExactIsUnimodal", fn := fun _ => fun
  | [d] => { results := [.lit (.bool true)], args := [d] }
  | _ => none }
def fnExactIsUnimodalRow : OpenClaim := { program := "ytldmgjeecomddaa", sum := "9569f6de5e4758e381f8a7f945f0bbcd250027f3dcf9255077cf387dae5d4509", func := "loop.example/g01003/laws.FnExactIsUnimodal", spec := "fnExactIsUnimodal", apart := false }
def FnExactIsUnimodalSaid : Prop := fnExactIsUnimodalRow.holds Try.pinned (OpenSpec.ofChange fnExactIsUnimodalSpec)

/-- ITS FALSE NEIGHBOUR: 'it returns false'. Refute it at one input. -/
def fnExactIsUnimodalWrong : ChangeSpec := { name := "fnExactIsUnimodal", fn := fun _ => fun
  | [d] => { results := [.lit (.bool false)], args := [d] }
  | _ => none }
def FnExactIsUnimodalWrongFalsely : Prop := fnExactIsUnimodalRow.holds Try.pinned (OpenSpec.ofChange fnExactIsUnimodalWrong)

/- THE SECOND FORM. 'bulk': how many values and letters a reading holds, each counted each time it is reached (what is shared counts as often as it is met; a slice's spare places count too). A statement '..UptoSaid' is the law's where the arguments, and the package variables that the reading takes, are together of bulk at most 1048576: NARROWER than '..Said'. Prove '..Said' where nothing that the law and all that it calls make is longer than what came in: it says more and counts as full. Else prove '..UptoSaid'. A law counts once. -/
mutual
def uptoBulk {H : Type} : DataW H → Nat
  | .lit (.string bytes) => bytes.length + 1
  | .lit _ => 1
  | .nil => 1
  | .ptr d => uptoBulk d + 1
  | .slice elems spare => uptoBulkAll elems + uptoBulkAll spare + 1
  | .agg parts => uptoBulkAll parts + 1
  | .iface _ d => uptoBulk d + 1
  | .map entries => uptoBulkEntries entries + 1
  | .held _ => 1
def uptoBulkAll {H : Type} : List (DataW H) → Nat
  | [] => 0
  | d :: r => uptoBulk d + uptoBulkAll r
def uptoBulkEntries {H : Type} : List (Lit × DataW H) → Nat
  | [] => 0
  | x :: r => uptoBulkEntry x + uptoBulkEntries r
def uptoBulkEntry {H : Type} : Lit × DataW H → Nat
  | (.string bytes, d) => bytes.length + uptoBulk d + 1
  | (_, d) => uptoBulk d + 1
 end
def uptoSmall : (H : Type) → List (DataW H) → Bool := fun _ ds => decide (uptoBulkAll ds ≤ 1048576)
def OpenSpec.upto (s : _root_.Go.ChangeSpec) : _root_.Go.OpenSpec := { _root_.Go.OpenSpec.ofChange s with cond := some uptoSmall }

/-- 'laws.FnExactKneadingOf', WHERE WHAT IT READS IS OF BULK AT MOST 1048576: true; the input reads as it did. -/
def fnExactKneadingOfUptoRow : OpenClaim := { program := "ytldmgjeecomddaa", sum := "9569f6de5e4758e381f8a7f945f0bbcd250027f3dcf9255077cf387dae5d4509", func := "loop.example/g01003/laws.FnExactKneadingOf", spec := "fnExactKneadingOf", inPlace := ["internal/abi.NoEscape"], unfollowed := true, recurses := true, apart := false, narrowed := true }
def FnExactKneadingOfUptoSaid : Prop := fnExactKneadingOfUptoRow.holds Try.pinned (OpenSpec.upto fnExactKneadingOfSpec)

/-- 'laws.FnExactTentOf', WHERE WHAT IT READS IS OF BULK AT MOST 1048576: true; the input reads as it did. -/
def fnExactTentOfUptoRow : OpenClaim := { program := "ytldmgjeecomddaa", sum := "9569f6de5e4758e381f8a7f945f0bbcd250027f3dcf9255077cf387dae5d4509", func := "loop.example/g01003/laws.FnExactTentOf", spec := "fnExactTentOf", apart := false, narrowed := true }
def FnExactTentOfUptoSaid : Prop := fnExactTentOfUptoRow.holds Try.pinned (OpenSpec.upto fnExactTentOfSpec)

/-- 'laws.FnExactTurningValues', WHERE WHAT IT READS IS OF BULK AT MOST 1048576: true; the input reads as it did. -/
def fnExactTurningValuesUptoRow : OpenClaim := { program := "ytldmgjeecomddaa", sum := "9569f6de5e4758e381f8a7f945f0bbcd250027f3dcf9255077cf387dae5d4509", func := "loop.example/g01003/laws.FnExactTurningValues", spec := "fnExactTurningValues", unfollowed := true, recurses := true, apart := false, narrowed := true }
def FnExactTurningValuesUptoSaid : Prop := fnExactTurningValuesUptoRow.holds Try.pinned (OpenSpec.upto fnExactTurningValuesSpec)

/-- 'laws.FnExactIsStrict', WHERE WHAT IT READS IS OF BULK AT MOST 1048576: true; the input reads as it did. -/
def fnExactIsStrictUptoRow : OpenClaim := { program := "ytldmgjeecomddaa", sum := "9569f6de5e4758e381f8a7f945f0bbcd250027f3dcf9255077cf387dae5d4509", func := "loop.example/g01003/laws.FnExactIsStrict", spec := "fnExactIsStrict", apart := false, narrowed := true }
def FnExactIsStrictUptoSaid : Prop := fnExactIsStrictUptoRow.holds Try.pinned (OpenSpec.upto fnExactIsStrictSpec)

/-- 'laws.FnExactIsUnimodal', WHERE WHAT IT READS IS OF BULK AT MOST 1048576: true; the input reads as it did. -/
def fnExactIsUnimodalUptoRow : OpenClaim := { program := "ytldmgjeecomddaa", sum := "9569f6de5e4758e381f8a7f945f0bbcd250027f3dcf9255077cf387dae5d4509", func := "loop.example/g01003/laws.FnExactIsUnimodal", spec := "fnExactIsUnimodal", apart := false, narrowed := true }
def FnExactIsUnimodalUptoSaid : Prop := fnExactIsUnimodalUptoRow.holds Try.pinned (OpenSpec.upto fnExactIsUnimodalSpec)

end Rows
end Go.Proofs.Ytldmgjeecomddaa

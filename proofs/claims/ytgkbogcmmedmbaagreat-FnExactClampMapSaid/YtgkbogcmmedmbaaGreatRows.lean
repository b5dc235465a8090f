/-
  No cell of these rows narrows 'for every input' (looked for: loops, veiled, ifaces, maps, wideKeys, modest, calm, conditions, laid).
  DERIVED. THE GIVEN ROWS OF THIS SEAT. 6 by the template 'for every input the law returns true; each argument reads behind the call as it read before'; 0 by the template 'total and deterministic' (their statements: YtgkbogcmmedmbaaGreatTotals.lean).
  GIVEN WITH THE SEED: the statements are not yours to turn. If you find one false, say at which input.
  Laid BY PROGRAM, IN A SANDBOX (cutbox-rows.mjs): the forced cells as the released guide's own fill.sh prints them over the translation 9625ef14fee6f170… (all of the seat's roots in one cut). By AI agents, Wed Nov 11 2026. No macro, syntax, notation, axiom, sorry.
-/
import Derived.Test.YtgkbogcmmedmbaaGreatChecked
import GoSem.Claim
import GoSem.ClaimJoined
import GoSem.ClaimMapViews
import Derived.JoinedTies
import Derived.KernelRfl
namespace Go.Proofs.YtgkbogcmmedmbaaGreat
/- THE CELL 'sum', in the pinned program and in every row, IS THE sha256 OF THE DUMP (.gsa) THAT YtgkbogcmmedmbaaGreatProg.lean LOADS. Nothing in Lean hashes anything: it is a label: what it is worth is what the hold of that sum in a sandbox is worth. -/
noncomputable def Tryz.pinned : Pinned := { name := "ytgkbogcmmedmbaagreat", sum := "9625ef14fee6f170a9c4e6af13fb0daef614f8edd96c8aaed55ca30a9e8b96f7", checked := Tryz.checked }
namespace Rows
def none {H : Type} : Left H := { results := [], args := [] }

/-- 'laws.FnExactComposeMaps': WHATEVER THE INPUT: true; the input reads as it did. -/
def fnExactComposeMapsSpec : ChangeSpec := { name := "fnExactComposeMaps", fn := fun _ => fun
  | [d1, d2] => { results := [.lit (.bool true)], args := [d1, d2] }
  | _ => none }
def fnExactComposeMapsRow : OpenClaim := { program := "ytgkbogcmmedmbaagreat", sum := "9625ef14fee6f170a9c4e6af13fb0daef614f8edd96c8aaed55ca30a9e8b96f7", func := "loop.example/g01003/laws.FnExactComposeMaps", spec := "fnExactComposeMaps", unfollowed := true, recurses := true, apart := false }
def FnExactComposeMapsSaid : Prop := fnExactComposeMapsRow.holds Tryz.pinned (OpenSpec.ofChange fnExactComposeMapsSpec)

/-- ITS FALSE NEIGHBOUR: 'it returns false'. Refute it at one input. -/
def fnExactComposeMapsWrong : ChangeSpec := { name := "fnExactComposeMaps", fn := fun _ => fun
  | [d1, d2] => { results := [.lit (.bool false)], args := [d1, d2] }
  | _ => none }
def FnExactComposeMapsWrongFalsely : Prop := fnExactComposeMapsRow.holds Tryz.pinned (OpenSpec.ofChange fnExactComposeMapsWrong)

/-- 'laws.FnExactPowerOfMap': WHATEVER THE INPUT: true; the input reads as it did. -/
def fnExactPowerOfMapSpec : ChangeSpec := { name := "fnExactPowerOfMap", fn := fun _ => fun
  | [d1, d2] => { results := [.lit (.bool true)], args := [d1, d2] }
  | _ => none }
def fnExactPowerOfMapRow : OpenClaim := { program := "ytgkbogcmmedmbaagreat", sum := "9625ef14fee6f170a9c4e6af13fb0daef614f8edd96c8aaed55ca30a9e8b96f7", func := "loop.example/g01003/laws.FnExactPowerOfMap", spec := "fnExactPowerOfMap", unfollowed := true, recurses := true, apart := false }
def FnExactPowerOfMapSaid : Prop := fnExactPowerOfMapRow.holds Tryz.pinned (OpenSpec.ofChange fnExactPowerOfMapSpec)

/-- ITS FALSE NEIGHBOUR: 'it returns false'. Refute it at one input. -/
def fnExactPowerOfMapWrong : ChangeSpec := { name := "fnExactPowerOfMap", fn := fun _ => fun
  | [d1, d2] => { results := [.lit (.bool false)], args := [d1, d2] }
  | _ => none }
def FnExactPowerOfMapWrongFalsely : Prop := fnExactPowerOfMapRow.holds Tryz.pinned (OpenSpec.ofChange fnExactPowerOfMapWrong)

/-- 'laws.FnExactDoCommute': WHATEVER THE INPUT: true; the input reads as it did. -/
def fnExactDoCommuteSpec : ChangeSpec := { name := "fnExactDoCommute", fn := fun _ => fun
  | [d1, d2] => { results := [.lit (.bool true)], args := [d1, d2] }
  | _ => none }
def fnExactDoCommuteRow : OpenClaim := { program := "ytgkbogcmmedmbaagreat", sum := "9625ef14fee6f170a9c4e6af13fb0daef614f8edd96c8aaed55ca30a9e8b96f7", func := "loop.example/g01003/laws.FnExactDoCommute", spec := "fnExactDoCommute", unfollowed := true, recurses := true, apart := false }
def FnExactDoCommuteSaid : Prop := fnExactDoCommuteRow.holds Tryz.pinned (OpenSpec.ofChange fnExactDoCommuteSpec)

/-- ITS FALSE NEIGHBOUR: 'it returns false'. Refute it at one input. -/
def fnExactDoCommuteWrong : ChangeSpec := { name := "fnExactDoCommute", fn := fun _ => fun
  | [d1, d2] => { results := [.lit (.bool false)], args := [d1, d2] }
  | _ => none }
def FnExactDoCommuteWrongFalsely : Prop := fnExactDoCommuteRow.holds Tryz.pinned (OpenSpec.ofChange fnExactDoCommuteWrong)

/-- 'laws.FnExactRefineMap': WHATEVER THE INPUT: true; the input reads as it did. -/
def fnExactRefineMapSpec : ChangeSpec := { name := "fnExactRefineMap", fn := fun _ => fun
  | [d1, d2] => { results := [.lit (.bool true)], args := [d1, d2] }
  | _ => none }
def fnExactRefineMapRow : OpenClaim := { program := "ytgkbogcmmedmbaagreat", sum := "9625ef14fee6f170a9c4e6af13fb0daef614f8edd96c8aaed55ca30a9e8b96f7", func := "loop.example/g01003/laws.FnExactRefineMap", spec := "fnExactRefineMap", unfollowed := true, recurses := true, apart := false }
def FnExactRefineMapSaid : Prop := fnExactRefineMapRow.holds Tryz.pinned (OpenSpec.ofChange fnExactRefineMapSpec)

/-- ITS FALSE NEIGHBOUR: 'it returns false'. Refute it at one input. -/
def fnExactRefineMapWrong : ChangeSpec := { name := "fnExactRefineMap", fn := fun _ => fun
  | [d1, d2] => { results := [.lit (.bool false)], args := [d1, d2] }
  | _ => none }
def FnExactRefineMapWrongFalsely : Prop := fnExactRefineMapRow.holds Tryz.pinned (OpenSpec.ofChange fnExactRefineMapWrong)

/-- 'laws.FnExactMiddleMap': WHATEVER THE INPUT: true; the input reads as it did. -/
def fnExactMiddleMapSpec : ChangeSpec := { name := "fnExactMiddleMap", fn := fun _ => fun
  | [d1, d2] => { results := [.lit (.bool true)], args := [d1, d2] }
  | _ => none }
def fnExactMiddleMapRow : OpenClaim := { program := "ytgkbogcmmedmbaagreat", sum := "9625ef14fee6f170a9c4e6af13fb0daef614f8edd96c8aaed55ca30a9e8b96f7", func := "loop.example/g01003/laws.FnExactMiddleMap", spec := "fnExactMiddleMap", unfollowed := true, recurses := true, apart := false }
def FnExactMiddleMapSaid : Prop := fnExactMiddleMapRow.holds Tryz.pinned (OpenSpec.ofChange fnExactMiddleMapSpec)

/-- ITS FALSE NEIGHBOUR: 'it returns false'. Refute it at one input. -/
def fnExactMiddleMapWrong : ChangeSpec := { name := "fnExactMiddleMap", fn := fun _ => fun
  | [d1, d2] => { results := [.lit (.bool false)], args := [d1, d2] }
  | _ => none }
def FnExactMiddleMapWrongFalsely : Prop := fnExactMiddleMapRow.holds Tryz.pinned (OpenSpec.ofChange fnExactMiddleMapWrong)

/-- 'laws.FnExactClampMap': WHATEVER THE INPUT: true; the input reads as it did. -/
def fnExactClampMapSpec : ChangeSpec := { name := "fnExactClampMap", fn := fun _ => fun
  | [d1, d2, d3] => { results := [.lit (.bool true)], args := [d1, d2, d3] }
  | _ => none }
def fnExactClampMapRow : OpenClaim := { program := "ytgkbogcmmedmbaagreat", sum := "9625ef14fee6f170a9c4e6af13fb0daef614f8edd96c8aaed55ca30a9e8b96f7", func := "loop.example/g01003/laws.FnExactClampMap", spec := "fnExactClampMap", unfollowed := true, recurses := true, apart := false }
def FnExactClampMapSaid : Prop := fnExactClampMapRow.holds Tryz.pinned (OpenSpec.ofChange fnExactClampMapSpec)

/-- ITS FALSE NEIGHBOUR: 'it returns false'. Refute it at one input. -/
def fnExactClampMapWrong : ChangeSpec := { name := "fnExactClampMap", fn := fun _ => fun
  | [d1, d2, d3] => { results := [.lit (.bool false)], args := [d1, d2, d3] }
  | _ => none }
def FnExactClampMapWrongFalsely : Prop := fnExactClampMapRow.holds Tryz.pinned (OpenSpec.ofChange fnExactClampMapWrong)

/- THE SECOND FORM. 'bulk': how many values and letters a reading holds, each counted each time it is reached (what is shared counts as often as it is met; a slice's spare places count too). A statement '..UptoSaid' is the law's where the arguments, and the package variables that the reading takes, are together of bulk at most 1048576: NARROWER than '..Said'. Prove '..Said' where nothing that the law and all that it calls make is longer than what came in: it says more and counts as full. Else prove '..UptoSaid'. A law counts once. -/
mutual
def uptoBulk {H : Type} : DataW H → Nat
  | .lit (.string bytes) => bytes.length + 1
  | .lit _ => 1
  | .nil => 1
  | .ptr d => uptoBulk d + 1
  | .slice elems spare => uptoBulkAll elems + uptoBulkAll spare + 1
  | .agg parts => uptoBulkAll parts + 1
  | .iface _ d => uptoBulk d + 1
  | .map entries => uptoBulkEntries entries + 1
  | .held _ => 1
def uptoBulkAll {H : Type} : List (DataW H) → Nat
  | [] => 0
  | d :: r => uptoBulk d + uptoBulkAll r
def uptoBulkEntries {H : Type} : List (Lit × DataW H) → Nat
  | [] => 0
  | x :: r => uptoBulkEntry x + uptoBulkEntries r
def uptoBulkEntry {H : Type} : Lit × DataW H → Nat
  | (.string bytes, d) => bytes.length + uptoBulk d + 1
  | (_, d) => uptoBulk d + 1
 end
def uptoSmall : (H : Type) → List (DataW H) → Bool := fun _ ds => decide (uptoBulkAll ds ≤ 1048576)
def OpenSpec.upto (s : _root_.Go.ChangeSpec) : _root_.Go.OpenSpec := { _root_.Go.OpenSpec.ofChange s with cond := some uptoSmall }

/-- 'laws.FnExactComposeMaps', WHERE WHAT IT READS IS OF BULK AT MOST 1048576: true; the input reads as it did. -/
def fnExactComposeMapsUptoRow : OpenClaim := { program := "ytgkbogcmmedmbaagreat", sum := "9625ef14fee6f170a9c4e6af13fb0daef614f8edd96c8aaed55ca30a9e8b96f7", func := "loop.example/g01003/laws.FnExactComposeMaps", spec := "fnExactComposeMaps", unfollowed := true, recurses := true, apart := false, narrowed := true }
def FnExactComposeMapsUptoSaid : Prop := fnExactComposeMapsUptoRow.holds Tryz.pinned (OpenSpec.upto fnExactComposeMapsSpec)

/-- 'laws.FnExactPowerOfMap', WHERE WHAT IT READS IS OF BULK AT MOST 1048576: true; the input reads as it did. -/
def fnExactPowerOfMapUptoRow : OpenClaim := { program := "ytgkbogcmmedmbaagreat", sum := "9625ef14fee6f170a9c4e6af13fb0daef614f8edd96c8aaed55ca30a9e8b96f7", func := "loop.example/g01003/laws.FnExactPowerOfMap", spec := "fnExactPowerOfMap", unfollowed := true, recurses := true, apart := false, narrowed := true }
def FnExactPowerOfMapUptoSaid : Prop := fnExactPowerOfMapUptoRow.holds Tryz.pinned (OpenSpec.upto fnExactPowerOfMapSpec)

/-- 'laws.FnExactDoCommute', WHERE WHAT IT READS IS OF BULK AT MOST 1048576: true; the input reads as it did. -/
def fnExactDoCommuteUptoRow : OpenClaim := { program := "ytgkbogcmmedmbaagreat", sum := "9625ef14fee6f170a9c4e6af13fb0daef614f8edd96c8aaed55ca30a9e8b96f7", func := "loop.example/g01003/laws.FnExactDoCommute", spec := "fnExactDoCommute", unfollowed := true, recurses := true, apart := false, narrowed := true }
def FnExactDoCommuteUptoSaid : Prop := fnExactDoCommuteUptoRow.holds Tryz.pinned (OpenSpec.upto fnExactDoCommuteSpec)

/-- 'laws.FnExactRefineMap', WHERE WHAT IT READS IS OF BULK AT MOST 1048576: true; the input reads as it did. -/
def fnExactRefineMapUptoRow : OpenClaim := { program := "ytgkbogcmmedmbaagreat", sum := "9625ef14fee6f170a9c4e6af13fb0daef614f8edd96c8aaed55ca30a9e8b96f7", func := "loop.example/g01003/laws.FnExactRefineMap", spec := "fnExactRefineMap", unfollowed := true, recurses := true, apart := false, narrowed := true }
def FnExactRefineMapUptoSaid : Prop := fnExactRefineMapUptoRow.holds Tryz.pinned (OpenSpec.upto fnExactRefineMapSpec)

/-- 'laws.FnExactMiddleMap', WHERE WHAT IT READS IS OF BULK AT MOST 1048576: true; the input reads as it did. -/
def fnExactMiddleMapUptoRow : OpenClaim := { program := "ytgkbogcmmedmbaagreat", sum := "9625ef14fee6f170a9c4e6af13fb0daef614f8edd96c8aaed55ca30a9e8b96f7", func := "loop.example/g01003/laws.FnExactMiddleMap", spec := "fnExactMiddleMap", unfollowed := true, recurses := true, apart := false, narrowed := true }
def FnExactMiddleMapUptoSaid : Prop := fnExactMiddleMapUptoRow.holds Tryz.pinned (OpenSpec.upto fnExactMiddleMapSpec)

/-- 'laws.FnExactClampMap', WHERE WHAT IT READS IS OF BULK AT MOST 1048576: true; the input reads as it did. -/
def fnExactClampMapUptoRow : OpenClaim := { program := "ytgkbogcmmedmbaagreat", sum := "9625ef14fee6f170a9c4e6af13fb0daef614f8edd96c8aaed55ca30a9e8b96f7", func := "loop.example/g01003/laws.FnExactClampMap", spec := "fnExactClampMap", unfollowed := true, recurses := true, apart := false, narrowed := true }
def FnExactClampMapUptoSaid : Prop := fnExactClampMapUptoRow.holds Tryz.pinned (OpenSpec.upto fnExactClampMapSpec)

end Rows
end Go.Proofs.YtgkbogcmmedmbaaGreat

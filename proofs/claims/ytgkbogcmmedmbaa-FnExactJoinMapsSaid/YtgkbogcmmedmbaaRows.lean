/-
  No cell of these rows narrows 'for every input' (looked for: loops, veiled, ifaces, maps, wideKeys, modest, calm, conditions, laid).
  DERIVED. THE GIVEN ROWS OF THIS SEAT. 4 by the template 'for every input the law returns true; each argument reads behind the call as it read before'; 0 by the template 'total and deterministic' (their statements: YtgkbogcmmedmbaaTotals.lean).
  GIVEN WITH THE SEED: the statements are not yours to turn. If you find one false, say at which input.
  Laid BY PROGRAM, IN A SANDBOX (cutbox-rows.mjs): the forced cells as the released guide's own fill.sh prints them over the translation 7b18b11eff82e438… (all of the seat's roots in one cut). By AI agents, Wed Nov 11 2026. No macro, syntax, notation, axiom, sorry.
-/
import Derived.Test.YtgkbogcmmedmbaaChecked
import GoSem.Claim
import GoSem.ClaimJoined
import GoSem.ClaimMapViews
import Derived.JoinedTies
import Derived.KernelRfl
namespace Go.Proofs.Ytgkbogcmmedmbaa
/- THE CELL 'sum', in the pinned program and in every row, IS THE sha256 OF THE DUMP (.gsa) THAT YtgkbogcmmedmbaaProg.lean LOADS. Nothing in Lean hashes anything: it is a label: what it is worth is what the hold of that sum in a sandbox is worth. -/
noncomputable def Try.pinned : Pinned := { name := "ytgkbogcmmedmbaa", sum := "7b18b11eff82e438a284a363e1f82c8fa95ef7b494f0b71e77a415f50b0bfbaf", checked := Try.checked }
namespace Rows
def none {H : Type} : Left H := { results := [], args := [] }

/-- 'laws.FnExactAreSameMap': WHATEVER THE INPUT: true; the input reads as it did. -/
def fnExactAreSameMapSpec : ChangeSpec := { name := "fnExactAreSameMap", fn := fun _ => fun
  | [d1, d2] => { results := [.lit (.bool true)], args := [d1, d2] }
  | _ => none }
def fnExactAreSameMapRow : OpenClaim := { program := "ytgkbogcmmedmbaa", sum := "7b18b11eff82e438a284a363e1f82c8fa95ef7b494f0b71e77a415f50b0bfbaf", func := "loop.example/g01003/laws.FnExactAreSameMap", spec := "fnExactAreSameMap", unfollowed := true, recurses := true, apart := false }
def FnExactAreSameMapSaid : Prop := fnExactAreSameMapRow.holds Try.pinned (OpenSpec.ofChange fnExactAreSameMapSpec)

/-- ITS FALSE NEIGHBOUR: 'it returns false'. Refute it at one input. -/
def fnExactAreSameMapWrong : ChangeSpec := { name := "fnExactAreSameMap", fn := fun _ => fun
  | [d1, d2] => { results := [.lit (.bool false)], args := [d1, d2] }
  | _ => none }
def FnExactAreSameMapWrongFalsely : Prop := fnExactAreSameMapRow.holds Try.pinned (OpenSpec.ofChange fnExactAreSameMapWrong)

/-- 'laws.FnExactGreatestDistance': WHATEVER THE INPUT: true; the input reads as it did. -/
def fnExactGreatestDistanceSpec : ChangeSpec := { name := "fnExactGreatestDistance", fn := fun _ => fun
  | [d1, d2] => { results := [.lit (.bool true)], args := [d1, d2] }
  | _ => none }
def fnExactGreatestDistanceRow : OpenClaim := { program := "ytgkbogcmmedmbaa", sum := "7b18b11eff82e438a284a363e1f82c8fa95ef7b494f0b71e77a415f50b0bfbaf", func := "loop.example/g01003/laws.FnExactGreatestDistance", spec := "fnExactGreatestDistance", unfollowed := true, recurses := true, apart := false }
def FnExactGreatestDistanceSaid : Prop := fnExactGreatestDistanceRow.holds Try.pinned (OpenSpec.ofChange fnExactGreatestDistanceSpec)

/-- ITS FALSE NEIGHBOUR: 'it returns false'. Refute it at one input. -/
def fnExactGreatestDistanceWrong : ChangeSpec := { name := "fnExactGreatestDistance", fn := fun _ => fun
  | [d1, d2] => { results := [.lit (.bool false)], args := [d1, d2] }
  | _ => none }
def FnExactGreatestDistanceWrongFalsely : Prop := fnExactGreatestDistanceRow.holds Try.pinned (OpenSpec.ofChange fnExactGreatestDistanceWrong)

/-- 'laws.FnExactJoinMaps': WHATEVER THE INPUT: true; the input reads as it did. -/
def fnExactJoinMapsSpec : ChangeSpec := { name := "fnExactJoinMaps", fn := fun _ => fun
  | [d1, d2, d3] => { results := [.lit (.bool true)], args := [d1, d2, d3] }
  | _ => none }
def fnExactJoinMapsRow : OpenClaim := { program := "ytgkbogcmmedmbaa", sum := "7b18b11eff82e438a284a363e1f82c8fa95ef7b494f0b71e77a415f50b0bfbaf", func := "loop.example/g01003/laws.FnExactJoinMaps", spec := "fnExactJoinMaps", unfollowed := true, recurses := true, apart := false }
def FnExactJoinMapsSaid : Prop := fnExactJoinMapsRow.holds Try.pinned (OpenSpec.ofChange fnExactJoinMapsSpec)

/-- ITS FALSE NEIGHBOUR: 'it returns false'. Refute it at one input. -/
def fnExactJoinMapsWrong : ChangeSpec := { name := "fnExactJoinMaps", fn := fun _ => fun
  | [d1, d2, d3] => { results := [.lit (.bool false)], args := [d1, d2, d3] }
  | _ => none }
def FnExactJoinMapsWrongFalsely : Prop := fnExactJoinMapsRow.holds Try.pinned (OpenSpec.ofChange fnExactJoinMapsWrong)

/-- 'laws.FnExactIsBelow': WHATEVER THE INPUT: true; the input reads as it did. -/
def fnExactIsBelowSpec : ChangeSpec := { name := "fnExactIsBelow", fn := fun _ => fun
  | [d1, d2] => { results := [.lit (.bool true)], args := [d1, d2] }
  | _ => none }
def fnExactIsBelowRow : OpenClaim := { program := "ytgkbogcmmedmbaa", sum := "7b18b11eff82e438a284a363e1f82c8fa95ef7b494f0b71e77a415f50b0bfbaf", func := "loop.example/g01003/laws.FnExactIsBelow", spec := "fnExactIsBelow", unfollowed := true, recurses := true, apart := false }
def FnExactIsBelowSaid : Prop := fnExactIsBelowRow.holds Try.pinned (OpenSpec.ofChange fnExactIsBelowSpec)

/-- ITS FALSE NEIGHBOUR: 'it returns false'. Refute it at one input. -/
def fnExactIsBelowWrong : ChangeSpec := { name := "fnExactIsBelow", fn := fun _ => fun
  | [d1, d2] => { results := [.lit (.bool false)], args := [d1, d2] }
  | _ => none }
def FnExactIsBelowWrongFalsely : Prop := fnExactIsBelowRow.holds Try.pinned (OpenSpec.ofChange fnExactIsBelowWrong)

/- THE SECOND FORM. 'bulk': how many values and letters a reading holds, each counted each time it is reached (what is shared counts as often as it is met; a slice's spare places count too). A statement '..UptoSaid' is the law's where the arguments, and the package variables that the reading takes, are together of bulk at most 1048576: NARROWER than '..Said'. Prove '..Said' where nothing that the law and all that it calls make is longer than what came in: it says more and counts as full. Else prove '..UptoSaid'. A law counts once. -/
mutual
def uptoBulk {H : Type} : DataW H → Nat
  | .lit (.string bytes) => bytes.length + 1
  | .lit _ => 1
  | .nil => 1
  | .ptr d => uptoBulk d + 1
  | .slice elems spare => uptoBulkAll elems + uptoBulkAll spare + 1
  | .agg parts => uptoBulkAll parts + 1
  | .iface _ d => uptoBulk d + 1
  | .map entries => uptoBulkEntries entries + 1
  | .held _ => 1
def uptoBulkAll {H : Type} : List (DataW H) → Nat
  | [] => 0
  | d :: r => uptoBulk d + uptoBulkAll r
def uptoBulkEntries {H : Type} : List (Lit × DataW H) → Nat
  | [] => 0
  | x :: r => uptoBulkEntry x + uptoBulkEntries r
def uptoBulkEntry {H : Type} : Lit × DataW H → Nat
  | (.string bytes, d) => bytes.length + uptoBulk d + 1
  | (_, d) => uptoBulk d + 1
 end
def uptoSmall : (H : Type) → List (DataW H) → Bool := fun _ ds => decide (uptoBulkAll ds ≤ 1048576)
def OpenSpec.upto (s : _root_.Go.ChangeSpec) : _root_.Go.OpenSpec := { _root_.Go.OpenSpec.ofChange s with cond := some uptoSmall }

/-- 'laws.FnExactAreSameMap', WHERE WHAT IT READS IS OF BULK AT MOST 1048576: true; the input reads as it did. -/
def fnExactAreSameMapUptoRow : OpenClaim := { program := "ytgkbogcmmedmbaa", sum := "7b18b11eff82e438a284a363e1f82c8fa95ef7b494f0b71e77a415f50b0bfbaf", func := "loop.example/g01003/laws.FnExactAreSameMap", spec := "fnExactAreSameMap", unfollowed := true, recurses := true, apart := false, narrowed := true }
def FnExactAreSameMapUptoSaid : Prop := fnExactAreSameMapUptoRow.holds Try.pinned (OpenSpec.upto fnExactAreSameMapSpec)

/-- 'laws.FnExactGreatestDistance', WHERE WHAT IT READS IS OF BULK AT MOST 1048576: true; the input reads as it did. -/
def fnExactGreatestDistanceUptoRow : OpenClaim := { program := "ytgkbogcmmedmbaa", sum := "7b18b11eff82e438a284a363e1f82c8fa95ef7b494f0b71e77a415f50b0bfbaf", func := "loop.example/g01003/laws.FnExactGreatestDistance", spec := "fnExactGreatestDistance", unfollowed := true, recurses := true, apart := false, narrowed := true }
def FnExactGreatestDistanceUptoSaid : Prop := fnExactGreatestDistanceUptoRow.holds Try.pinned (OpenSpec.upto fnExactGreatestDistanceSpec)

/-- 'laws.FnExactJoinMaps', WHERE WHAT IT READS IS OF BULK AT MOST 1048576: true; the input reads as it did. -/
def fnExactJoinMapsUptoRow : OpenClaim := { program := "ytgkbogcmmedmbaa", sum := "7b18b11eff82e438a284a363e1f82c8fa95ef7b494f0b71e77a415f50b0bfbaf", func := "loop.example/g01003/laws.FnExactJoinMaps", spec := "fnExactJoinMaps", unfollowed := true, recurses := true, apart := false, narrowed := true }
def FnExactJoinMapsUptoSaid : Prop := fnExactJoinMapsUptoRow.holds Try.pinned (OpenSpec.upto fnExactJoinMapsSpec)

/-- 'laws.FnExactIsBelow', WHERE WHAT IT READS IS OF BULK AT MOST 1048576: true; the input reads as it did. -/
def fnExactIsBelowUptoRow : OpenClaim := { program := "ytgkbogcmmedmbaa", sum := "7b18b11eff82e438a284a363e1f82c8fa95ef7b494f0b71e77a415f50b0bfbaf", func := "loop.example/g01003/laws.FnExactIsBelow", spec := "fnExactIsBelow", unfollowed := true, recurses := true, apart := false, narrowed := true }
def FnExactIsBelowUptoSaid : Prop := fnExactIsBelowUptoRow.holds Try.pinned (OpenSpec.upto fnExactIsBelowSpec)

end Rows
end Go.Proofs.Ytgkbogcmmedmbaa

/-
  No cell of these rows narrows 'for every input' (looked for: loops, veiled, ifaces, maps, wideKeys, modest, calm, conditions, laid).
  DERIVED. THE GIVEN ROWS OF THIS SEAT. 3 by the template 'for every input the law returns true; each argument reads behind the call as it read before'; 0 by the template 'total and deterministic' (their statements: YteannojgicpbnabTotals.lean).
  GIVEN WITH THE SEED: the statements are not yours to turn. If you find one false, say at which input.
  Laid BY PROGRAM, IN A SANDBOX (cutbox-rows.mjs): the forced cells as the released guide's own fill.sh prints them over the translation a1a54e23054fc745… (all of the seat's roots in one cut). By AI agents, Wed Nov 11 2026. No macro, syntax, notation, axiom, sorry.
-/
import Derived.Test.YteannojgicpbnabChecked
import GoSem.Claim
import GoSem.ClaimJoined
import GoSem.ClaimMapViews
import Derived.JoinedTies
import Derived.KernelRfl
namespace Go.Proofs.Yteannojgicpbnab
/- THE CELL 'sum', in the pinned program and in every row, IS THE sha256 OF THE DUMP (.gsa) THAT YteannojgicpbnabProg.lean LOADS. Nothing in Lean hashes anything: it is a label: what it is worth is what the hold of that sum in a sandbox is worth. -/
noncomputable def Try.pinned : Pinned := { name := "yteannojgicpbnab", sum := "a1a54e23054fc745bd64970f9a283ac1800d40d6468e01fad1fb6981ea27acbb", checked := Try.checked }
namespace Rows
def none {H : Type} : Left H := { results := [], args := [] }

/-- 'laws.FnExactFixedPoints': WHATEVER THE INPUT: true; the input reads as it did. -/
def fnExactFixedPointsSpec : ChangeSpec := { name := "fnExactFixedPoints", fn := fun _ => fun
  | [d] => { results := [.lit (.bool true)], args := [d] }
  | _ => none }
def fnExactFixedPointsRow : OpenClaim := { program := "yteannojgicpbnab", sum := "a1a54e23054fc745bd64970f9a283ac1800d40d6468e01fad1fb6981ea27acbb", func := "loop.example/g01003/laws.FnExactFixedPoints", spec := "fnExactFixedPoints", unfollowed := true, recurses := true, apart := false }
def FnExactFixedPointsSaid : Prop := fnExactFixedPointsRow.holds Try.pinned (OpenSpec.ofChange fnExactFixedPointsSpec)

/-- ITS FALSE NEIGHBOUR: 'it returns false'. Refute it at one input. -/
def fnExactFixedPointsWrong : ChangeSpec := { name := "fnExactFixedPoints", fn := fun _ => fun
  | [d] => { results := [.lit (.bool false)], args := [d] }
  | _ => none }
def FnExactFixedPointsWrongFalsely : Prop := fnExactFixedPointsRow.holds Try.pinned (OpenSpec.ofChange fnExactFixedPointsWrong)

/-- 'laws.FnExactPointsBefore': WHATEVER THE INPUT: true; the input reads as it did. -/
def fnExactPointsBeforeSpec : ChangeSpec := { name := "fnExactPointsBefore", fn := fun _ => fun
  | [d1, d2] => { results := [.lit (.bool true)], args := [d1, d2] }
  | _ => none }
def fnExactPointsBeforeRow : OpenClaim := { program := "yteannojgicpbnab", sum := "a1a54e23054fc745bd64970f9a283ac1800d40d6468e01fad1fb6981ea27acbb", func := "loop.example/g01003/laws.FnExactPointsBefore", spec := "fnExactPointsBefore", unfollowed := true, recurses := true, apart := false }
def FnExactPointsBeforeSaid : Prop := fnExactPointsBeforeRow.holds Try.pinned (OpenSpec.ofChange fnExactPointsBeforeSpec)

/-- ITS FALSE NEIGHBOUR: 'it returns false'. Refute it at one input. -/
def fnExactPointsBeforeWrong : ChangeSpec := { name := "fnExactPointsBefore", fn := fun _ => fun
  | [d1, d2] => { results := [.lit (.bool false)], args := [d1, d2] }
  | _ => none }
def FnExactPointsBeforeWrongFalsely : Prop := fnExactPointsBeforeRow.holds Try.pinned (OpenSpec.ofChange fnExactPointsBeforeWrong)

/-- 'laws.FnExactReflectMap': WHATEVER THE INPUT: true; the input reads as it did. -/
def fnExactReflectMapSpec : ChangeSpec := { name := "fnExactReflectMap", fn := fun _ => fun
  | [d] => { results := [.lit (.bool true)], args := [d] }
  | _ => none }
def fnExactReflectMapRow : OpenClaim := { program := "yteannojgicpbnab", sum := "a1a54e23054fc745bd64970f9a283ac1800d40d6468e01fad1fb6981ea27acbb", func := "loop.example/g01003/laws.FnExactReflectMap", spec := "fnExactReflectMap", unfollowed := true, recurses := true, apart := false }
def FnExactReflectMapSaid : Prop := fnExactReflectMapRow.holds Try.pinned (OpenSpec.ofChange fnExactReflectMapSpec)

/-- ITS FALSE NEIGHBOUR: 'it returns false'. Refute it at one input. -/
def fnExactReflectMapWrong : ChangeSpec := { name := "fnExactReflectMap", fn := fun _ => fun
  | [d] => { results := [.lit (.bool false)], args := [d] }
  | _ => none }
def FnExactReflectMapWrongFalsely : Prop := fnExactReflectMapRow.holds Try.pinned (OpenSpec.ofChange fnExactReflectMapWrong)

/- THE SECOND FORM. 'bulk': how many values and letters a reading holds, each counted each time it is reached (what is shared counts as often as it is met; a slice's spare places count too). A statement '..UptoSaid' is the law's where the arguments, and the package variables that the reading takes, are together of bulk at most 1048576: NARROWER than '..Said'. Prove '..Said' where nothing that the law and all that it calls make is longer than what came in: it says more and counts as full. Else prove '..UptoSaid'. A law counts once. -/
mutual
def uptoBulk {H : Type} : DataW H → Nat
  | .lit (.string bytes) => bytes.length + 1
  | .lit _ => 1
  | .nil => 1
  | .ptr d => uptoBulk d + 1
  | .slice elems spare => uptoBulkAll elems + uptoBulkAll spare + 1
  | .agg parts => uptoBulkAll parts + 1
  | .iface _ d => uptoBulk d + 1
  | .map entries => uptoBulkEntries entries + 1
  | .held _ => 1
def uptoBulkAll {H : Type} : List (DataW H) → Nat
  | [] => 0
  | d :: r => uptoBulk d + uptoBulkAll r
def uptoBulkEntries {H : Type} : List (Lit × DataW H) → Nat
  | [] => 0
  | x :: r => uptoBulkEntry x + uptoBulkEntries r
def uptoBulkEntry {H : Type} : Lit × DataW H → Nat
  | (.string bytes, d) => bytes.length + uptoBulk d + 1
  | (_, d) => uptoBulk d + 1
 end
def uptoSmall : (H : Type) → List (DataW H) → Bool := fun _ ds => decide (uptoBulkAll ds ≤ 1048576)
def OpenSpec.upto (s : _root_.Go.ChangeSpec) : _root_.Go.OpenSpec := { _root_.Go.OpenSpec.ofChange s with cond := some uptoSmall }

/-- 'laws.FnExactFixedPoints', WHERE WHAT IT READS IS OF BULK AT MOST 1048576: true; the input reads as it did. -/
def fnExactFixedPointsUptoRow : OpenClaim := { program := "yteannojgicpbnab", sum := "a1a54e23054fc745bd64970f9a283ac1800d40d6468e01fad1fb6981ea27acbb", func := "loop.example/g01003/laws.FnExactFixedPoints", spec := "fnExactFixedPoints", unfollowed := true, recurses := true, apart := false, narrowed := true }
def FnExactFixedPointsUptoSaid : Prop := fnExactFixedPointsUptoRow.holds Try.pinned (OpenSpec.upto fnExactFixedPointsSpec)

/-- 'laws.FnExactPointsBefore', WHERE WHAT IT READS IS OF BULK AT MOST 1048576: true; the input reads as it did. -/
def fnExactPointsBeforeUptoRow : OpenClaim := { program := "yteannojgicpbnab", sum := "a1a54e23054fc745bd64970f9a283ac1800d40d6468e01fad1fb6981ea27acbb", func := "loop.example/g01003/laws.FnExactPointsBefore", spec := "fnExactPointsBefore", unfollowed := true, recurses := true, apart := false, narrowed := true }
def FnExactPointsBeforeUptoSaid : Prop := fnExactPointsBeforeUptoRow.holds Try.pinned (OpenSpec.upto fnExactPointsBeforeSpec)

/-- 'laws.FnExactReflectMap', WHERE WHAT IT READS IS OF BULK AT MOST 1048576: true; the input reads as it did. -/
def fnExactReflectMapUptoRow : OpenClaim := { program := "yteannojgicpbnab", sum := "a1a54e23054fc745bd64970f9a283ac1800d40d6468e01fad1fb6981ea27acbb", func := "loop.example/g01003/laws.FnExactReflectMap", spec := "fnExactReflectMap", unfollowed := true, recurses := true, apart := false, narrowed := true }
def FnExactReflectMapUptoSaid : Prop := fnExactReflectMapUptoRow.holds Try.pinned (OpenSpec.upto fnExactReflectMapSpec)

end Rows
end Go.Proofs.Yteannojgicpbnab

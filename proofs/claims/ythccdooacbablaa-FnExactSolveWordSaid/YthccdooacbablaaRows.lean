/-
  No cell of these rows narrows 'for every input' (looked for: loops, veiled, ifaces, maps, wideKeys, modest, calm, conditions, laid).
  DERIVED. THE GIVEN ROWS OF THIS SEAT. 9 by the template 'for every input the law returns true; each argument reads behind the call as it read before'; 0 by the template 'total and deterministic' (their statements: YthccdooacbablaaTotals.lean).
  GIVEN WITH THE SEED: the statements are not yours to turn. If you find one false, say at which input.
  Laid BY PROGRAM, IN A SANDBOX (cutbox-rows.mjs): the forced cells as the released guide's own fill.sh prints them over the translation aeae5e5a894cbb97… (all of the seat's roots in one cut). By AI agents, Wed Nov 11 2026. No macro, syntax, notation, axiom, sorry.
-/
import Derived.Test.YthccdooacbablaaChecked
import GoSem.Claim
import GoSem.ClaimJoined
import GoSem.ClaimMapViews
import Derived.JoinedTies
import Derived.KernelRfl
namespace Go.Proofs.Ythccdooacbablaa
/- THE CELL 'sum', in the pinned program and in every row, IS THE sha256 OF THE DUMP (.gsa) THAT YthccdooacbablaaProg.lean LOADS. Nothing in Lean hashes anything: it is a label: what it is worth is what the hold of that sum in a sandbox is worth. -/
noncomputable def Try.pinned : Pinned := { name := "ythccdooacbablaa", sum := "aeae5e5a894cbb97293b156aea2e5801f7e73bfa24a487aa77229fa0c2d4a185", checked := Try.checked }
namespace Rows
def none {H : Type} : Left H := { results := [], args := [] }

/-- 'laws.FnExactLineOfWord': WHATEVER THE INPUT: true; the input reads as it did. -/
def fnExactLineOfWordSpec : ChangeSpec := { name := "fnExactLineOfWord", fn := fun _ => fun
  | [d1, d2] => { results := [.lit (.bool true)], args := [d1, d2] }
  | _ => none }
def fnExactLineOfWordRow : OpenClaim := { program := "ythccdooacbablaa", sum := "aeae5e5a894cbb97293b156aea2e5801f7e73bfa24a487aa77229fa0c2d4a185", func := "loop.example/g01003/laws.FnExactLineOfWord", spec := "fnExactLineOfWord", unfollowed := true, recurses := true, apart := false }
def FnExactLineOfWordSaid : Prop := fnExactLineOfWordRow.holds Try.pinned (OpenSpec.ofChange fnExactLineOfWordSpec)

/-- ITS FALSE NEIGHBOUR: 'it returns false'. Refute it at one input. -/
def fnExactLineOfWordWrong : ChangeSpec := { name := "fnExactLineOfWord", fn := fun _ => fun
  | [d1, d2] => { results := [.lit (.bool false)], args := [d1, d2] }
  | _ => none }
def FnExactLineOfWordWrongFalsely : Prop := fnExactLineOfWordRow.holds Try.pinned (OpenSpec.ofChange fnExactLineOfWordWrong)

/-- 'laws.FnExactSolveWord': WHATEVER THE INPUT: true; the input reads as it did. -/
def fnExactSolveWordSpec : ChangeSpec := { name := "fnExactSolveWord", fn := fun _ => fun
  | [d1, d2] => { results := [.lit (.bool true)], args := [d1, d2] }
  | _ => none }
def fnExactSolveWordRow : OpenClaim := { program := "ythccdooacbablaa", sum := "aeae5e5a894cbb97293b156aea2e5801f7e73bfa24a487aa77229fa0c2d4a185", func := "loop.example/g01003/laws.FnExactSolveWord", spec := "fnExactSolveWord", unfollowed := true, recurses := true, apart := false }
def FnExactSolveWordSaid : Prop := fnExactSolveWordRow.holds Try.pinned (OpenSpec.ofChange fnExactSolveWordSpec)

/-- ITS FALSE NEIGHBOUR: 'it returns false'. Refute it at one input. -/
def fnExactSolveWordWrong : ChangeSpec := { name := "fnExactSolveWord", fn := fun _ => fun
  | [d1, d2] => { results := [.lit (.bool false)], args := [d1, d2] }
  | _ => none }
def FnExactSolveWordWrongFalsely : Prop := fnExactSolveWordRow.holds Try.pinned (OpenSpec.ofChange fnExactSolveWordWrong)

/-- 'laws.FnExactPiecesOf': WHATEVER THE INPUT: true; the input reads as it did. -/
def fnExactPiecesOfSpec : ChangeSpec := { name := "fnExactPiecesOf", fn := fun _ => fun
  | [d1, d2, d3] => { results := [.lit (.bool true)], args := [d1, d2, d3] }
  | _ => none }
def fnExactPiecesOfRow : OpenClaim := { program := "ythccdooacbablaa", sum := "aeae5e5a894cbb97293b156aea2e5801f7e73bfa24a487aa77229fa0c2d4a185", func := "loop.example/g01003/laws.FnExactPiecesOf", spec := "fnExactPiecesOf", unfollowed := true, recurses := true, apart := false }
def FnExactPiecesOfSaid : Prop := fnExactPiecesOfRow.holds Try.pinned (OpenSpec.ofChange fnExactPiecesOfSpec)

/-- ITS FALSE NEIGHBOUR: 'it returns false'. Refute it at one input. -/
def fnExactPiecesOfWrong : ChangeSpec := { name := "fnExactPiecesOf", fn := fun _ => fun
  | [d1, d2, d3] => { results := [.lit (.bool false)], args := [d1, d2, d3] }
  | _ => none }
def FnExactPiecesOfWrongFalsely : Prop := fnExactPiecesOfRow.holds Try.pinned (OpenSpec.ofChange fnExactPiecesOfWrong)

/-- 'laws.FnExactHasIdentity': WHATEVER THE INPUT: true; the input reads as it did. -/
def fnExactHasIdentitySpec : ChangeSpec := { name := "fnExactHasIdentity", fn := fun _ => fun
  | [d1, d2] => { results := [.lit (.bool true)], args := [d1, d2] }
  | _ => none }
def fnExactHasIdentityRow : OpenClaim := { program := "ythccdooacbablaa", sum := "aeae5e5a894cbb97293b156aea2e5801f7e73bfa24a487aa77229fa0c2d4a185", func := "loop.example/g01003/laws.FnExactHasIdentity", spec := "fnExactHasIdentity", unfollowed := true, recurses := true, apart := false }
def FnExactHasIdentitySaid : Prop := fnExactHasIdentityRow.holds Try.pinned (OpenSpec.ofChange fnExactHasIdentitySpec)

/-- ITS FALSE NEIGHBOUR: 'it returns false'. Refute it at one input. -/
def fnExactHasIdentityWrong : ChangeSpec := { name := "fnExactHasIdentity", fn := fun _ => fun
  | [d1, d2] => { results := [.lit (.bool false)], args := [d1, d2] }
  | _ => none }
def FnExactHasIdentityWrongFalsely : Prop := fnExactHasIdentityRow.holds Try.pinned (OpenSpec.ofChange fnExactHasIdentityWrong)

/-- 'laws.FnExactWordMultiplier': WHATEVER THE INPUT: true; the input reads as it did. -/
def fnExactWordMultiplierSpec : ChangeSpec := { name := "fnExactWordMultiplier", fn := fun _ => fun
  | [d1, d2] => { results := [.lit (.bool true)], args := [d1, d2] }
  | _ => none }
def fnExactWordMultiplierRow : OpenClaim := { program := "ythccdooacbablaa", sum := "aeae5e5a894cbb97293b156aea2e5801f7e73bfa24a487aa77229fa0c2d4a185", func := "loop.example/g01003/laws.FnExactWordMultiplier", spec := "fnExactWordMultiplier", unfollowed := true, recurses := true, apart := false }
def FnExactWordMultiplierSaid : Prop := fnExactWordMultiplierRow.holds Try.pinned (OpenSpec.ofChange fnExactWordMultiplierSpec)

/-- ITS FALSE NEIGHBOUR: 'it returns false'. Refute it at one input. -/
def fnExactWordMultiplierWrong : ChangeSpec := { name := "fnExactWordMultiplier", fn := fun _ => fun
  | [d1, d2] => { results := [.lit (.bool false)], args := [d1, d2] }
  | _ => none }
def FnExactWordMultiplierWrongFalsely : Prop := fnExactWordMultiplierRow.holds Try.pinned (OpenSpec.ofChange fnExactWordMultiplierWrong)

/-- 'laws.FnExactIsRepelling': WHATEVER THE INPUT: true; the input reads as it did. -/
def fnExactIsRepellingSpec : ChangeSpec := { name := "fnExactIsRepelling", fn := fun _ => fun
  | [d1, d2, d3] => { results := [.lit (.bool true)], args := [d1, d2, d3] }
  | _ => none }
def fnExactIsRepellingRow : OpenClaim := { program := "ythccdooacbablaa", sum := "aeae5e5a894cbb97293b156aea2e5801f7e73bfa24a487aa77229fa0c2d4a185", func := "loop.example/g01003/laws.FnExactIsRepelling", spec := "fnExactIsRepelling", unfollowed := true, recurses := true, apart := false }
def FnExactIsRepellingSaid : Prop := fnExactIsRepellingRow.holds Try.pinned (OpenSpec.ofChange fnExactIsRepellingSpec)

/-- ITS FALSE NEIGHBOUR: 'it returns false'. Refute it at one input. -/
def fnExactIsRepellingWrong : ChangeSpec := { name := "fnExactIsRepelling", fn := fun _ => fun
  | [d1, d2, d3] => { results := [.lit (.bool false)], args := [d1, d2, d3] }
  | _ => none }
def FnExactIsRepellingWrongFalsely : Prop := fnExactIsRepellingRow.holds Try.pinned (OpenSpec.ofChange fnExactIsRepellingWrong)

/-- 'laws.FnExactCylinderOf': WHATEVER THE INPUT: true; the input reads as it did. -/
def fnExactCylinderOfSpec : ChangeSpec := { name := "fnExactCylinderOf", fn := fun _ => fun
  | [d1, d2] => { results := [.lit (.bool true)], args := [d1, d2] }
  | _ => none }
def fnExactCylinderOfRow : OpenClaim := { program := "ythccdooacbablaa", sum := "aeae5e5a894cbb97293b156aea2e5801f7e73bfa24a487aa77229fa0c2d4a185", func := "loop.example/g01003/laws.FnExactCylinderOf", spec := "fnExactCylinderOf", unfollowed := true, recurses := true, apart := false }
def FnExactCylinderOfSaid : Prop := fnExactCylinderOfRow.holds Try.pinned (OpenSpec.ofChange fnExactCylinderOfSpec)

/-- ITS FALSE NEIGHBOUR: 'it returns false'. Refute it at one input. -/
def fnExactCylinderOfWrong : ChangeSpec := { name := "fnExactCylinderOf", fn := fun _ => fun
  | [d1, d2] => { results := [.lit (.bool false)], args := [d1, d2] }
  | _ => none }
def FnExactCylinderOfWrongFalsely : Prop := fnExactCylinderOfRow.holds Try.pinned (OpenSpec.ofChange fnExactCylinderOfWrong)

/-- 'laws.FnExactAdmissibleWords': WHATEVER THE INPUT: true; the input reads as it did. -/
def fnExactAdmissibleWordsSpec : ChangeSpec := { name := "fnExactAdmissibleWords", fn := fun _ => fun
  | [d1, d2] => { results := [.lit (.bool true)], args := [d1, d2] }
  | _ => none }
def fnExactAdmissibleWordsRow : OpenClaim := { program := "ythccdooacbablaa", sum := "aeae5e5a894cbb97293b156aea2e5801f7e73bfa24a487aa77229fa0c2d4a185", func := "loop.example/g01003/laws.FnExactAdmissibleWords", spec := "fnExactAdmissibleWords", unfollowed := true, recurses := true, apart := false }
def FnExactAdmissibleWordsSaid : Prop := fnExactAdmissibleWordsRow.holds Try.pinned (OpenSpec.ofChange fnExactAdmissibleWordsSpec)

/-- ITS FALSE NEIGHBOUR: 'it returns false'. Refute it at one input. -/
def fnExactAdmissibleWordsWrong : ChangeSpec := { name := "fnExactAdmissibleWords", fn := fun _ => fun
  | [d1, d2] => { results := [.lit (.bool false)], args := [d1, d2] }
  | _ => none }
def FnExactAdmissibleWordsWrongFalsely : Prop := fnExactAdmissibleWordsRow.holds Try.pinned (OpenSpec.ofChange fnExactAdmissibleWordsWrong)

/-- 'laws.FnExactGreatestWord': WHATEVER THE INPUT: true; the input reads as it did. -/
def fnExactGreatestWordSpec : ChangeSpec := { name := "fnExactGreatestWord", fn := fun _ => fun
  | [d1, d2] => { results := [.lit (.bool true)], args := [d1, d2] }
  | _ => none }
def fnExactGreatestWordRow : OpenClaim := { program := "ythccdooacbablaa", sum := "aeae5e5a894cbb97293b156aea2e5801f7e73bfa24a487aa77229fa0c2d4a185", func := "loop.example/g01003/laws.FnExactGreatestWord", spec := "fnExactGreatestWord", unfollowed := true, recurses := true, apart := false }
def FnExactGreatestWordSaid : Prop := fnExactGreatestWordRow.holds Try.pinned (OpenSpec.ofChange fnExactGreatestWordSpec)

/-- ITS FALSE NEIGHBOUR: 'it returns false'. Refute it at one input. -/
def fnExactGreatestWordWrong : ChangeSpec := { name := "fnExactGreatestWord", fn := fun _ => fun
  | [d1, d2] => { results := [.lit (.bool false)], args := [d1, d2] }
  | _ => none }
def FnExactGreatestWordWrongFalsely : Prop := fnExactGreatestWordRow.holds Try.pinned (OpenSpec.ofChange fnExactGreatestWordWrong)

/- THE SECOND FORM. 'bulk': how many values and letters a reading holds, each counted each time it is reached (what is shared counts as often as it is met; a slice's spare places count too). A statement '..UptoSaid' is the law's where the arguments, and the package variables that the reading takes, are together of bulk at most 1048576: NARROWER than '..Said'. Prove '..Said' where nothing that the law and all that it calls make is longer than what came in: it says more and counts as full. Else prove '..UptoSaid'. A law counts once. -/
mutual
def uptoBulk {H : Type} : DataW H → Nat
  | .lit (.string bytes) => bytes.length + 1
  | .lit _ => 1
  | .nil => 1
  | .ptr d => uptoBulk d + 1
  | .slice elems spare => uptoBulkAll elems + uptoBulkAll spare + 1
  | .agg parts => uptoBulkAll parts + 1
  | .iface _ d => uptoBulk d + 1
  | .map entries => uptoBulkEntries entries + 1
  | .held _ => 1
def uptoBulkAll {H : Type} : List (DataW H) → Nat
  | [] => 0
  | d :: r => uptoBulk d + uptoBulkAll r
def uptoBulkEntries {H : Type} : List (Lit × DataW H) → Nat
  | [] => 0
  | x :: r => uptoBulkEntry x + uptoBulkEntries r
def uptoBulkEntry {H : Type} : Lit × DataW H → Nat
  | (.string bytes, d) => bytes.length + uptoBulk d + 1
  | (_, d) => uptoBulk d + 1
 end
def uptoSmall : (H : Type) → List (DataW H) → Bool := fun _ ds => decide (uptoBulkAll ds ≤ 1048576)
def OpenSpec.upto (s : _root_.Go.ChangeSpec) : _root_.Go.OpenSpec := { _root_.Go.OpenSpec.ofChange s with cond := some uptoSmall }

/-- 'laws.FnExactLineOfWord', WHERE WHAT IT READS IS OF BULK AT MOST 1048576: true; the input reads as it did. -/
def fnExactLineOfWordUptoRow : OpenClaim := { program := "ythccdooacbablaa", sum := "aeae5e5a894cbb97293b156aea2e5801f7e73bfa24a487aa77229fa0c2d4a185", func := "loop.example/g01003/laws.FnExactLineOfWord", spec := "fnExactLineOfWord", unfollowed := true, recurses := true, apart := false, narrowed := true }
def FnExactLineOfWordUptoSaid : Prop := fnExactLineOfWordUptoRow.holds Try.pinned (OpenSpec.upto fnExactLineOfWordSpec)

/-- 'laws.FnExactSolveWord', WHERE WHAT IT READS IS OF BULK AT MOST 1048576: true; the input reads as it did. -/
def fnExactSolveWordUptoRow : OpenClaim := { program := "ythccdooacbablaa", sum := "aeae5e5a894cbb97293b156aea2e5801f7e73bfa24a487aa77229fa0c2d4a185", func := "loop.example/g01003/laws.FnExactSolveWord", spec := "fnExactSolveWord", unfollowed := true, recurses := true, apart := false, narrowed := true }
def FnExactSolveWordUptoSaid : Prop := fnExactSolveWordUptoRow.holds Try.pinned (OpenSpec.upto fnExactSolveWordSpec)

/-- 'laws.FnExactPiecesOf', WHERE WHAT IT READS IS OF BULK AT MOST 1048576: true; the input reads as it did. -/
def fnExactPiecesOfUptoRow : OpenClaim := { program := "ythccdooacbablaa", sum := "aeae5e5a894cbb97293b156aea2e5801f7e73bfa24a487aa77229fa0c2d4a185", func := "loop.example/g01003/laws.FnExactPiecesOf", spec := "fnExactPiecesOf", unfollowed := true, recurses := true, apart := false, narrowed := true }
def FnExactPiecesOfUptoSaid : Prop := fnExactPiecesOfUptoRow.holds Try.pinned (OpenSpec.upto fnExactPiecesOfSpec)

/-- 'laws.FnExactHasIdentity', WHERE WHAT IT READS IS OF BULK AT MOST 1048576: true; the input reads as it did. -/
def fnExactHasIdentityUptoRow : OpenClaim := { program := "ythccdooacbablaa", sum := "aeae5e5a894cbb97293b156aea2e5801f7e73bfa24a487aa77229fa0c2d4a185", func := "loop.example/g01003/laws.FnExactHasIdentity", spec := "fnExactHasIdentity", unfollowed := true, recurses := true, apart := false, narrowed := true }
def FnExactHasIdentityUptoSaid : Prop := fnExactHasIdentityUptoRow.holds Try.pinned (OpenSpec.upto fnExactHasIdentitySpec)

/-- 'laws.FnExactWordMultiplier', WHERE WHAT IT READS IS OF BULK AT MOST 1048576: true; the input reads as it did. -/
def fnExactWordMultiplierUptoRow : OpenClaim := { program := "ythccdooacbablaa", sum := "aeae5e5a894cbb97293b156aea2e5801f7e73bfa24a487aa77229fa0c2d4a185", func := "loop.example/g01003/laws.FnExactWordMultiplier", spec := "fnExactWordMultiplier", unfollowed := true, recurses := true, apart := false, narrowed := true }
def FnExactWordMultiplierUptoSaid : Prop := fnExactWordMultiplierUptoRow.holds Try.pinned (OpenSpec.upto fnExactWordMultiplierSpec)

/-- 'laws.FnExactIsRepelling', WHERE WHAT IT READS IS OF BULK AT MOST 1048576: true; the input reads as it did. -/
def fnExactIsRepellingUptoRow : OpenClaim := { program := "ythccdooacbablaa", sum := "aeae5e5a894cbb97293b156aea2e5801f7e73bfa24a487aa77229fa0c2d4a185", func := "loop.example/g01003/laws.FnExactIsRepelling", spec := "fnExactIsRepelling", unfollowed := true, recurses := true, apart := false, narrowed := true }
def FnExactIsRepellingUptoSaid : Prop := fnExactIsRepellingUptoRow.holds Try.pinned (OpenSpec.upto fnExactIsRepellingSpec)

/-- 'laws.FnExactCylinderOf', WHERE WHAT IT READS IS OF BULK AT MOST 1048576: true; the input reads as it did. -/
def fnExactCylinderOfUptoRow : OpenClaim := { program := "ythccdooacbablaa", sum := "aeae5e5a894cbb97293b156aea2e5801f7e73bfa24a487aa77229fa0c2d4a185", func := "loop.example/g01003/laws.FnExactCylinderOf", spec := "fnExactCylinderOf", unfollowed := true, recurses := true, apart := false, narrowed := true }
def FnExactCylinderOfUptoSaid : Prop := fnExactCylinderOfUptoRow.holds Try.pinned (OpenSpec.upto fnExactCylinderOfSpec)

/-- 'laws.FnExactAdmissibleWords', WHERE WHAT IT READS IS OF BULK AT MOST 1048576: true; the input reads as it did. -/
def fnExactAdmissibleWordsUptoRow : OpenClaim := { program := "ythccdooacbablaa", sum := "aeae5e5a894cbb97293b156aea2e5801f7e73bfa24a487aa77229fa0c2d4a185", func := "loop.example/g01003/laws.FnExactAdmissibleWords", spec := "fnExactAdmissibleWords", unfollowed := true, recurses := true, apart := false, narrowed := true }
def FnExactAdmissibleWordsUptoSaid : Prop := fnExactAdmissibleWordsUptoRow.holds Try.pinned (OpenSpec.upto fnExactAdmissibleWordsSpec)

/-- 'laws.FnExactGreatestWord', WHERE WHAT IT READS IS OF BULK AT MOST 1048576: true; the input reads as it did. -/
def fnExactGreatestWordUptoRow : OpenClaim := { program := "ythccdooacbablaa", sum := "aeae5e5a894cbb97293b156aea2e5801f7e73bfa24a487aa77229fa0c2d4a185", func := "loop.example/g01003/laws.FnExactGreatestWord", spec := "fnExactGreatestWord", unfollowed := true, recurses := true, apart := false, narrowed := true }
def FnExactGreatestWordUptoSaid : Prop := fnExactGreatestWordUptoRow.holds Try.pinned (OpenSpec.upto fnExactGreatestWordSpec)

end Rows
end Go.Proofs.Ythccdooacbablaa

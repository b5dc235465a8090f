/-
  DERIVED. GIVEN WITH THE SEED: THE CARDS: each row of YtafcdlojlfnjbaaDoorRows.lean that lists a variable, with what it lists TIED to the program's text (the seventh form; the later family's looks); each row that meets fmt, with fmt's text TOLD by the authors' own Lean function (tested against real Go, not proved from fmt's source: count such statements apart). THE CARD IS WHAT COUNTS. Prove the row's statement (the work); the ties are given (YtafcdlojlfnjbaaDoorTie.lean); close each card by the builder's one call (the guide's Derived/Test/ToyasCard.lean, 'card_holds'). Laid BY PROGRAM, IN A SANDBOX (cutbox-door.mjs). By AI agents, Wed Nov 11 2026. No macro, syntax, notation, axiom, sorry.
-/
import Derived.Test.YtafcdlojlfnjbaaDoorRows
import GoSem.ClaimSeven
namespace Go.Proofs.YtafcdlojlfnjbaaDoor
namespace Rows

/-- THE TIED CARD OF 'laws.FnExactEnvironmentText'. -/
def fnExactEnvironmentTextCard : Claim7 := { stood := { row := fnExactEnvironmentTextRow, standIns := [], harness := (true, "b3a842729289e210f57cf220553cf60caac3b0a03038b1da8ae1e97f73548931"), looks := false }, kinds := [], alts := [], laidByText := true, laidKinds := [.data, .data, .data], laidTests := true, laidLooks := .later }
def FnExactEnvironmentTextCardSaid : Prop := Claim7.holds Tryd.pinned (.plain (OpenSpec.ofChange fnExactEnvironmentTextSpec)) fnExactEnvironmentTextCard

/-- THE SECOND FORM's CARD OF 'laws.FnExactEnvironmentText'. -/
def fnExactEnvironmentTextUptoCard : Claim7 := { stood := { row := fnExactEnvironmentTextUptoRow, standIns := [], harness := (true, "b3a842729289e210f57cf220553cf60caac3b0a03038b1da8ae1e97f73548931"), looks := false }, kinds := [], alts := [], laidByText := true, laidKinds := [.data, .data, .data], laidTests := true, laidLooks := .later }
def FnExactEnvironmentTextUptoCardSaid : Prop := Claim7.holds Tryd.pinned (.plain (OpenSpec.upto fnExactEnvironmentTextSpec)) fnExactEnvironmentTextUptoCard
end Rows
end Go.Proofs.YtafcdlojlfnjbaaDoor

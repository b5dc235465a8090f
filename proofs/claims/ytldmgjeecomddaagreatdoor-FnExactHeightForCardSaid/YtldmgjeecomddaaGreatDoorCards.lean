/-
  DERIVED. GIVEN WITH THE SEED: THE CARDS: each row of YtldmgjeecomddaaGreatDoorRows.lean that lists a variable, with what it lists TIED to the program's text (the seventh form; the later family's looks); each row that meets fmt, with fmt's text TOLD by the authors' own Lean function (tested against real Go, not proved from fmt's source: count such statements apart). THE CARD IS WHAT COUNTS. Prove the row's statement (the work); the ties are given (YtldmgjeecomddaaGreatDoorTie.lean); close each card by the builder's one call (the guide's Derived/Test/ToyasCard.lean, 'card_holds'). Laid BY PROGRAM, IN A SANDBOX (cutbox-door.mjs). By AI agents, Wed Nov 11 2026. No macro, syntax, notation, axiom, sorry.
-/
import Derived.Test.YtldmgjeecomddaaGreatDoorRows
import GoSem.ClaimSeven
namespace Go.Proofs.YtldmgjeecomddaaGreatDoor
namespace Rows

/-- THE TIED CARD OF 'laws.FnExactHeightFor'. -/
def fnExactHeightForCard : Claim7 := { stood := { row := fnExactHeightForRow, standIns := [], harness := (true, "fbf0da7e42b6f0c0d9f37a481f5ccb0a46263fcd1087cb649041a7824d263af8"), looks := false }, kinds := [], alts := [], laidByText := true, laidKinds := [.data, .pinned], laidTests := true, laidLooks := .later }
def FnExactHeightForCardSaid : Prop := Claim7.holds Tryz.pinned (.plain (OpenSpec.ofChange fnExactHeightForSpec)) fnExactHeightForCard

/-- THE SECOND FORM's CARD OF 'laws.FnExactHeightFor'. -/
def fnExactHeightForUptoCard : Claim7 := { stood := { row := fnExactHeightForUptoRow, standIns := [], harness := (true, "fbf0da7e42b6f0c0d9f37a481f5ccb0a46263fcd1087cb649041a7824d263af8"), looks := false }, kinds := [], alts := [], laidByText := true, laidKinds := [.data, .pinned], laidTests := true, laidLooks := .later }
def FnExactHeightForUptoCardSaid : Prop := Claim7.holds Tryz.pinned (.plain (OpenSpec.upto fnExactHeightForSpec)) fnExactHeightForUptoCard
end Rows
end Go.Proofs.YtldmgjeecomddaaGreatDoor

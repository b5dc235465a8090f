/-
  DERIVED. GIVEN WITH THE SEED: THE CARDS: each row of YteannojgicpbnabDoorRows.lean that lists a variable, with what it lists TIED to the program's text (the seventh form; the later family's looks); each row that meets fmt, with fmt's text TOLD by the authors' own Lean function (tested against real Go, not proved from fmt's source: count such statements apart). THE CARD IS WHAT COUNTS. Prove the row's statement (the work); the ties are given (YteannojgicpbnabDoorTie.lean); close each card by the builder's one call (the guide's Derived/Test/ToyasCard.lean, 'card_holds'). Laid BY PROGRAM, IN A SANDBOX (cutbox-door.mjs). By AI agents, Wed Nov 11 2026. No macro, syntax, notation, axiom, sorry.
-/
import Derived.Test.YteannojgicpbnabDoorRows
import GoSem.ClaimSeven
namespace Go.Proofs.YteannojgicpbnabDoor
namespace Rows

/-- THE TIED CARD OF 'laws.FnExactMapText'. -/
def fnExactMapTextCard : Claim7 := { stood := { row := fnExactMapTextRow, standIns := [], harness := (true, "6dc1e250fdcc499f05aaab29ce227237f7b941c144c91a3e7425a1d0f1b7858d"), looks := false }, kinds := [], alts := [], laidByText := true, laidKinds := [.data, .data, .data], laidTests := true, laidLooks := .later }
def FnExactMapTextCardSaid : Prop := Claim7.holds Tryd.pinned (.plain (OpenSpec.ofChange fnExactMapTextSpec)) fnExactMapTextCard

/-- THE TIED CARD OF 'laws.FnExactParseMap'. -/
def fnExactParseMapCard : Claim7 := { stood := { row := fnExactParseMapRow, standIns := [], harness := (true, "6dc1e250fdcc499f05aaab29ce227237f7b941c144c91a3e7425a1d0f1b7858d"), looks := false }, kinds := [], alts := [], laidByText := true, laidKinds := [.data, .data, .data], laidTests := true, laidLooks := .later }
def FnExactParseMapCardSaid : Prop := Claim7.holds Tryd.pinned (.plain (OpenSpec.ofChange fnExactParseMapSpec)) fnExactParseMapCard

/-- THE SECOND FORM's CARD OF 'laws.FnExactMapText'. -/
def fnExactMapTextUptoCard : Claim7 := { stood := { row := fnExactMapTextUptoRow, standIns := [], harness := (true, "6dc1e250fdcc499f05aaab29ce227237f7b941c144c91a3e7425a1d0f1b7858d"), looks := false }, kinds := [], alts := [], laidByText := true, laidKinds := [.data, .data, .data], laidTests := true, laidLooks := .later }
def FnExactMapTextUptoCardSaid : Prop := Claim7.holds Tryd.pinned (.plain (OpenSpec.upto fnExactMapTextSpec)) fnExactMapTextUptoCard

/-- THE SECOND FORM's CARD OF 'laws.FnExactParseMap'. -/
def fnExactParseMapUptoCard : Claim7 := { stood := { row := fnExactParseMapUptoRow, standIns := [], harness := (true, "6dc1e250fdcc499f05aaab29ce227237f7b941c144c91a3e7425a1d0f1b7858d"), looks := false }, kinds := [], alts := [], laidByText := true, laidKinds := [.data, .data, .data], laidTests := true, laidLooks := .later }
def FnExactParseMapUptoCardSaid : Prop := Claim7.holds Tryd.pinned (.plain (OpenSpec.upto fnExactParseMapSpec)) fnExactParseMapUptoCard
end Rows
end Go.Proofs.YteannojgicpbnabDoor

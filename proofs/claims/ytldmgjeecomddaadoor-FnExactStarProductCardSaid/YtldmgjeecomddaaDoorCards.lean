/-
  DERIVED. GIVEN WITH THE SEED: THE CARDS: each row of YtldmgjeecomddaaDoorRows.lean that lists a variable, with what it lists TIED to the program's text (the seventh form; the later family's looks); each row that meets fmt, with fmt's text TOLD by the authors' own Lean function (tested against real Go, not proved from fmt's source: count such statements apart). THE CARD IS WHAT COUNTS. Prove the row's statement (the work); the ties are given (YtldmgjeecomddaaDoorTie.lean); close each card by the builder's one call (the guide's Derived/Test/ToyasCard.lean, 'card_holds'). Laid BY PROGRAM, IN A SANDBOX (cutbox-door.mjs). By AI agents, Wed Nov 11 2026. No macro, syntax, notation, axiom, sorry.
-/
import Derived.Test.YtldmgjeecomddaaDoorRows
import GoSem.ClaimSeven
namespace Go.Proofs.YtldmgjeecomddaaDoor
namespace Rows

/-- THE TIED CARD OF 'laws.FnExactIsKneadingWord'. -/
def fnExactIsKneadingWordCard : Claim7 := { stood := { row := fnExactIsKneadingWordRow, standIns := [], harness := (true, "304067eea61031c2a366f5882998a883405cb20b44471eb12a1816cbe2f30114"), looks := false }, kinds := [], alts := [], laidByText := true, laidKinds := [.data, .pinned], laidTests := true, laidLooks := .later }
def FnExactIsKneadingWordCardSaid : Prop := Claim7.holds Tryd.pinned (.plain (OpenSpec.ofChange fnExactIsKneadingWordSpec)) fnExactIsKneadingWordCard

/-- THE TIED CARD OF 'laws.FnExactCompareKneading'. -/
def fnExactCompareKneadingCard : Claim7 := { stood := { row := fnExactCompareKneadingRow, standIns := [], harness := (true, "304067eea61031c2a366f5882998a883405cb20b44471eb12a1816cbe2f30114"), looks := false }, kinds := [], alts := [], laidByText := true, laidKinds := [.data, .pinned], laidTests := true, laidLooks := .later }
def FnExactCompareKneadingCardSaid : Prop := Claim7.holds Tryd.pinned (.plain (OpenSpec.ofChange fnExactCompareKneadingSpec)) fnExactCompareKneadingCard

/-- THE TIED CARD OF 'laws.FnExactIsMaximalWord'. -/
def fnExactIsMaximalWordCard : Claim7 := { stood := { row := fnExactIsMaximalWordRow, standIns := [], harness := (true, "304067eea61031c2a366f5882998a883405cb20b44471eb12a1816cbe2f30114"), looks := false }, kinds := [], alts := [], laidByText := true, laidKinds := [.data, .pinned], laidTests := true, laidLooks := .later }
def FnExactIsMaximalWordCardSaid : Prop := Claim7.holds Tryd.pinned (.plain (OpenSpec.ofChange fnExactIsMaximalWordSpec)) fnExactIsMaximalWordCard

/-- THE TIED CARD OF 'laws.FnExactMaximalWords'. -/
def fnExactMaximalWordsCard : Claim7 := { stood := { row := fnExactMaximalWordsRow, standIns := [], harness := (true, "304067eea61031c2a366f5882998a883405cb20b44471eb12a1816cbe2f30114"), looks := false }, kinds := [], alts := [], laidByText := true, laidKinds := [.data, .pinned], laidTests := true, laidLooks := .later }
def FnExactMaximalWordsCardSaid : Prop := Claim7.holds Tryd.pinned (.plain (OpenSpec.ofChange fnExactMaximalWordsSpec)) fnExactMaximalWordsCard

/-- THE TIED CARD OF 'laws.FnExactStarProduct'. -/
def fnExactStarProductCard : Claim7 := { stood := { row := fnExactStarProductRow, standIns := [], harness := (true, "304067eea61031c2a366f5882998a883405cb20b44471eb12a1816cbe2f30114"), looks := false }, kinds := [], alts := [], laidByText := true, laidKinds := [.data, .pinned], laidTests := true, laidLooks := .later }
def FnExactStarProductCardSaid : Prop := Claim7.holds Tryd.pinned (.plain (OpenSpec.ofChange fnExactStarProductSpec)) fnExactStarProductCard

/-- THE TIED CARD OF 'laws.FnExactSwapLast'. -/
def fnExactSwapLastCard : Claim7 := { stood := { row := fnExactSwapLastRow, standIns := [], harness := (true, "304067eea61031c2a366f5882998a883405cb20b44471eb12a1816cbe2f30114"), looks := false }, kinds := [], alts := [], laidByText := true, laidKinds := [.data, .pinned], laidTests := true, laidLooks := .later }
def FnExactSwapLastCardSaid : Prop := Claim7.holds Tryd.pinned (.plain (OpenSpec.ofChange fnExactSwapLastSpec)) fnExactSwapLastCard

/-- THE SECOND FORM's CARD OF 'laws.FnExactIsKneadingWord'. -/
def fnExactIsKneadingWordUptoCard : Claim7 := { stood := { row := fnExactIsKneadingWordUptoRow, standIns := [], harness := (true, "304067eea61031c2a366f5882998a883405cb20b44471eb12a1816cbe2f30114"), looks := false }, kinds := [], alts := [], laidByText := true, laidKinds := [.data, .pinned], laidTests := true, laidLooks := .later }
def FnExactIsKneadingWordUptoCardSaid : Prop := Claim7.holds Tryd.pinned (.plain (OpenSpec.upto fnExactIsKneadingWordSpec)) fnExactIsKneadingWordUptoCard

/-- THE SECOND FORM's CARD OF 'laws.FnExactCompareKneading'. -/
def fnExactCompareKneadingUptoCard : Claim7 := { stood := { row := fnExactCompareKneadingUptoRow, standIns := [], harness := (true, "304067eea61031c2a366f5882998a883405cb20b44471eb12a1816cbe2f30114"), looks := false }, kinds := [], alts := [], laidByText := true, laidKinds := [.data, .pinned], laidTests := true, laidLooks := .later }
def FnExactCompareKneadingUptoCardSaid : Prop := Claim7.holds Tryd.pinned (.plain (OpenSpec.upto fnExactCompareKneadingSpec)) fnExactCompareKneadingUptoCard

/-- THE SECOND FORM's CARD OF 'laws.FnExactIsMaximalWord'. -/
def fnExactIsMaximalWordUptoCard : Claim7 := { stood := { row := fnExactIsMaximalWordUptoRow, standIns := [], harness := (true, "304067eea61031c2a366f5882998a883405cb20b44471eb12a1816cbe2f30114"), looks := false }, kinds := [], alts := [], laidByText := true, laidKinds := [.data, .pinned], laidTests := true, laidLooks := .later }
def FnExactIsMaximalWordUptoCardSaid : Prop := Claim7.holds Tryd.pinned (.plain (OpenSpec.upto fnExactIsMaximalWordSpec)) fnExactIsMaximalWordUptoCard

/-- THE SECOND FORM's CARD OF 'laws.FnExactMaximalWords'. -/
def fnExactMaximalWordsUptoCard : Claim7 := { stood := { row := fnExactMaximalWordsUptoRow, standIns := [], harness := (true, "304067eea61031c2a366f5882998a883405cb20b44471eb12a1816cbe2f30114"), looks := false }, kinds := [], alts := [], laidByText := true, laidKinds := [.data, .pinned], laidTests := true, laidLooks := .later }
def FnExactMaximalWordsUptoCardSaid : Prop := Claim7.holds Tryd.pinned (.plain (OpenSpec.upto fnExactMaximalWordsSpec)) fnExactMaximalWordsUptoCard

/-- THE SECOND FORM's CARD OF 'laws.FnExactStarProduct'. -/
def fnExactStarProductUptoCard : Claim7 := { stood := { row := fnExactStarProductUptoRow, standIns := [], harness := (true, "304067eea61031c2a366f5882998a883405cb20b44471eb12a1816cbe2f30114"), looks := false }, kinds := [], alts := [], laidByText := true, laidKinds := [.data, .pinned], laidTests := true, laidLooks := .later }
def FnExactStarProductUptoCardSaid : Prop := Claim7.holds Tryd.pinned (.plain (OpenSpec.upto fnExactStarProductSpec)) fnExactStarProductUptoCard

/-- THE SECOND FORM's CARD OF 'laws.FnExactSwapLast'. -/
def fnExactSwapLastUptoCard : Claim7 := { stood := { row := fnExactSwapLastUptoRow, standIns := [], harness := (true, "304067eea61031c2a366f5882998a883405cb20b44471eb12a1816cbe2f30114"), looks := false }, kinds := [], alts := [], laidByText := true, laidKinds := [.data, .pinned], laidTests := true, laidLooks := .later }
def FnExactSwapLastUptoCardSaid : Prop := Claim7.holds Tryd.pinned (.plain (OpenSpec.upto fnExactSwapLastSpec)) fnExactSwapLastUptoCard
end Rows
end Go.Proofs.YtldmgjeecomddaaDoor

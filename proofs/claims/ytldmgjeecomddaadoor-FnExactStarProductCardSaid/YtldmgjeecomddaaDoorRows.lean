/-
  NARROWER THAN 'FOR EVERY INPUT', by the rows' own cells (each row's printed sentence says how): FnExactIsKneadingWord: laid · FnExactCompareKneading: laid · FnExactIsMaximalWord: laid · FnExactMaximalWords: laid · FnExactStarProduct: laid · FnExactSwapLast: laid.
  DERIVED. THE GIVEN ROWS OF THIS SEAT. 6 by the template 'for every input the law returns true; each argument reads behind the call as it read before'; 0 by the template 'total and deterministic' (their statements: YtldmgjeecomddaaDoorTotals.lean).
  GIVEN WITH THE SEED: the statements are not yours to turn. If you find one false, say at which input.
  Laid BY PROGRAM, IN A SANDBOX (cutbox-rows.mjs): the forced cells as the released guide's own fill.sh prints them over the translation 026188d18f67e6e3… (all of the seat's roots in one cut). By AI agents, Wed Nov 11 2026. No macro, syntax, notation, axiom, sorry.
-/
import Derived.Test.YtldmgjeecomddaaDoorChecked
import GoSem.PinnedTables
import GoSem.Claim
import GoSem.ClaimJoined
import GoSem.ClaimMapViews
import Derived.JoinedTies
import Derived.KernelRfl
namespace Go.Proofs.YtldmgjeecomddaaDoor
/- THE CELL 'sum', in the pinned program and in every row, IS THE sha256 OF THE DUMP (.gsa) THAT YtldmgjeecomddaaDoorProg.lean LOADS. Nothing in Lean hashes anything: it is a label: what it is worth is what the hold of that sum in a sandbox is worth. -/
noncomputable def Tryd.pinned : Pinned := { name := "ytldmgjeecomddaadoor", sum := "026188d18f67e6e327539671d6f33e4f0e1ef9a9da8199617375ab06efaba302", checked := Tryd.checked }
namespace Rows
def none {H : Type} : Left H := { results := [], args := [] }

/- WHAT THE LISTED PACKAGE-LEVEL VARIABLES READ AS WHEN THE CALL BEGINS. Each datum BY PROGRAM (the guide's laid-datum.mjs) off the statement by which the dump's own 'gosem.cut.vars' lays the variable. In a bare row this is a premise. The card (YtldmgjeecomddaaDoorCards.lean) ties it to the program's text. -/
def laid_unicode_utf8_acceptRanges {H : Type} : DataW H := .agg [.agg [.lit (.int .u8 128), .lit (.int .u8 191)], .agg [.lit (.int .u8 160), .lit (.int .u8 191)], .agg [.lit (.int .u8 128), .lit (.int .u8 159)], .agg [.lit (.int .u8 144), .lit (.int .u8 191)], .agg [.lit (.int .u8 128), .lit (.int .u8 143)], .agg [.lit (.int .u8 0), .lit (.int .u8 0)], .agg [.lit (.int .u8 0), .lit (.int .u8 0)], .agg [.lit (.int .u8 0), .lit (.int .u8 0)], .agg [.lit (.int .u8 0), .lit (.int .u8 0)], .agg [.lit (.int .u8 0), .lit (.int .u8 0)], .agg [.lit (.int .u8 0), .lit (.int .u8 0)], .agg [.lit (.int .u8 0), .lit (.int .u8 0)], .agg [.lit (.int .u8 0), .lit (.int .u8 0)], .agg [.lit (.int .u8 0), .lit (.int .u8 0)], .agg [.lit (.int .u8 0), .lit (.int .u8 0)], .agg [.lit (.int .u8 0), .lit (.int .u8 0)]]
/-- One of Go's own tables, pinned by name: the form's constant. -/
def laid_unicode_utf8_first : DataW Unit := Go.Pinned.utf8First

/-- 'laws.FnExactIsKneadingWord': WHATEVER THE INPUT: true; the input reads as it did. -/
def fnExactIsKneadingWordSpec : ChangeSpec := { name := "fnExactIsKneadingWord", fn := fun _ => fun
  | [d] => { results := [.lit (.bool true)], args := [d] }
  | _ => none }
def fnExactIsKneadingWordRow : OpenClaim := { program := "ytldmgjeecomddaadoor", sum := "026188d18f67e6e327539671d6f33e4f0e1ef9a9da8199617375ab06efaba302", func := "loop.example/g01003/laws.FnExactIsKneadingWord", spec := "fnExactIsKneadingWord", inPlace := ["internal/bytealg.IndexByteString", "internal/bytealg.IndexString"], named := ["unicode/utf8.first", "unicode/utf8.acceptRanges", "internal/bytealg.MaxLen"], apart := false, laid := [("unicode/utf8.acceptRanges", laid_unicode_utf8_acceptRanges), ("unicode/utf8.first", laid_unicode_utf8_first)] }
def FnExactIsKneadingWordSaid : Prop := fnExactIsKneadingWordRow.holds Tryd.pinned (OpenSpec.ofChange fnExactIsKneadingWordSpec)

/-- ITS FALSE NEIGHBOUR: 'it returns false'. Refute it at one input. -/
def fnExactIsKneadingWordWrong : ChangeSpec := { name := "fnExactIsKneadingWord", fn := fun _ => fun
  | [d] => { results := [.lit (.bool false)], args := [d] }
  | _ => none }
def FnExactIsKneadingWordWrongFalsely : Prop := fnExactIsKneadingWordRow.holds Tryd.pinned (OpenSpec.ofChange fnExactIsKneadingWordWrong)

/-- 'laws.FnExactCompareKneading': WHATEVER THE INPUT: true; the input reads as it did. -/
def fnExactCompareKneadingSpec : ChangeSpec := { name := "fnExactCompareKneading", fn := fun _ => fun
  | [d1, d2] => { results := [.lit (.bool true)], args := [d1, d2] }
  | _ => none }
def fnExactCompareKneadingRow : OpenClaim := { program := "ytldmgjeecomddaadoor", sum := "026188d18f67e6e327539671d6f33e4f0e1ef9a9da8199617375ab06efaba302", func := "loop.example/g01003/laws.FnExactCompareKneading", spec := "fnExactCompareKneading", inPlace := ["internal/bytealg.IndexByteString", "internal/bytealg.IndexString", "internal/bytealg.CountString"], named := ["unicode/utf8.first", "unicode/utf8.acceptRanges", "internal/bytealg.MaxLen"], apart := false, laid := [("unicode/utf8.acceptRanges", laid_unicode_utf8_acceptRanges), ("unicode/utf8.first", laid_unicode_utf8_first)] }
def FnExactCompareKneadingSaid : Prop := fnExactCompareKneadingRow.holds Tryd.pinned (OpenSpec.ofChange fnExactCompareKneadingSpec)

/-- ITS FALSE NEIGHBOUR: 'it returns false'. Refute it at one input. -/
def fnExactCompareKneadingWrong : ChangeSpec := { name := "fnExactCompareKneading", fn := fun _ => fun
  | [d1, d2] => { results := [.lit (.bool false)], args := [d1, d2] }
  | _ => none }
def FnExactCompareKneadingWrongFalsely : Prop := fnExactCompareKneadingRow.holds Tryd.pinned (OpenSpec.ofChange fnExactCompareKneadingWrong)

/-- 'laws.FnExactIsMaximalWord': WHATEVER THE INPUT: true; the input reads as it did. -/
def fnExactIsMaximalWordSpec : ChangeSpec := { name := "fnExactIsMaximalWord", fn := fun _ => fun
  | [d] => { results := [.lit (.bool true)], args := [d] }
  | _ => none }
def fnExactIsMaximalWordRow : OpenClaim := { program := "ytldmgjeecomddaadoor", sum := "026188d18f67e6e327539671d6f33e4f0e1ef9a9da8199617375ab06efaba302", func := "loop.example/g01003/laws.FnExactIsMaximalWord", spec := "fnExactIsMaximalWord", inPlace := ["internal/bytealg.IndexByteString", "internal/bytealg.IndexString", "internal/bytealg.CountString"], named := ["unicode/utf8.first", "unicode/utf8.acceptRanges", "internal/bytealg.MaxLen"], apart := false, laid := [("unicode/utf8.acceptRanges", laid_unicode_utf8_acceptRanges), ("unicode/utf8.first", laid_unicode_utf8_first)] }
def FnExactIsMaximalWordSaid : Prop := fnExactIsMaximalWordRow.holds Tryd.pinned (OpenSpec.ofChange fnExactIsMaximalWordSpec)

/-- ITS FALSE NEIGHBOUR: 'it returns false'. Refute it at one input. -/
def fnExactIsMaximalWordWrong : ChangeSpec := { name := "fnExactIsMaximalWord", fn := fun _ => fun
  | [d] => { results := [.lit (.bool false)], args := [d] }
  | _ => none }
def FnExactIsMaximalWordWrongFalsely : Prop := fnExactIsMaximalWordRow.holds Tryd.pinned (OpenSpec.ofChange fnExactIsMaximalWordWrong)

/-- 'laws.FnExactMaximalWords': WHATEVER THE INPUT: true; the input reads as it did. -/
def fnExactMaximalWordsSpec : ChangeSpec := { name := "fnExactMaximalWords", fn := fun _ => fun
  | [d] => { results := [.lit (.bool true)], args := [d] }
  | _ => none }
def fnExactMaximalWordsRow : OpenClaim := { program := "ytldmgjeecomddaadoor", sum := "026188d18f67e6e327539671d6f33e4f0e1ef9a9da8199617375ab06efaba302", func := "loop.example/g01003/laws.FnExactMaximalWords", spec := "fnExactMaximalWords", inPlace := ["internal/bytealg.IndexByteString", "internal/bytealg.IndexString", "internal/bytealg.CountString"], unfollowed := true, recurses := true, named := ["unicode/utf8.first", "unicode/utf8.acceptRanges", "internal/bytealg.MaxLen"], apart := false, laid := [("unicode/utf8.acceptRanges", laid_unicode_utf8_acceptRanges), ("unicode/utf8.first", laid_unicode_utf8_first)] }
def FnExactMaximalWordsSaid : Prop := fnExactMaximalWordsRow.holds Tryd.pinned (OpenSpec.ofChange fnExactMaximalWordsSpec)

/-- ITS FALSE NEIGHBOUR: 'it returns false'. Refute it at one input. -/
def fnExactMaximalWordsWrong : ChangeSpec := { name := "fnExactMaximalWords", fn := fun _ => fun
  | [d] => { results := [.lit (.bool false)], args := [d] }
  | _ => none }
def FnExactMaximalWordsWrongFalsely : Prop := fnExactMaximalWordsRow.holds Tryd.pinned (OpenSpec.ofChange fnExactMaximalWordsWrong)

/-- 'laws.FnExactStarProduct': WHATEVER THE INPUT: true; the input reads as it did. -/
def fnExactStarProductSpec : ChangeSpec := { name := "fnExactStarProduct", fn := fun _ => fun
  | [d1, d2] => { results := [.lit (.bool true)], args := [d1, d2] }
  | _ => none }
def fnExactStarProductRow : OpenClaim := { program := "ytldmgjeecomddaadoor", sum := "026188d18f67e6e327539671d6f33e4f0e1ef9a9da8199617375ab06efaba302", func := "loop.example/g01003/laws.FnExactStarProduct", spec := "fnExactStarProduct", inPlace := ["internal/bytealg.IndexByteString", "internal/bytealg.IndexString", "internal/bytealg.CountString", "internal/abi.NoEscape"], named := ["unicode/utf8.first", "unicode/utf8.acceptRanges", "internal/bytealg.MaxLen"], apart := false, laid := [("unicode/utf8.acceptRanges", laid_unicode_utf8_acceptRanges), ("unicode/utf8.first", laid_unicode_utf8_first)] }
def FnExactStarProductSaid : Prop := fnExactStarProductRow.holds Tryd.pinned (OpenSpec.ofChange fnExactStarProductSpec)

/-- ITS FALSE NEIGHBOUR: 'it returns false'. Refute it at one input. -/
def fnExactStarProductWrong : ChangeSpec := { name := "fnExactStarProduct", fn := fun _ => fun
  | [d1, d2] => { results := [.lit (.bool false)], args := [d1, d2] }
  | _ => none }
def FnExactStarProductWrongFalsely : Prop := fnExactStarProductRow.holds Tryd.pinned (OpenSpec.ofChange fnExactStarProductWrong)

/-- 'laws.FnExactSwapLast': WHATEVER THE INPUT: true; the input reads as it did. -/
def fnExactSwapLastSpec : ChangeSpec := { name := "fnExactSwapLast", fn := fun _ => fun
  | [d] => { results := [.lit (.bool true)], args := [d] }
  | _ => none }
def fnExactSwapLastRow : OpenClaim := { program := "ytldmgjeecomddaadoor", sum := "026188d18f67e6e327539671d6f33e4f0e1ef9a9da8199617375ab06efaba302", func := "loop.example/g01003/laws.FnExactSwapLast", spec := "fnExactSwapLast", inPlace := ["internal/bytealg.IndexByteString", "internal/bytealg.IndexString"], named := ["unicode/utf8.first", "unicode/utf8.acceptRanges", "internal/bytealg.MaxLen"], apart := false, laid := [("unicode/utf8.acceptRanges", laid_unicode_utf8_acceptRanges), ("unicode/utf8.first", laid_unicode_utf8_first)] }
def FnExactSwapLastSaid : Prop := fnExactSwapLastRow.holds Tryd.pinned (OpenSpec.ofChange fnExactSwapLastSpec)

/-- ITS FALSE NEIGHBOUR: 'it returns false'. Refute it at one input. -/
def fnExactSwapLastWrong : ChangeSpec := { name := "fnExactSwapLast", fn := fun _ => fun
  | [d] => { results := [.lit (.bool false)], args := [d] }
  | _ => none }
def FnExactSwapLastWrongFalsely : Prop := fnExactSwapLastRow.holds Tryd.pinned (OpenSpec.ofChange fnExactSwapLastWrong)

/- THE SECOND FORM. 'bulk': how many values and letters a reading holds, each counted each time it is reached (what is shared counts as often as it is met; a slice's spare places count too). A statement '..UptoSaid' is the law's where the arguments, and the package variables that the reading takes, are together of bulk at most 1048576: NARROWER than '..Said'. Prove '..Said' where nothing that the law and all that it calls make is longer than what came in: it says more and counts as full. Else prove '..UptoSaid'. A law counts once. -/
mutual
def uptoBulk {H : Type} : DataW H → Nat
  | .lit (.string bytes) => bytes.length + 1
  | .lit _ => 1
  | .nil => 1
  | .ptr d => uptoBulk d + 1
  | .slice elems spare => uptoBulkAll elems + uptoBulkAll spare + 1
  | .agg parts => uptoBulkAll parts + 1
  | .iface _ d => uptoBulk d + 1
  | .map entries => uptoBulkEntries entries + 1
  | .held _ => 1
def uptoBulkAll {H : Type} : List (DataW H) → Nat
  | [] => 0
  | d :: r => uptoBulk d + uptoBulkAll r
def uptoBulkEntries {H : Type} : List (Lit × DataW H) → Nat
  | [] => 0
  | x :: r => uptoBulkEntry x + uptoBulkEntries r
def uptoBulkEntry {H : Type} : Lit × DataW H → Nat
  | (.string bytes, d) => bytes.length + uptoBulk d + 1
  | (_, d) => uptoBulk d + 1
 end
def uptoSmall : (H : Type) → List (DataW H) → Bool := fun _ ds => decide (uptoBulkAll ds ≤ 1048576)
def OpenSpec.upto (s : _root_.Go.ChangeSpec) : _root_.Go.OpenSpec := { _root_.Go.OpenSpec.ofChange s with cond := some uptoSmall }

/-- 'laws.FnExactIsKneadingWord', WHERE WHAT IT READS IS OF BULK AT MOST 1048576: true; the input reads as it did. -/
def fnExactIsKneadingWordUptoRow : OpenClaim := { program := "ytldmgjeecomddaadoor", sum := "026188d18f67e6e327539671d6f33e4f0e1ef9a9da8199617375ab06efaba302", func := "loop.example/g01003/laws.FnExactIsKneadingWord", spec := "fnExactIsKneadingWord", inPlace := ["internal/bytealg.IndexByteString", "internal/bytealg.IndexString"], named := ["unicode/utf8.first", "unicode/utf8.acceptRanges", "internal/bytealg.MaxLen"], apart := false, laid := [("unicode/utf8.acceptRanges", laid_unicode_utf8_acceptRanges), ("unicode/utf8.first", laid_unicode_utf8_first)], narrowed := true }
def FnExactIsKneadingWordUptoSaid : Prop := fnExactIsKneadingWordUptoRow.holds Tryd.pinned (OpenSpec.upto fnExactIsKneadingWordSpec)

/-- 'laws.FnExactCompareKneading', WHERE WHAT IT READS IS OF BULK AT MOST 1048576: true; the input reads as it did. -/
def fnExactCompareKneadingUptoRow : OpenClaim := { program := "ytldmgjeecomddaadoor", sum := "026188d18f67e6e327539671d6f33e4f0e1ef9a9da8199617375ab06efaba302", func := "loop.example/g01003/laws.FnExactCompareKneading", spec := "fnExactCompareKneading", inPlace := ["internal/bytealg.IndexByteString", "internal/bytealg.IndexString", "internal/bytealg.CountString"], named := ["unicode/utf8.first", "unicode/utf8.acceptRanges", "internal/bytealg.MaxLen"], apart := false, laid := [("unicode/utf8.acceptRanges", laid_unicode_utf8_acceptRanges), ("unicode/utf8.first", laid_unicode_utf8_first)], narrowed := true }
def FnExactCompareKneadingUptoSaid : Prop := fnExactCompareKneadingUptoRow.holds Tryd.pinned (OpenSpec.upto fnExactCompareKneadingSpec)

/-- 'laws.FnExactIsMaximalWord', WHERE WHAT IT READS IS OF BULK AT MOST 1048576: true; the input reads as it did. -/
def fnExactIsMaximalWordUptoRow : OpenClaim := { program := "ytldmgjeecomddaadoor", sum := "026188d18f67e6e327539671d6f33e4f0e1ef9a9da8199617375ab06efaba302", func := "loop.example/g01003/laws.FnExactIsMaximalWord", spec := "fnExactIsMaximalWord", inPlace := ["internal/bytealg.IndexByteString", "internal/bytealg.IndexString", "internal/bytealg.CountString"], named := ["unicode/utf8.first", "unicode/utf8.acceptRanges", "internal/bytealg.MaxLen"], apart := false, laid := [("unicode/utf8.acceptRanges", laid_unicode_utf8_acceptRanges), ("unicode/utf8.first", laid_unicode_utf8_first)], narrowed := true }
def FnExactIsMaximalWordUptoSaid : Prop := fnExactIsMaximalWordUptoRow.holds Tryd.pinned (OpenSpec.upto fnExactIsMaximalWordSpec)

/-- 'laws.FnExactMaximalWords', WHERE WHAT IT READS IS OF BULK AT MOST 1048576: true; the input reads as it did. -/
def fnExactMaximalWordsUptoRow : OpenClaim := { program := "ytldmgjeecomddaadoor", sum := "026188d18f67e6e327539671d6f33e4f0e1ef9a9da8199617375ab06efaba302", func := "loop.example/g01003/laws.FnExactMaximalWords", spec := "fnExactMaximalWords", inPlace := ["internal/bytealg.IndexByteString", "internal/bytealg.IndexString", "internal/bytealg.CountString"], unfollowed := true, recurses := true, named := ["unicode/utf8.first", "unicode/utf8.acceptRanges", "internal/bytealg.MaxLen"], apart := false, laid := [("unicode/utf8.acceptRanges", laid_unicode_utf8_acceptRanges), ("unicode/utf8.first", laid_unicode_utf8_first)], narrowed := true }
def FnExactMaximalWordsUptoSaid : Prop := fnExactMaximalWordsUptoRow.holds Tryd.pinned (OpenSpec.upto fnExactMaximalWordsSpec)

/-- 'laws.FnExactStarProduct', WHERE WHAT IT READS IS OF BULK AT MOST 1048576: true; the input reads as it did. -/
def fnExactStarProductUptoRow : OpenClaim := { program := "ytldmgjeecomddaadoor", sum := "026188d18f67e6e327539671d6f33e4f0e1ef9a9da8199617375ab06efaba302", func := "loop.example/g01003/laws.FnExactStarProduct", spec := "fnExactStarProduct", inPlace := ["internal/bytealg.IndexByteString", "internal/bytealg.IndexString", "internal/bytealg.CountString", "internal/abi.NoEscape"], named := ["unicode/utf8.first", "unicode/utf8.acceptRanges", "internal/bytealg.MaxLen"], apart := false, laid := [("unicode/utf8.acceptRanges", laid_unicode_utf8_acceptRanges), ("unicode/utf8.first", laid_unicode_utf8_first)], narrowed := true }
def FnExactStarProductUptoSaid : Prop := fnExactStarProductUptoRow.holds Tryd.pinned (OpenSpec.upto fnExactStarProductSpec)

/-- 'laws.FnExactSwapLast', WHERE WHAT IT READS IS OF BULK AT MOST 1048576: true; the input reads as it did. -/
def fnExactSwapLastUptoRow : OpenClaim := { program := "ytldmgjeecomddaadoor", sum := "026188d18f67e6e327539671d6f33e4f0e1ef9a9da8199617375ab06efaba302", func := "loop.example/g01003/laws.FnExactSwapLast", spec := "fnExactSwapLast", inPlace := ["internal/bytealg.IndexByteString", "internal/bytealg.IndexString"], named := ["unicode/utf8.first", "unicode/utf8.acceptRanges", "internal/bytealg.MaxLen"], apart := false, laid := [("unicode/utf8.acceptRanges", laid_unicode_utf8_acceptRanges), ("unicode/utf8.first", laid_unicode_utf8_first)], narrowed := true }
def FnExactSwapLastUptoSaid : Prop := fnExactSwapLastUptoRow.holds Tryd.pinned (OpenSpec.upto fnExactSwapLastSpec)

end Rows
end Go.Proofs.YtldmgjeecomddaaDoor

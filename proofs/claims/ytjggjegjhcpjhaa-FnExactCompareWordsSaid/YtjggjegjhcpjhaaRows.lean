/-
  No cell of these rows narrows 'for every input' (looked for: loops, veiled, ifaces, maps, wideKeys, modest, calm, conditions, laid).
  DERIVED. THE GIVEN ROWS OF THIS SEAT. 12 by the template 'for every input the law returns true; each argument reads behind the call as it read before'; 0 by the template 'total and deterministic' (their statements: YtjggjegjhcpjhaaTotals.lean).
  GIVEN WITH THE SEED: the statements are not yours to turn. If you find one false, say at which input.
  Laid BY PROGRAM, IN A SANDBOX (cutbox-rows.mjs): the forced cells as the released guide's own fill.sh prints them over the translation a00a4b5a0864c397… (all of the seat's roots in one cut). By AI agents, Wed Nov 11 2026. No macro, syntax, notation, axiom, sorry.
-/
import Derived.Test.YtjggjegjhcpjhaaChecked
import GoSem.Claim
import GoSem.ClaimJoined
import GoSem.ClaimMapViews
import Derived.JoinedTies
import Derived.KernelRfl
namespace Go.Proofs.Ytjggjegjhcpjhaa
/- THE CELL 'sum', in the pinned program and in every row, IS THE sha256 OF THE DUMP (.gsa) THAT YtjggjegjhcpjhaaProg.lean LOADS. Nothing in Lean hashes anything: it is a label: what it is worth is what the hold of that sum in a sandbox is worth. -/
noncomputable def Try.pinned : Pinned := { name := "ytjggjegjhcpjhaa", sum := "a00a4b5a0864c397d4734fb84a4ada22e8d03c0c00dede65d00c92cc61eac149", checked := Try.checked }
namespace Rows
def none {H : Type} : Left H := { results := [], args := [] }

/-- 'laws.FnExactIsLapMap': WHATEVER THE INPUT: true; the input reads as it did. -/
def fnExactIsLapMapSpec : ChangeSpec := { name := "fnExactIsLapMap", fn := fun _ => fun
  | [d] => { results := [.lit (.bool true)], args := [d] }
  | _ => none }
def fnExactIsLapMapRow : OpenClaim := { program := "ytjggjegjhcpjhaa", sum := "a00a4b5a0864c397d4734fb84a4ada22e8d03c0c00dede65d00c92cc61eac149", func := "loop.example/g01003/laws.FnExactIsLapMap", spec := "fnExactIsLapMap", apart := false }
def FnExactIsLapMapSaid : Prop := fnExactIsLapMapRow.holds Try.pinned (OpenSpec.ofChange fnExactIsLapMapSpec)

/-- ITS FALSE NEIGHBOUR: 'it returns false'. Refute it at one input. -/
def fnExactIsLapMapWrong : ChangeSpec := { name := "fnExactIsLapMap", fn := fun _ => fun
  | [d] => { results := [.lit (.bool false)], args := [d] }
  | _ => none }
def FnExactIsLapMapWrongFalsely : Prop := fnExactIsLapMapRow.holds Try.pinned (OpenSpec.ofChange fnExactIsLapMapWrong)

/-- 'laws.FnExactAddressOf': WHATEVER THE INPUT: true; the input reads as it did. -/
def fnExactAddressOfSpec : ChangeSpec := { name := "fnExactAddressOf", fn := fun _ => fun
  | [d1, d2] => { results := [.lit (.bool true)], args := [d1, d2] }
  | _ => none }
def fnExactAddressOfRow : OpenClaim := { program := "ytjggjegjhcpjhaa", sum := "a00a4b5a0864c397d4734fb84a4ada22e8d03c0c00dede65d00c92cc61eac149", func := "loop.example/g01003/laws.FnExactAddressOf", spec := "fnExactAddressOf", unfollowed := true, recurses := true, apart := false }
def FnExactAddressOfSaid : Prop := fnExactAddressOfRow.holds Try.pinned (OpenSpec.ofChange fnExactAddressOfSpec)

/-- ITS FALSE NEIGHBOUR: 'it returns false'. Refute it at one input. -/
def fnExactAddressOfWrong : ChangeSpec := { name := "fnExactAddressOf", fn := fun _ => fun
  | [d1, d2] => { results := [.lit (.bool false)], args := [d1, d2] }
  | _ => none }
def FnExactAddressOfWrongFalsely : Prop := fnExactAddressOfRow.holds Try.pinned (OpenSpec.ofChange fnExactAddressOfWrong)

/-- 'laws.FnExactItineraryOf': WHATEVER THE INPUT: true; the input reads as it did. -/
def fnExactItineraryOfSpec : ChangeSpec := { name := "fnExactItineraryOf", fn := fun _ => fun
  | [d1, d2, d3] => { results := [.lit (.bool true)], args := [d1, d2, d3] }
  | _ => none }
def fnExactItineraryOfRow : OpenClaim := { program := "ytjggjegjhcpjhaa", sum := "a00a4b5a0864c397d4734fb84a4ada22e8d03c0c00dede65d00c92cc61eac149", func := "loop.example/g01003/laws.FnExactItineraryOf", spec := "fnExactItineraryOf", unfollowed := true, recurses := true, apart := false }
def FnExactItineraryOfSaid : Prop := fnExactItineraryOfRow.holds Try.pinned (OpenSpec.ofChange fnExactItineraryOfSpec)

/-- ITS FALSE NEIGHBOUR: 'it returns false'. Refute it at one input. -/
def fnExactItineraryOfWrong : ChangeSpec := { name := "fnExactItineraryOf", fn := fun _ => fun
  | [d1, d2, d3] => { results := [.lit (.bool false)], args := [d1, d2, d3] }
  | _ => none }
def FnExactItineraryOfWrongFalsely : Prop := fnExactItineraryOfRow.holds Try.pinned (OpenSpec.ofChange fnExactItineraryOfWrong)

/-- 'laws.FnExactWordSign': WHATEVER THE INPUT: true; the input reads as it did. -/
def fnExactWordSignSpec : ChangeSpec := { name := "fnExactWordSign", fn := fun _ => fun
  | [d1, d2] => { results := [.lit (.bool true)], args := [d1, d2] }
  | _ => none }
def fnExactWordSignRow : OpenClaim := { program := "ytjggjegjhcpjhaa", sum := "a00a4b5a0864c397d4734fb84a4ada22e8d03c0c00dede65d00c92cc61eac149", func := "loop.example/g01003/laws.FnExactWordSign", spec := "fnExactWordSign", unfollowed := true, recurses := true, apart := false }
def FnExactWordSignSaid : Prop := fnExactWordSignRow.holds Try.pinned (OpenSpec.ofChange fnExactWordSignSpec)

/-- ITS FALSE NEIGHBOUR: 'it returns false'. Refute it at one input. -/
def fnExactWordSignWrong : ChangeSpec := { name := "fnExactWordSign", fn := fun _ => fun
  | [d1, d2] => { results := [.lit (.bool false)], args := [d1, d2] }
  | _ => none }
def FnExactWordSignWrongFalsely : Prop := fnExactWordSignRow.holds Try.pinned (OpenSpec.ofChange fnExactWordSignWrong)

/-- 'laws.FnExactCompareWords': WHATEVER THE INPUT: true; the input reads as it did. -/
def fnExactCompareWordsSpec : ChangeSpec := { name := "fnExactCompareWords", fn := fun _ => fun
  | [d1, d2, d3] => { results := [.lit (.bool true)], args := [d1, d2, d3] }
  | _ => none }
def fnExactCompareWordsRow : OpenClaim := { program := "ytjggjegjhcpjhaa", sum := "a00a4b5a0864c397d4734fb84a4ada22e8d03c0c00dede65d00c92cc61eac149", func := "loop.example/g01003/laws.FnExactCompareWords", spec := "fnExactCompareWords", unfollowed := true, recurses := true, apart := false }
def FnExactCompareWordsSaid : Prop := fnExactCompareWordsRow.holds Try.pinned (OpenSpec.ofChange fnExactCompareWordsSpec)

/-- ITS FALSE NEIGHBOUR: 'it returns false'. Refute it at one input. -/
def fnExactCompareWordsWrong : ChangeSpec := { name := "fnExactCompareWords", fn := fun _ => fun
  | [d1, d2, d3] => { results := [.lit (.bool false)], args := [d1, d2, d3] }
  | _ => none }
def FnExactCompareWordsWrongFalsely : Prop := fnExactCompareWordsRow.holds Try.pinned (OpenSpec.ofChange fnExactCompareWordsWrong)

/-- 'laws.FnExactCylinderOf': WHATEVER THE INPUT: true; the input reads as it did. -/
def fnExactCylinderOfSpec : ChangeSpec := { name := "fnExactCylinderOf", fn := fun _ => fun
  | [d1, d2] => { results := [.lit (.bool true)], args := [d1, d2] }
  | _ => none }
def fnExactCylinderOfRow : OpenClaim := { program := "ytjggjegjhcpjhaa", sum := "a00a4b5a0864c397d4734fb84a4ada22e8d03c0c00dede65d00c92cc61eac149", func := "loop.example/g01003/laws.FnExactCylinderOf", spec := "fnExactCylinderOf", unfollowed := true, recurses := true, apart := false }
def FnExactCylinderOfSaid : Prop := fnExactCylinderOfRow.holds Try.pinned (OpenSpec.ofChange fnExactCylinderOfSpec)

/-- ITS FALSE NEIGHBOUR: 'it returns false'. Refute it at one input. -/
def fnExactCylinderOfWrong : ChangeSpec := { name := "fnExactCylinderOf", fn := fun _ => fun
  | [d1, d2] => { results := [.lit (.bool false)], args := [d1, d2] }
  | _ => none }
def FnExactCylinderOfWrongFalsely : Prop := fnExactCylinderOfRow.holds Try.pinned (OpenSpec.ofChange fnExactCylinderOfWrong)

/-- 'laws.FnExactIsAdmissible': WHATEVER THE INPUT: true; the input reads as it did. -/
def fnExactIsAdmissibleSpec : ChangeSpec := { name := "fnExactIsAdmissible", fn := fun _ => fun
  | [d1, d2] => { results := [.lit (.bool true)], args := [d1, d2] }
  | _ => none }
def fnExactIsAdmissibleRow : OpenClaim := { program := "ytjggjegjhcpjhaa", sum := "a00a4b5a0864c397d4734fb84a4ada22e8d03c0c00dede65d00c92cc61eac149", func := "loop.example/g01003/laws.FnExactIsAdmissible", spec := "fnExactIsAdmissible", unfollowed := true, recurses := true, apart := false }
def FnExactIsAdmissibleSaid : Prop := fnExactIsAdmissibleRow.holds Try.pinned (OpenSpec.ofChange fnExactIsAdmissibleSpec)

/-- ITS FALSE NEIGHBOUR: 'it returns false'. Refute it at one input. -/
def fnExactIsAdmissibleWrong : ChangeSpec := { name := "fnExactIsAdmissible", fn := fun _ => fun
  | [d1, d2] => { results := [.lit (.bool false)], args := [d1, d2] }
  | _ => none }
def FnExactIsAdmissibleWrongFalsely : Prop := fnExactIsAdmissibleRow.holds Try.pinned (OpenSpec.ofChange fnExactIsAdmissibleWrong)

/-- 'laws.FnExactAdmissibleWords': WHATEVER THE INPUT: true; the input reads as it did. -/
def fnExactAdmissibleWordsSpec : ChangeSpec := { name := "fnExactAdmissibleWords", fn := fun _ => fun
  | [d1, d2] => { results := [.lit (.bool true)], args := [d1, d2] }
  | _ => none }
def fnExactAdmissibleWordsRow : OpenClaim := { program := "ytjggjegjhcpjhaa", sum := "a00a4b5a0864c397d4734fb84a4ada22e8d03c0c00dede65d00c92cc61eac149", func := "loop.example/g01003/laws.FnExactAdmissibleWords", spec := "fnExactAdmissibleWords", unfollowed := true, recurses := true, apart := false }
def FnExactAdmissibleWordsSaid : Prop := fnExactAdmissibleWordsRow.holds Try.pinned (OpenSpec.ofChange fnExactAdmissibleWordsSpec)

/-- ITS FALSE NEIGHBOUR: 'it returns false'. Refute it at one input. -/
def fnExactAdmissibleWordsWrong : ChangeSpec := { name := "fnExactAdmissibleWords", fn := fun _ => fun
  | [d1, d2] => { results := [.lit (.bool false)], args := [d1, d2] }
  | _ => none }
def FnExactAdmissibleWordsWrongFalsely : Prop := fnExactAdmissibleWordsRow.holds Try.pinned (OpenSpec.ofChange fnExactAdmissibleWordsWrong)

/-- 'laws.FnExactGreatestWord': WHATEVER THE INPUT: true; the input reads as it did. -/
def fnExactGreatestWordSpec : ChangeSpec := { name := "fnExactGreatestWord", fn := fun _ => fun
  | [d1, d2] => { results := [.lit (.bool true)], args := [d1, d2] }
  | _ => none }
def fnExactGreatestWordRow : OpenClaim := { program := "ytjggjegjhcpjhaa", sum := "a00a4b5a0864c397d4734fb84a4ada22e8d03c0c00dede65d00c92cc61eac149", func := "loop.example/g01003/laws.FnExactGreatestWord", spec := "fnExactGreatestWord", unfollowed := true, recurses := true, apart := false }
def FnExactGreatestWordSaid : Prop := fnExactGreatestWordRow.holds Try.pinned (OpenSpec.ofChange fnExactGreatestWordSpec)

/-- ITS FALSE NEIGHBOUR: 'it returns false'. Refute it at one input. -/
def fnExactGreatestWordWrong : ChangeSpec := { name := "fnExactGreatestWord", fn := fun _ => fun
  | [d1, d2] => { results := [.lit (.bool false)], args := [d1, d2] }
  | _ => none }
def FnExactGreatestWordWrongFalsely : Prop := fnExactGreatestWordRow.holds Try.pinned (OpenSpec.ofChange fnExactGreatestWordWrong)

/-- 'laws.FnExactWordText': WHATEVER THE INPUT: true; the input reads as it did. -/
def fnExactWordTextSpec : ChangeSpec := { name := "fnExactWordText", fn := fun _ => fun
  | [d] => { results := [.lit (.bool true)], args := [d] }
  | _ => none }
def fnExactWordTextRow : OpenClaim := { program := "ytjggjegjhcpjhaa", sum := "a00a4b5a0864c397d4734fb84a4ada22e8d03c0c00dede65d00c92cc61eac149", func := "loop.example/g01003/laws.FnExactWordText", spec := "fnExactWordText", inPlace := ["internal/abi.NoEscape"], apart := false }
def FnExactWordTextSaid : Prop := fnExactWordTextRow.holds Try.pinned (OpenSpec.ofChange fnExactWordTextSpec)

/-- ITS FALSE NEIGHBOUR: 'it returns false'. Refute it at one input. -/
def fnExactWordTextWrong : ChangeSpec := { name := "fnExactWordText", fn := fun _ => fun
  | [d] => { results := [.lit (.bool false)], args := [d] }
  | _ => none }
def FnExactWordTextWrongFalsely : Prop := fnExactWordTextRow.holds Try.pinned (OpenSpec.ofChange fnExactWordTextWrong)

/-- 'laws.FnExactParseWord': WHATEVER THE INPUT: true; the input reads as it did. -/
def fnExactParseWordSpec : ChangeSpec := { name := "fnExactParseWord", fn := fun _ => fun
  | [d] => { results := [.lit (.bool true)], args := [d] }
  | _ => none }
def fnExactParseWordRow : OpenClaim := { program := "ytjggjegjhcpjhaa", sum := "a00a4b5a0864c397d4734fb84a4ada22e8d03c0c00dede65d00c92cc61eac149", func := "loop.example/g01003/laws.FnExactParseWord", spec := "fnExactParseWord", apart := false }
def FnExactParseWordSaid : Prop := fnExactParseWordRow.holds Try.pinned (OpenSpec.ofChange fnExactParseWordSpec)

/-- ITS FALSE NEIGHBOUR: 'it returns false'. Refute it at one input. -/
def fnExactParseWordWrong : ChangeSpec := { name := "fnExactParseWord", fn := fun _ => fun
  | [d] => { results := [.lit (.bool false)], args := [d] }
  | _ => none }
def FnExactParseWordWrongFalsely : Prop := fnExactParseWordRow.holds Try.pinned (OpenSpec.ofChange fnExactParseWordWrong)

/-- 'laws.FnExactPointsBefore': WHATEVER THE INPUT: true; the input reads as it did. -/
def fnExactPointsBeforeSpec : ChangeSpec := { name := "fnExactPointsBefore", fn := fun _ => fun
  | [d1, d2] => { results := [.lit (.bool true)], args := [d1, d2] }
  | _ => none }
def fnExactPointsBeforeRow : OpenClaim := { program := "ytjggjegjhcpjhaa", sum := "a00a4b5a0864c397d4734fb84a4ada22e8d03c0c00dede65d00c92cc61eac149", func := "loop.example/g01003/laws.FnExactPointsBefore", spec := "fnExactPointsBefore", unfollowed := true, recurses := true, apart := false }
def FnExactPointsBeforeSaid : Prop := fnExactPointsBeforeRow.holds Try.pinned (OpenSpec.ofChange fnExactPointsBeforeSpec)

/-- ITS FALSE NEIGHBOUR: 'it returns false'. Refute it at one input. -/
def fnExactPointsBeforeWrong : ChangeSpec := { name := "fnExactPointsBefore", fn := fun _ => fun
  | [d1, d2] => { results := [.lit (.bool false)], args := [d1, d2] }
  | _ => none }
def FnExactPointsBeforeWrongFalsely : Prop := fnExactPointsBeforeRow.holds Try.pinned (OpenSpec.ofChange fnExactPointsBeforeWrong)

/- THE SECOND FORM. 'bulk': how many values and letters a reading holds, each counted each time it is reached (what is shared counts as often as it is met; a slice's spare places count too). A statement '..UptoSaid' is the law's where the arguments, and the package variables that the reading takes, are together of bulk at most 1048576: NARROWER than '..Said'. Prove '..Said' where nothing that the law and all that it calls make is longer than what came in: it says more and counts as full. Else prove '..UptoSaid'. A law counts once. -/
mutual
def uptoBulk {H : Type} : DataW H → Nat
  | .lit (.string bytes) => bytes.length + 1
  | .lit _ => 1
  | .nil => 1
  | .ptr d => uptoBulk d + 1
  | .slice elems spare => uptoBulkAll elems + uptoBulkAll spare + 1
  | .agg parts => uptoBulkAll parts + 1
  | .iface _ d => uptoBulk d + 1
  | .map entries => uptoBulkEntries entries + 1
  | .held _ => 1
def uptoBulkAll {H : Type} : List (DataW H) → Nat
  | [] => 0
  | d :: r => uptoBulk d + uptoBulkAll r
def uptoBulkEntries {H : Type} : List (Lit × DataW H) → Nat
  | [] => 0
  | x :: r => uptoBulkEntry x + uptoBulkEntries r
def uptoBulkEntry {H : Type} : Lit × DataW H → Nat
  | (.string bytes, d) => bytes.length + uptoBulk d + 1
  | (_, d) => uptoBulk d + 1
 end
def uptoSmall : (H : Type) → List (DataW H) → Bool := fun _ ds => decide (uptoBulkAll ds ≤ 1048576)
def OpenSpec.upto (s : _root_.Go.ChangeSpec) : _root_.Go.OpenSpec := { _root_.Go.OpenSpec.ofChange s with cond := some uptoSmall }

/-- 'laws.FnExactIsLapMap', WHERE WHAT IT READS IS OF BULK AT MOST 1048576: true; the input reads as it did. -/
def fnExactIsLapMapUptoRow : OpenClaim := { program := "ytjggjegjhcpjhaa", sum := "a00a4b5a0864c397d4734fb84a4ada22e8d03c0c00dede65d00c92cc61eac149", func := "loop.example/g01003/laws.FnExactIsLapMap", spec := "fnExactIsLapMap", apart := false, narrowed := true }
def FnExactIsLapMapUptoSaid : Prop := fnExactIsLapMapUptoRow.holds Try.pinned (OpenSpec.upto fnExactIsLapMapSpec)

/-- 'laws.FnExactAddressOf', WHERE WHAT IT READS IS OF BULK AT MOST 1048576: true; the input reads as it did. -/
def fnExactAddressOfUptoRow : OpenClaim := { program := "ytjggjegjhcpjhaa", sum := "a00a4b5a0864c397d4734fb84a4ada22e8d03c0c00dede65d00c92cc61eac149", func := "loop.example/g01003/laws.FnExactAddressOf", spec := "fnExactAddressOf", unfollowed := true, recurses := true, apart := false, narrowed := true }
def FnExactAddressOfUptoSaid : Prop := fnExactAddressOfUptoRow.holds Try.pinned (OpenSpec.upto fnExactAddressOfSpec)

/-- 'laws.FnExactItineraryOf', WHERE WHAT IT READS IS OF BULK AT MOST 1048576: true; the input reads as it did. -/
def fnExactItineraryOfUptoRow : OpenClaim := { program := "ytjggjegjhcpjhaa", sum := "a00a4b5a0864c397d4734fb84a4ada22e8d03c0c00dede65d00c92cc61eac149", func := "loop.example/g01003/laws.FnExactItineraryOf", spec := "fnExactItineraryOf", unfollowed := true, recurses := true, apart := false, narrowed := true }
def FnExactItineraryOfUptoSaid : Prop := fnExactItineraryOfUptoRow.holds Try.pinned (OpenSpec.upto fnExactItineraryOfSpec)

/-- 'laws.FnExactWordSign', WHERE WHAT IT READS IS OF BULK AT MOST 1048576: true; the input reads as it did. -/
def fnExactWordSignUptoRow : OpenClaim := { program := "ytjggjegjhcpjhaa", sum := "a00a4b5a0864c397d4734fb84a4ada22e8d03c0c00dede65d00c92cc61eac149", func := "loop.example/g01003/laws.FnExactWordSign", spec := "fnExactWordSign", unfollowed := true, recurses := true, apart := false, narrowed := true }
def FnExactWordSignUptoSaid : Prop := fnExactWordSignUptoRow.holds Try.pinned (OpenSpec.upto fnExactWordSignSpec)

/-- 'laws.FnExactCompareWords', WHERE WHAT IT READS IS OF BULK AT MOST 1048576: true; the input reads as it did. -/
def fnExactCompareWordsUptoRow : OpenClaim := { program := "ytjggjegjhcpjhaa", sum := "a00a4b5a0864c397d4734fb84a4ada22e8d03c0c00dede65d00c92cc61eac149", func := "loop.example/g01003/laws.FnExactCompareWords", spec := "fnExactCompareWords", unfollowed := true, recurses := true, apart := false, narrowed := true }
def FnExactCompareWordsUptoSaid : Prop := fnExactCompareWordsUptoRow.holds Try.pinned (OpenSpec.upto fnExactCompareWordsSpec)

/-- 'laws.FnExactCylinderOf', WHERE WHAT IT READS IS OF BULK AT MOST 1048576: true; the input reads as it did. -/
def fnExactCylinderOfUptoRow : OpenClaim := { program := "ytjggjegjhcpjhaa", sum := "a00a4b5a0864c397d4734fb84a4ada22e8d03c0c00dede65d00c92cc61eac149", func := "loop.example/g01003/laws.FnExactCylinderOf", spec := "fnExactCylinderOf", unfollowed := true, recurses := true, apart := false, narrowed := true }
def FnExactCylinderOfUptoSaid : Prop := fnExactCylinderOfUptoRow.holds Try.pinned (OpenSpec.upto fnExactCylinderOfSpec)

/-- 'laws.FnExactIsAdmissible', WHERE WHAT IT READS IS OF BULK AT MOST 1048576: true; the input reads as it did. -/
def fnExactIsAdmissibleUptoRow : OpenClaim := { program := "ytjggjegjhcpjhaa", sum := "a00a4b5a0864c397d4734fb84a4ada22e8d03c0c00dede65d00c92cc61eac149", func := "loop.example/g01003/laws.FnExactIsAdmissible", spec := "fnExactIsAdmissible", unfollowed := true, recurses := true, apart := false, narrowed := true }
def FnExactIsAdmissibleUptoSaid : Prop := fnExactIsAdmissibleUptoRow.holds Try.pinned (OpenSpec.upto fnExactIsAdmissibleSpec)

/-- 'laws.FnExactAdmissibleWords', WHERE WHAT IT READS IS OF BULK AT MOST 1048576: true; the input reads as it did. -/
def fnExactAdmissibleWordsUptoRow : OpenClaim := { program := "ytjggjegjhcpjhaa", sum := "a00a4b5a0864c397d4734fb84a4ada22e8d03c0c00dede65d00c92cc61eac149", func := "loop.example/g01003/laws.FnExactAdmissibleWords", spec := "fnExactAdmissibleWords", unfollowed := true, recurses := true, apart := false, narrowed := true }
def FnExactAdmissibleWordsUptoSaid : Prop := fnExactAdmissibleWordsUptoRow.holds Try.pinned (OpenSpec.upto fnExactAdmissibleWordsSpec)

/-- 'laws.FnExactGreatestWord', WHERE WHAT IT READS IS OF BULK AT MOST 1048576: true; the input reads as it did. -/
def fnExactGreatestWordUptoRow : OpenClaim := { program := "ytjggjegjhcpjhaa", sum := "a00a4b5a0864c397d4734fb84a4ada22e8d03c0c00dede65d00c92cc61eac149", func := "loop.example/g01003/laws.FnExactGreatestWord", spec := "fnExactGreatestWord", unfollowed := true, recurses := true, apart := false, narrowed := true }
def FnExactGreatestWordUptoSaid : Prop := fnExactGreatestWordUptoRow.holds Try.pinned (OpenSpec.upto fnExactGreatestWordSpec)

/-- 'laws.FnExactWordText', WHERE WHAT IT READS IS OF BULK AT MOST 1048576: true; the input reads as it did. -/
def fnExactWordTextUptoRow : OpenClaim := { program := "ytjggjegjhcpjhaa", sum := "a00a4b5a0864c397d4734fb84a4ada22e8d03c0c00dede65d00c92cc61eac149", func := "loop.example/g01003/laws.FnExactWordText", spec := "fnExactWordText", inPlace := ["internal/abi.NoEscape"], apart := false, narrowed := true }
def FnExactWordTextUptoSaid : Prop := fnExactWordTextUptoRow.holds Try.pinned (OpenSpec.upto fnExactWordTextSpec)

/-- 'laws.FnExactParseWord', WHERE WHAT IT READS IS OF BULK AT MOST 1048576: true; the input reads as it did. -/
def fnExactParseWordUptoRow : OpenClaim := { program := "ytjggjegjhcpjhaa", sum := "a00a4b5a0864c397d4734fb84a4ada22e8d03c0c00dede65d00c92cc61eac149", func := "loop.example/g01003/laws.FnExactParseWord", spec := "fnExactParseWord", apart := false, narrowed := true }
def FnExactParseWordUptoSaid : Prop := fnExactParseWordUptoRow.holds Try.pinned (OpenSpec.upto fnExactParseWordSpec)

/-- 'laws.FnExactPointsBefore', WHERE WHAT IT READS IS OF BULK AT MOST 1048576: true; the input reads as it did. -/
def fnExactPointsBeforeUptoRow : OpenClaim := { program := "ytjggjegjhcpjhaa", sum := "a00a4b5a0864c397d4734fb84a4ada22e8d03c0c00dede65d00c92cc61eac149", func := "loop.example/g01003/laws.FnExactPointsBefore", spec := "fnExactPointsBefore", unfollowed := true, recurses := true, apart := false, narrowed := true }
def FnExactPointsBeforeUptoSaid : Prop := fnExactPointsBeforeUptoRow.holds Try.pinned (OpenSpec.upto fnExactPointsBeforeSpec)

end Rows
end Go.Proofs.Ytjggjegjhcpjhaa

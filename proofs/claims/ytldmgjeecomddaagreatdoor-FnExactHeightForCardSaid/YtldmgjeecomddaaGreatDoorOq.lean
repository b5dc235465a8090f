/-
  Chapter 4: PeriodOf of both.
-/
import Derived.Test.YtldmgjeecomddaaGreatDoorOp
namespace Go.Proofs.YtldmgjeecomddaaGreatDoor
open Go.RowKit Rm

def peO (ps : List Pt) (a b m : Int) : Option (Nat × Nat) := (orbO ps a b m).bind perO
def pe1 (o : Option (Nat × Nat)) : Int := match o with | some r => (r.1 : Int) | none => 0
def pe2 (o : Option (Nat × Nat)) : Int := match o with | some r => (r.2 : Int) | none => 0
theorem pe2_sub {t j : Nat} (h : t < j) : (Value.tuple #[.int .i64 (pe1 (some (t, j - t))), .int .i64 (pe2 (some (t, j - t))), .bool (some (t, j - t)).isSome]) = .tuple #[.int .i64 (t : Int), .int .i64 ((j : Int) - (t : Int)), .bool true] := by
  show (Value.tuple #[.int .i64 (t : Int), .int .i64 ((j - t : Nat) : Int), .bool true]) = _
  rw [show ((j - t : Nat) : Int) = (j : Int) - (t : Int) by omega]
theorem peO_some {ps : List Pt} {a b m : Int} {l : List Rat} (h : orbO ps a b m = some l) : peO ps a b m = perO l := by unfold peO; rw [h]; rfl
theorem peO_none {ps : List Pt} {a b m : Int} (h : orbO ps a b m = none) : peO ps a b m = none := by unfold peO; rw [h]; rfl

end Go.Proofs.YtldmgjeecomddaaGreatDoor

/-
  Chapter 4: IterateMap, StepsInSize, GreatestDen of both.
-/
import Derived.Test.YtfiaioohkidgbaaOa
namespace Go.Proofs.Ytfiaioohkidgbaa
open Go.RowKit Rm

/-- The fraction behind all steps. -/
def itO (ps : List Pt) (a b m : Int) : Option Rat := (orbO ps a b m).map fun l => l.getD m.toNat 0
/-- The number of steps that can be computed. -/
def stO (ps : List Pt) (a b m : Int) : Option Int := (runO ps a b m).map fun l => ((l.length - 1 : Nat) : Int)

end Go.Proofs.Ytfiaioohkidgbaa

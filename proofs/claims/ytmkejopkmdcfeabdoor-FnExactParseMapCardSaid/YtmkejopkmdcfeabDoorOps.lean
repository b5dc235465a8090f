/-
  Chapter 1: contracts of the operations on fractions, of the program and of the model.
-/
import Derived.Test.YtmkejopkmdcfeabDoorRat
namespace Go.Proofs.YtmkejopkmdcfeabDoor
open Go.RowKit Rm

/-! The closures: each reads the two fractions that it captured. -/
end Go.Proofs.YtmkejopkmdcfeabDoor

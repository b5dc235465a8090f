/-
  Chapter 1: contracts of the operations on fractions, of the program and of the model.
-/
import Derived.Test.YtafcdlojlfnjbaaDoorRat
namespace Go.Proofs.YtafcdlojlfnjbaaDoor
open Go.RowKit Rm

/-! The closures: each reads the two fractions that it captured. -/
end Go.Proofs.YtafcdlojlfnjbaaDoor

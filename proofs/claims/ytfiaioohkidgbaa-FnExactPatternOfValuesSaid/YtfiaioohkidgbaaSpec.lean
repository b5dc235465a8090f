/-
  Chapter 1: contracts of the model's functions on fractions.
-/
import Derived.Test.YtfiaioohkidgbaaRat
namespace Go.Proofs.Ytfiaioohkidgbaa
open Go.RowKit Rm

theorem two_good {a b c d : Int} (h : two a b c d = true) : good a b = true ∧ good c d = true := by simpa [two] using h

end Go.Proofs.Ytfiaioohkidgbaa

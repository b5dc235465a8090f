/-
  Chapter 1: contracts of the operations on fractions, of the program and of the model.
-/
import Derived.Test.YtjggjegjhcpjhabRat
namespace Go.Proofs.Ytjggjegjhcpjhab
open Go.RowKit Rm

/-! The closures: each reads the two fractions that it captured. -/
end Go.Proofs.Ytjggjegjhcpjhab

/-
  Chapter 4: orbits of the program: a label and gotos.
-/
import Derived.Test.YtfiaioohkidgbaaOr
namespace Go.Proofs.Ytfiaioohkidgbaa
open Go.RowKit Rm

end Go.Proofs.Ytfiaioohkidgbaa

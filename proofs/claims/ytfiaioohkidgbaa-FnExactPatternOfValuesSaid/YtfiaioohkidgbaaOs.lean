/-
  Chapter 4: orbits of the model.
-/
import Derived.Test.YtfiaioohkidgbaaOr
namespace Go.Proofs.Ytfiaioohkidgbaa
open Go.RowKit Rm

end Go.Proofs.Ytfiaioohkidgbaa

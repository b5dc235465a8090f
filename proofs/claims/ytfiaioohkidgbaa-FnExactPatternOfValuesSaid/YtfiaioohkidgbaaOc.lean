/-
  Chapter 4: the cases of a function over an orbit; IterateMap of the model, StepsInSize of both.
-/
import Derived.Test.YtfiaioohkidgbaaOb
namespace Go.Proofs.Ytfiaioohkidgbaa
open Go.RowKit Rm

end Go.Proofs.Ytfiaioohkidgbaa

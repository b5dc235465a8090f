/-
  Chapter 2: the small functions on a piece of a map, of the program and of the model: slopes, values on a line, the way back.
-/
import Derived.Test.YtfiaioohkidgbaaO
import Derived.Deep.DeepCutAuto
namespace Go.Proofs.Ytfiaioohkidgbaa
open Go.RowKit Rm

end Go.Proofs.Ytfiaioohkidgbaa

/-
  Chapter 2: SimpleMap of the model; the contracts.
-/
import Derived.Test.YtmkejopkmdcfeabSim
namespace Go.Proofs.Ytmkejopkmdcfeab
open Go.RowKit Rm

end Go.Proofs.Ytmkejopkmdcfeab

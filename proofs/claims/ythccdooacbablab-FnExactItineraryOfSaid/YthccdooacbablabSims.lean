/-
  Chapter 2: SimpleMap of the model; the contracts.
-/
import Derived.Test.YthccdooacbablabSim
namespace Go.Proofs.Ythccdooacbablab
open Go.RowKit Rm

end Go.Proofs.Ythccdooacbablab

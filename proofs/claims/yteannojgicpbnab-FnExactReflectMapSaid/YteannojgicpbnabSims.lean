/-
  Chapter 2: SimpleMap of the model; the contracts.
-/
import Derived.Test.YteannojgicpbnabSim
namespace Go.Proofs.Yteannojgicpbnab
open Go.RowKit Rm

end Go.Proofs.Yteannojgicpbnab

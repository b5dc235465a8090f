/-
  Chapter 2: SimpleMap of the model; the contracts.
-/
import Derived.Test.YthccdooacbablaaSim
namespace Go.Proofs.Ythccdooacbablaa
open Go.RowKit Rm

end Go.Proofs.Ythccdooacbablaa

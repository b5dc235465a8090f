/-
  Chapter 2: SimpleMap of the model; the contracts.
-/
import Derived.Test.YtldmgjeecomddaaSim
namespace Go.Proofs.Ytldmgjeecomddaa
open Go.RowKit Rm

end Go.Proofs.Ytldmgjeecomddaa

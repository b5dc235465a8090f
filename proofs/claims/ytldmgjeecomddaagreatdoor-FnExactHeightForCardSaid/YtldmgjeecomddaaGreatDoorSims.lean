/-
  Chapter 2: SimpleMap of the model; the contracts.
-/
import Derived.Test.YtldmgjeecomddaaGreatDoorSim
namespace Go.Proofs.YtldmgjeecomddaaGreatDoor
open Go.RowKit Rm

end Go.Proofs.YtldmgjeecomddaaGreatDoor

/-
  The laws' copies, with any room left and marks from any number on.
-/
import Derived.Test.YtldmgjeecomddaaGreatDoorLawS
import Derived.Test.YtldmgjeecomddaaGreatDoorSima
import Derived.Test.YtldmgjeecomddaaGreatDoorRr
namespace Go.Proofs.YtldmgjeecomddaaGreatDoor
open Go.RowKit Rm

end Go.Proofs.YtldmgjeecomddaaGreatDoor

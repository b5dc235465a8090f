/-
  What a row over a slice of points needs: the argument opened, and shut again behind the call.
-/
import Derived.Test.YtldmgjeecomddaaGreatDoorSl
import Derived.Test.YtldmgjeecomddaaGreatDoorRowKit
import Derived.Deep.Slices
import Derived.Clock
namespace Go.Proofs.YtldmgjeecomddaaGreatDoor
open Go.ChangeShapes Go.WideShapes Go.ChangeAt Go.RowKit Go.Joins Go.Deep Rm

section
variable {H : Type} {enc : TypeId × Value → H} {w : World} {base : Nat} {sp : Nat → Bool} {held : Bool}
/-- Stands here so that the section ends where every declaration with a function's name falls away. -/
theorem rowP_end : True := trivial
end

end Go.Proofs.YtldmgjeecomddaaGreatDoor

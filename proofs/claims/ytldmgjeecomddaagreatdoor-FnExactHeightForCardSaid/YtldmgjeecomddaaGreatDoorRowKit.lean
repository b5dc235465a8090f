/-
  What every row's step of this seat needs: the settings knob, a fraction by value.
-/
import Derived.Test.YtldmgjeecomddaaGreatDoorKit
import Derived.Test.YtldmgjeecomddaaGreatDoorRows
import Derived.ProofKit
import Derived.OpenShut
import Derived.Lib.SmallJoins
namespace Go.Proofs.YtldmgjeecomddaaGreatDoor
open Go.ChangeShapes Go.WideShapes Go.ChangeAt Go.RowKit Go.Joins

theorem own : ownKnob Tryz.prog.godebug = none := by kernel_rfl
end Go.Proofs.YtldmgjeecomddaaGreatDoor

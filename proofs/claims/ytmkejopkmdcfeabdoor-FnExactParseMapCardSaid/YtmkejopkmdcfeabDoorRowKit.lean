/-
  What every row's step of this seat needs: the settings knob, a fraction by value.
-/
import Derived.Test.YtmkejopkmdcfeabDoorKit
import Derived.Test.YtmkejopkmdcfeabDoorRows
import Derived.ProofKit
import Derived.OpenShut
import Derived.Lib.SmallJoins
namespace Go.Proofs.YtmkejopkmdcfeabDoor
open Go.ChangeShapes Go.WideShapes Go.ChangeAt Go.RowKit Go.Joins

theorem own : ownKnob Tryd.prog.godebug = none := by kernel_rfl
end Go.Proofs.YtmkejopkmdcfeabDoor

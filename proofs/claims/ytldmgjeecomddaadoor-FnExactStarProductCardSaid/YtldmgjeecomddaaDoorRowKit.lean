/-
  What every row's step of this seat needs: the settings knob, a fraction by value.
-/
import Derived.Test.YtldmgjeecomddaaDoorKit
import Derived.Test.YtldmgjeecomddaaDoorRows
import Derived.ProofKit
import Derived.OpenShut
import Derived.Lib.SmallJoins
namespace Go.Proofs.YtldmgjeecomddaaDoor
open Go.ChangeShapes Go.WideShapes Go.ChangeAt Go.RowKit Go.Joins

theorem own : ownKnob Tryd.prog.godebug = none := by kernel_rfl
end Go.Proofs.YtldmgjeecomddaaDoor

/-
  What every row's step of this seat needs: the settings knob, a fraction by value.
-/
import Derived.Test.YtfiaioohkidgbaaKit
import Derived.Test.YtfiaioohkidgbaaRows
import Derived.ProofKit
import Derived.OpenShut
import Derived.Lib.SmallJoins
namespace Go.Proofs.Ytfiaioohkidgbaa
open Go.ChangeShapes Go.WideShapes Go.ChangeAt Go.RowKit Go.Joins

theorem own : ownKnob Try.prog.godebug = none := by kernel_rfl
end Go.Proofs.Ytfiaioohkidgbaa

/-
  Chapter 1: contracts of the functions on fractions, of the program and of the model: each answers what the arithmetic says, and makes at most new memory.
-/
import Derived.Test.YtldmgjeecomddaaDoorRows
import Derived.Test.YtldmgjeecomddaaDoorMath
import Derived.Test.YtldmgjeecomddaaDoorKit
import Derived.WalkKit
import Derived.WalkSpells
import Derived.WalkLawsBesides
import Derived.Lib.Hide
import Derived.BigQuiet
import Derived.Deep.RegionHeld3
import Derived.RegionTactic
import Derived.ChangeAlike
namespace Go.Proofs.YtldmgjeecomddaaDoor
open Go.RowKit Rm

set_option maxHeartbeats 400000 in
theorem l1In_any (n lo hi : Int) (w : World) :
    Calls Tryd.prog 31 #[.int .i64 n, .int .i64 lo, .int .i64 hi] w fun e w' => e = .returned (.bool (inB lo hi n)) ∧ w = w' := by
  by_cases h1 : lo ≤ n
  · have h2 : inB lo hi n = decide (n ≤ hi) := by simp [inB, h1]
    rw [h2]; clear h2
    go_enter Tryd.func31, Tryd.ntmps31
    go_wp2
    go_ret
    exact ⟨rfl, rfl⟩
  · have h2 : inB lo hi n = false := by simp [inB, h1]
    rw [h2]; clear h2
    go_enter Tryd.func31, Tryd.ntmps31
    go_wp2
    go_ret
    exact ⟨rfl, rfl⟩
theorem l1In_yes {n lo hi : Int} (h : lo ≤ n ∧ n ≤ hi) (w : World) :
    Calls Tryd.prog 31 #[.int .i64 n, .int .i64 lo, .int .i64 hi] w fun e w' => e = .returned (.bool true) ∧ w = w' := by
  have := l1In_any n lo hi w; rwa [inB_yes h] at this
theorem l1In_no {n lo hi : Int} (h : ¬ (lo ≤ n ∧ n ≤ hi)) (w : World) :
    Calls Tryd.prog 31 #[.int .i64 n, .int .i64 lo, .int .i64 hi] w fun e w' => e = .returned (.bool false) ∧ w = w' := by
  have := l1In_any n lo hi w; rwa [inB_no h] at this

theorem ret_rat {k : IntKind} {a b c d : Int} {x y : Bool} (h1 : a = b) (h2 : c = d) (h3 : x = y) : Ending.returned (.tuple #[.agg #[.int k a, .int k c], .bool x]) = .returned (.tuple #[.agg #[.int k b, .int k d], .bool y]) := by rw [h1, h2, h3]


end Go.Proofs.YtldmgjeecomddaaDoor

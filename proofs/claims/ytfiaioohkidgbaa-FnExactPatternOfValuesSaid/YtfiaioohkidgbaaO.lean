/-
  Chapters 1 and 2: contracts of the small functions on fractions and points, of the program and of the model, in terms of rational numbers.
-/
import Derived.Test.YtfiaioohkidgbaaOps
import Derived.Test.YtfiaioohkidgbaaSpec
import Derived.Test.YtfiaioohkidgbaaSl
namespace Go.Proofs.Ytfiaioohkidgbaa
open Go.RowKit Rm

def cmpI (a b : Int) : Int := if a < b then -1 else if b < a then 1 else 0
theorem cmpI_lt {a b : Int} (h : a < b) : cmpI a b = -1 := if_pos h
theorem cmpI_gt {a b : Int} (h : b < a) : cmpI a b = 1 := by unfold cmpI; rw [if_neg (by omega), if_pos h]
theorem cmpI_eq {a b : Int} (h : a = b) : cmpI a b = 0 := by unfold cmpI; rw [if_neg (by omega), if_neg (by omega)]
theorem cmpI_sign (a b : Int) : cmpI a b = (a - b).sign := by
  unfold cmpI
  split
  · exact (Int.sign_eq_neg_one_of_neg (by omega)).symm
  · split
    · exact (Int.sign_eq_one_of_pos (by omega)).symm
    · rw [show a - b = 0 by omega]; rfl

theorem isNaN_any (a : Int) (w : World) : Calls Try.prog 18 #[.int .i64 a] w fun e w' => e = .returned (.bool false) ∧ w = w' := by
  have h : (a != a) = false := by simp
  go_enter Try.func18, Try.ntmps18
  go_wp2
  go_ret
  exact ⟨rfl, rfl⟩
set_option maxRecDepth 100000 in
theorem compare_any (a b : Int) (w : World) : Calls Try.prog 16 #[.int .i64 a, .int .i64 b] w fun e w' => e = .returned (.int .i64 (cmpI a b)) ∧ w = w' := by
  rcases Int.lt_trichotomy a b with h | h | h
  · rw [cmpI_lt h]
    go_enter Try.func16, Try.ntmps16
    go_wp2_with (go_at_call 18; refine (isNaN_any _ _).mono ?_; rintro e w' ⟨rfl, rfl⟩)
    go_ret
    exact ⟨rfl, rfl⟩
  · rw [cmpI_eq h]
    subst h
    go_enter Try.func16, Try.ntmps16
    go_wp2_with (go_at_call 18; refine (isNaN_any _ _).mono ?_; rintro e w' ⟨rfl, rfl⟩)
    go_ret
    exact ⟨rfl, rfl⟩
  · rw [cmpI_gt h]
    go_enter Try.func16, Try.ntmps16
    go_wp2_with (go_at_call 18; refine (isNaN_any _ _).mono ?_; rintro e w' ⟨rfl, rfl⟩)
    go_ret
    exact ⟨rfl, rfl⟩
/-- A valid fraction from 0 to 1. -/
def uB (a b : Int) : Bool := good a b && (decide (0 ≤ a) && decide (a ≤ b))
theorem coB_eq (a b : Int) : coB (a, b) = (uB a b && decide (b ≤ 100)) := by simp [coB, uB, Bool.and_assoc]

/-! ### In terms of rational numbers -/
theorem o_parts {x : Option Rat} (h : isR x) : -1000000000 ≤ oN x ∧ oN x ≤ 1000000000 ∧ 0 ≤ oD x ∧ oD x ≤ 1000000000 := by
  cases x with
  | none => simp
  | some r =>
    have := fits_iff.1 (h r rfl)
    have := den_pos' r
    simp only [oN_some, oD_some]
    omega
theorem cmpI_cq (a b : Rat) : cmpI (a.num * b.den) (b.num * a.den) = cq a b := by rw [cmpI_sign, cq_sign]
end Go.Proofs.Ytfiaioohkidgbaa

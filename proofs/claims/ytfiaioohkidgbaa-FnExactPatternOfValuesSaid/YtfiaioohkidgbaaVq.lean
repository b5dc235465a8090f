/-
  Chapter 2: the value on a piece, the way back, and the value of a map, in terms of rational numbers.
-/
import Derived.Test.YtfiaioohkidgbaaV
import Derived.Test.YtfiaioohkidgbaaIs
import Derived.Test.YtfiaioohkidgbaaIg
import Derived.IntWalk
namespace Go.Proofs.Ytfiaioohkidgbaa
open Go.RowKit Rm

theorem odiv_none (y : Option Rat) : odiv none y = none := rfl
theorem oadd_none (x : Option Rat) : oadd x none = none := by cases x <;> rfl
theorem omul_none_r (x : Option Rat) : omul x none = none := by cases x <;> rfl
theorem none_of {x : Option Rat} (h : x.isSome = false) : x = none := by cases x <;> simp_all

/-- The fraction on a piece that has a value. -/
def backR (p q : QP) (y : Rat) : Option Rat := oadd (some p.1) (odiv (osub (some y) (some p.2)) (some (slopeR p q)))
theorem uB_rat {a b : Int} (h : uB a b = true) : ∃ r : Rat, a = r.num ∧ b = (r.den : Int) ∧ fits r = true ∧ 0 ≤ r ∧ r ≤ 1 := by
  simp only [uB, Bool.and_eq_true, decide_eq_true_eq] at h
  obtain ⟨r, e1, e2, e3⟩ := rat_of_good h.1
  refine ⟨r, e1.symm, e2.symm, e3, ?_, ?_⟩
  · rw [← Rat.num_nonneg, e1]; exact h.2.1
  · rw [Rat.le_iff]; simp; omega
theorem qp_parts (q : QP) : qp q = ((q.1.num, (q.1.den : Int)), (q.2.num, (q.2.den : Int))) := rfl
end Go.Proofs.Ytfiaioohkidgbaa

/-
  Chapter 2: IsMap of the model.
-/
import Derived.Test.YtldmgjeecomddaaGreatDoorIs
namespace Go.Proofs.YtldmgjeecomddaaGreatDoor
open Go.RowKit Rm

theorem raCmp_co (a b c d : Int) (w : World) (h1 : coB (a, b) = true) (h2 : coB (c, d) = true) : Calls Tryz.prog 22 #[.agg #[.int .i64 (a), .int .i64 (b)], .agg #[.int .i64 (c), .int .i64 (d)]] w fun e w' => e = .returned (.int .i64 (cmpI (a * d) (c * b))) ∧ Below w.heap.size w w' := by
  simp only [coB, Bool.and_eq_true] at h1 h2
  have hg : two a b c d = true := by simp [two, h1.1, h2.1]
  have h := raCmp_any a b c d w hg
  rw [show cmpR a b c d = cmpI (a * d) (c * b) by simp [cmpR, hg, cmpI_sign]] at h
  exact h
theorem cmpI_zero {a b : Int} : cmpI a b = 0 ↔ a = b := by
  unfold cmpI
  split
  · simp; omega
  · split
    · simp; omega
    · simp; omega
theorem ends_eq {a b a' b' : Int} (h : coB (a, b) = true) (h' : coB (a', b') = true) : ((a, b) == ((0, 1) : Fr) && (a', b') == ((1, 1) : Fr)) = (decide (cmpI (a * 1) (0 * b) = 0) && decide (cmpI (a' * 1) (1 * b') = 0)) := by
  have e1 : ((a, b) == ((0, 1) : Fr)) = decide (cmpI (a * 1) (0 * b) = 0) := by
    rw [Bool.eq_iff_iff, beq_iff_eq, decide_eq_true_eq, cmpI_zero, Int.mul_one, Int.zero_mul]
    constructor
    · intro e; exact congrArg Prod.fst e
    · rintro rfl; rw [zero_den h]
  have e2 : ((a', b') == ((1, 1) : Fr)) = decide (cmpI (a' * 1) (1 * b') = 0) := by
    rw [Bool.eq_iff_iff, beq_iff_eq, decide_eq_true_eq, cmpI_zero, Int.mul_one, Int.one_mul]
    constructor
    · intro e; rw [Prod.mk.injEq] at e; omega
    · rintro rfl
      simp only [coB, Bool.and_eq_true, decide_eq_true_eq] at h'
      have := good_iff.1 h'.1
      have e := this.2.2.2.2
      unfold G at e
      rw [Int.gcd_self] at e
      have : a' = 1 := by omega
      rw [this]
  rw [e1, e2]

end Go.Proofs.YtldmgjeecomddaaGreatDoor

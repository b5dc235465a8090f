/-
  Chapter 2: IsMap of the program and of the model.
-/
import Derived.Test.YtfiaioohkidgbaaO
import Derived.IntWalk
import Derived.Deep.RegionHeld3
import Derived.Deep.QuietTactic
namespace Go.Proofs.Ytfiaioohkidgbaa
open Go.RowKit Rm

/-- Operation i of a region, written out. -/
theorem op_at {ops : Array Oper} {l rest : List Oper} {i : Nat} {o : Oper} (h : ops = l.toArray) (hd : l.drop i = o :: rest) : ops[i]? = some o := by
  subst h
  rw [List.getElem?_toArray]
  have : l[i]? = (l.drop i)[0]? := by rw [List.getElem?_drop]; rfl
  rw [this, hd]; rfl

theorem coB_parts {a b : Int} (h : coB (a, b) = true) : 0 ≤ a ∧ a ≤ b ∧ 1 ≤ b ∧ b ≤ 100 := by
  simp only [coB, Bool.and_eq_true, decide_eq_true_eq] at h
  obtain ⟨hg, h0, h1, h2⟩ := h
  have := good_iff.1 hg
  omega
theorem okAt_x {ps : List Pt} {k : Nat} {p : Pt} (hp : pAt ps k = p) (h : coB p.1 = false) : okAt ps k = false := by simp [okAt, hp, h]
theorem okAt_y {ps : List Pt} {k : Nat} {p : Pt} (hp : pAt ps k = p) (h : coB p.2 = false) : okAt ps k = false := by simp [okAt, hp, h]
theorem okAt_zero {ps : List Pt} {p : Pt} (hp : pAt ps 0 = p) (h1 : coB p.1 = true) (h2 : coB p.2 = true) : okAt ps 0 = true := by simp [okAt, hp, h1, h2]
theorem okAt_succ {ps : List Pt} {k : Nat} {p q : Pt} (hp : pAt ps k = p) (hq : pAt ps (k + 1) = q) (h1 : coB q.1 = true) (h2 : coB q.2 = true) : okAt ps (k + 1) = ltF p.1 q.1 := by
  simp [okAt, hp, hq, h1, h2]
theorem okUp {ps : List Pt} {k : Nat} (h : ∀ i, i < k → okAt ps i = true) (hk : okAt ps k = true) : ∀ i, i < k + 1 → okAt ps i = true := by
  intro i hi
  rcases Nat.lt_or_eq_of_le (Nat.le_of_lt_succ hi) with h1 | rfl
  · exact h i h1
  · exact hk
theorem okAt_parts {ps : List Pt} {i : Nat} (h : okAt ps i = true) : coB (pAt ps i).1 = true ∧ coB (pAt ps i).2 = true := by
  simp only [okAt, Bool.and_eq_true] at h
  exact ⟨h.1, h.2.1⟩

theorem zero_den {b : Int} (h : coB (0, b) = true) : b = 1 := by
  simp only [coB, Bool.and_eq_true, decide_eq_true_eq] at h
  have := good_iff.1 h.1
  have e := this.2.2.2.2
  rwa [G_zero_left (by omega)] at e

end Go.Proofs.Ytfiaioohkidgbaa

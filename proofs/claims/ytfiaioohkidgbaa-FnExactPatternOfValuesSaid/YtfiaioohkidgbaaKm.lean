/-
  Ranks in a list whose elements are in a strict order; patterns. No Go here.
-/
import Derived.Test.YtfiaioohkidgbaaOm
namespace Go.Proofs.Ytfiaioohkidgbaa.Rm

/-- How many of the first m elements are less than element i. -/
def rkN (lt : Nat → Nat → Bool) (i : Nat) : Nat → Nat
  | 0 => 0
  | m + 1 => if lt m i then rkN lt i m + 1 else rkN lt i m
theorem rkN_le (lt : Nat → Nat → Bool) (i : Nat) : ∀ m, rkN lt i m ≤ m
  | 0 => Nat.le_refl _
  | m + 1 => by have := rkN_le lt i m; unfold rkN; split <;> omega
theorem rkN_lt {lt : Nat → Nat → Bool} {i : Nat} (h : lt i i = false) : ∀ m, i < m → rkN lt i m < m
  | 0, hi => absurd hi (by omega)
  | m + 1, hi => by
    rcases Nat.lt_or_eq_of_le (Nat.le_of_lt_succ hi) with h1 | h1
    · have := rkN_lt h m h1
      unfold rkN; split <;> omega
    · subst h1
      have := rkN_le lt i i
      simp [rkN, h]; omega
theorem rkN_mono {lt : Nat → Nat → Bool} {i j : Nat} {P : Nat} (h : ∀ t, t < P → lt t j = true → lt t i = true) : ∀ m, m ≤ P → rkN lt j m ≤ rkN lt i m
  | 0, _ => Nat.le_refl _
  | m + 1, hm => by
    have ih := rkN_mono h m (by omega)
    unfold rkN
    by_cases h1 : lt m j = true
    · rw [if_pos h1, if_pos (h m (by omega) h1)]; omega
    · rw [if_neg h1]; split <;> omega
theorem rkN_strict {lt : Nat → Nat → Bool} {i j : Nat} {P : Nat} (h : ∀ t, t < P → lt t j = true → lt t i = true) (hji : lt j i = true) (hjj : lt j j = false) : ∀ m, m ≤ P → j < m → rkN lt j m < rkN lt i m
  | 0, _, hj => absurd hj (by omega)
  | m + 1, hm, hj => by
    rcases Nat.lt_or_eq_of_le (Nat.le_of_lt_succ hj) with h1 | h1
    · have ih := rkN_strict h hji hjj m (by omega) h1
      unfold rkN
      by_cases h2 : lt m j = true
      · rw [if_pos h2, if_pos (h m (by omega) h2)]; omega
      · rw [if_neg h2]; split <;> omega
    · subst h1
      have := rkN_mono h j (by omega)
      unfold rkN
      rw [hjj, hji]
      simp; omega
/-- A strict order of the first P elements. -/
structure Strict (lt : Nat → Nat → Bool) (P : Nat) : Prop where
  irr : ∀ i, lt i i = false
  trans : ∀ i j k, lt i j = true → lt j k = true → lt i k = true
  tot : ∀ i j, i < P → j < P → i ≠ j → lt i j = true ∨ lt j i = true
theorem rk_order {lt : Nat → Nat → Bool} {P i j : Nat} (h : Strict lt P) (hi : i < P) (hj : j < P) : decide (rkN lt j P < rkN lt i P) = lt j i := by
  cases hl : lt j i with
  | true => exact decide_eq_true (rkN_strict (fun t _ ht => h.trans t j i ht hl) hl (h.irr j) P (Nat.le_refl _) hj)
  | false =>
    refine decide_eq_false ?_
    by_cases he : i = j
    · rw [he]; omega
    · rcases h.tot i j hi hj he with h1 | h1
      · have := rkN_strict (fun t _ ht => h.trans t i j ht h1) h1 (h.irr i) P (Nat.le_refl _) hi
        omega
      · rw [hl] at h1; cases h1
theorem rk_ne {lt : Nat → Nat → Bool} {P i j : Nat} (h : Strict lt P) (hi : i < P) (hj : j < P) (hne : i ≠ j) : rkN lt i P ≠ rkN lt j P := by
  rcases h.tot i j hi hj hne with h1 | h1
  · have := of_decide_eq_true ((rk_order h hj hi).trans h1); omega
  · have := of_decide_eq_true ((rk_order h hi hj).trans h1); omega
theorem rkN_congr {lt lt' : Nat → Nat → Bool} {i P : Nat} (h : ∀ t, t < P → lt t i = lt' t i) : ∀ m, m ≤ P → rkN lt i m = rkN lt' i m
  | 0, _ => rfl
  | m + 1, hm => by unfold rkN; rw [h m (by omega), rkN_congr h m (by omega)]
/-- The ranks of the ranks are the ranks. -/
theorem rk_rk {lt : Nat → Nat → Bool} {P : Nat} (h : Strict lt P) {i : Nat} (hi : i < P) : rkN (fun a b => decide (rkN lt a P < rkN lt b P)) i P = rkN lt i P :=
  rkN_congr (fun _ ht => rk_order h hi ht) P (Nat.le_refl _)
/-- The list of the ranks. -/
def rkL (lt : Nat → Nat → Bool) (P : Nat) : List Int := (List.range P).map fun i => ((rkN lt i P : Nat) : Int)
theorem rkL_len (lt : Nat → Nat → Bool) (P : Nat) : (rkL lt P).length = P := by simp [rkL]
theorem rkL_at {lt : Nat → Nat → Bool} {P i : Nat} (hi : i < P) : (rkL lt P)[i]? = some ((rkN lt i P : Nat) : Int) := by simp [rkL, hi]
/-- The pattern of ranks: at the rank of element k the rank of the next one. -/
def ptK (R : List Int) (P : Nat) : Nat → List Int
  | 0 => List.replicate P 0
  | k + 1 => (ptK R P k).set (R.getD k 0).toNat (R.getD ((k + 1) % P) 0)
theorem ptK_len (R : List Int) (P : Nat) : ∀ k, (ptK R P k).length = P
  | 0 => by simp [ptK]
  | k + 1 => by simp [ptK, ptK_len R P k]
def ltQ (cy : List Rat) (j i : Nat) : Bool := decide (cy.getD j 0 < cy.getD i 0)
theorem ltQ_strict {cy : List Rat} {P : Nat} (h : ∀ i j, i < P → j < P → i ≠ j → cy.getD i 0 ≠ cy.getD j 0) : Strict (ltQ cy) P := by
  refine ⟨fun i => decide_eq_false (by grind), fun i j k h1 h2 => ?_, fun i j hi hj hne => ?_⟩
  · have a := of_decide_eq_true h1
    have b := of_decide_eq_true h2
    exact decide_eq_true (by grind)
  · have := h i j hi hj hne
    by_cases hl : cy.getD i 0 < cy.getD j 0
    · exact .inl (decide_eq_true hl)
    · exact .inr (decide_eq_true (by grind))
theorem perK_all {l : List Rat} : ∀ {m : Nat}, perK l m = none → ∀ k, k < m → ixOf (l.take k) (l.getD k 0) = none
  | 0, _, k, hk => absurd hk (by omega)
  | m + 1, h, k, hk => by
    cases h1 : perK l m with
    | some r => simp [perK, h1] at h
    | none =>
      rcases Nat.lt_or_eq_of_le (Nat.le_of_lt_succ hk) with h2 | h2
      · exact perK_all h1 k h2
      · subst h2
        cases h3 : ixOf (l.take k) (l.getD k 0) with
        | none => rfl
        | some j => rw [perK_some h1 h3] at h; cases h
theorem ixOf_ne : ∀ {l : List Rat} {y : Rat}, ixOf l y = none → ∀ i, i < l.length → l.getD i 0 ≠ y
  | [], _, _, i, hi => by simp at hi
  | z :: l, y, h, i, hi => by
    unfold ixOf at h
    split at h
    · cases h
    · rename_i hz
      have h' : ixOf l y = none := by
        cases hr : ixOf l y with
        | none => rfl
        | some j => rw [hr] at h; cases h
      cases i with
      | zero => exact hz
      | succ i => exact ixOf_ne h' i (by simpa using hi)
/-- The fractions of a cycle are different. -/
theorem per_distinct {l : List Rat} {a b : Nat} (hl : a + b < l.length) (h : perK l (a + b) = none) : ∀ i j, i < a + b → j < a + b → i ≠ j → l.getD i 0 ≠ l.getD j 0 := by
  have key : ∀ i j, i < j → j < a + b → l.getD i 0 ≠ l.getD j 0 := fun i j hij hj => by
    have := ixOf_ne (perK_all h j hj) i (by simp; omega)
    rw [getD_take hij] at this
    exact this
  intro i j hi hj hne
  rcases Nat.lt_or_gt_of_ne hne with h1 | h1
  · exact key i j h1 hj
  · exact fun e => key j i h1 hi e.symm
end Go.Proofs.Ytfiaioohkidgbaa.Rm

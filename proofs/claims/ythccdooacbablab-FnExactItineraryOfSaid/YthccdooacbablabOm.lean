/-
  Chapter 4: orbits, over lists of rational numbers. No Go here.
-/
import Derived.Test.YthccdooacbablabM
namespace Go.Proofs.Ythccdooacbablab.Rm

theorem keep_some {r s : Rat} (h : keep r = some s) : s = r ∧ fits r = true := by
  unfold keep at h
  split at h
  · injection h with h; exact ⟨h.symm, by assumption⟩
  · cases h
theorem onR_some {p q : QP} {x y : Rat} (h : onR p q x = some y) : y = p.2 + slopeR p q * (x - p.1) ∧ fits y = true := by
  unfold onR osub omul oadd at h
  simp only [Option.bind_some] at h
  cases h1 : keep (x - p.1) with
  | none => rw [h1] at h; simp at h
  | some u =>
    rw [h1] at h
    simp only [Option.bind_some] at h
    cases h2 : keep (slopeR p q * u) with
    | none => rw [h2] at h; simp at h
    | some v =>
      rw [h2] at h
      simp only [Option.bind_some] at h
      obtain ⟨e1, _⟩ := keep_some h1
      obtain ⟨e2, _⟩ := keep_some h2
      obtain ⟨e3, hf⟩ := keep_some h
      subst e1 e2 e3
      exact ⟨rfl, hf⟩
/-- A value on a piece whose ends have values from 0 to 1 is from 0 to 1. -/
theorem onR_in {p q : QP} {x y : Rat} (hlt : p.1 < q.1) (h1 : p.1 ≤ x) (h2 : x ≤ q.1) (hp : co p.2) (hq : co q.2) (h : onR p q x = some y) : 0 ≤ y ∧ y ≤ 1 := by
  obtain ⟨e, _⟩ := onR_some h
  have hd : 0 < q.1 - p.1 := by grind
  have he : y * (q.1 - p.1) = p.2 * (q.1 - x) + q.2 * (x - p.1) := by
    rw [e]
    unfold slopeR
    have hne : q.1 - p.1 ≠ 0 := by grind
    have e2 : (q.2 - p.2) / (q.1 - p.1) * (q.1 - p.1) = q.2 - p.2 := Rat.div_mul_cancel hne
    generalize (q.2 - p.2) / (q.1 - p.1) = s at *
    grind
  have k1 : 0 ≤ p.2 * (q.1 - x) := Rat.mul_nonneg hp.1 (by grind)
  have k2 : 0 ≤ q.2 * (x - p.1) := Rat.mul_nonneg hq.1 (by grind)
  have k3 : 0 ≤ (1 - p.2) * (q.1 - x) := Rat.mul_nonneg (by have := hp.2.1; grind) (by grind)
  have k4 : 0 ≤ (1 - q.2) * (x - p.1) := Rat.mul_nonneg (by have := hq.2.1; grind) (by grind)
  constructor
  · apply Decidable.byContradiction; intro hn
    have : 0 < (-y) * (q.1 - p.1) := Rat.mul_pos (by grind) hd
    grind
  · apply Decidable.byContradiction; intro hn
    have : 0 < (y - 1) * (q.1 - p.1) := Rat.mul_pos (by grind) hd
    grind

/-- The first piece that has x. -/
structure PieceS (qs : List QP) (x : Rat) (i : Nat) : Prop where
  len : i + 1 < qs.length
  up : ∀ j, j < i → (qAt qs (j + 1)).1 < x
  at_ : ¬ (qAt qs (i + 1)).1 < x
theorem PieceS.val {qs : List QP} {x : Rat} {i : Nat} (h : PieceS qs x i) : vAt qs x = onR (qAt qs i) (qAt qs (i + 1)) x := vAt_eq h.len h.up fun _ => h.at_
theorem PieceS.uniq {qs : List QP} {x : Rat} {i j : Nat} (h : PieceS qs x i) (k : PieceS qs x j) : i = j := by
  rcases Nat.lt_trichotomy i j with h1 | h1 | h1
  · exact absurd (k.up i h1) h.at_
  · exact h1
  · exact absurd (h.up j h1) k.at_
theorem pieceS_of {qs : List QP} (hg : GMap qs) {x : Rat} {i : Nat} (h1 : x ≤ 1) (hl : i + 1 < qs.length) (hu : ∀ j, j < i → (qAt qs (j + 1)).1 < x) (ha : i + 2 < qs.length → ¬ (qAt qs (i + 1)).1 < x) : PieceS qs x i := by
  refine ⟨hl, hu, ?_⟩
  rcases Nat.lt_or_ge (i + 2) qs.length with h | h
  · exact ha h
  · have := hg.last
    rw [show qs.length - 1 = i + 1 by omega] at this
    rw [this]
    grind
theorem piece_upto (qs : List QP) (x : Rat) : ∀ m, m + 1 < qs.length → (∃ i, PieceS qs x i) ∨ ∀ j, j ≤ m → (qAt qs (j + 1)).1 < x
  | 0, h => by
    by_cases hc : (qAt qs (0 + 1)).1 < x
    · right
      intro j hj
      obtain rfl : j = 0 := by omega
      exact hc
    · exact .inl ⟨0, h, fun j hj => absurd hj (by omega), hc⟩
  | m + 1, h => by
    rcases piece_upto qs x m (by omega) with h1 | h1
    · exact .inl h1
    · by_cases hc : (qAt qs (m + 1 + 1)).1 < x
      · right
        intro j hj
        rcases Nat.lt_or_eq_of_le hj with h2 | rfl
        · exact h1 j (by omega)
        · exact hc
      · exact .inl ⟨m + 1, h, fun j hj => h1 j (by omega), hc⟩
theorem piece_ex {qs : List QP} (hg : GMap qs) {x : Rat} (h1 : x ≤ 1) : ∃ i, PieceS qs x i := by
  have hlo := hg.lo
  rcases piece_upto qs x (qs.length - 2) (by omega) with h | h
  · exact h
  · have hl := hg.last
    have := h (qs.length - 2) (Nat.le_refl _)
    rw [show qs.length - 2 + 1 = qs.length - 1 by omega, hl] at this
    grind
/-- A fraction from 0 to 1 of bounded size. -/
structure Un (x : Rat) : Prop where
  fit : fits x = true
  lo : 0 ≤ x
  hi : x ≤ 1
theorem vAt_unit {qs : List QP} (hg : GMap qs) {x y : Rat} (hx : Un x) (h : vAt qs x = some y) : Un y := by
  obtain ⟨i, hp⟩ := piece_ex hg hx.hi
  rw [hp.val] at h
  have hl := hp.len
  have hle : (qAt qs i).1 ≤ x := by
    rcases Nat.eq_zero_or_pos i with rfl | h0
    · rw [hg.first]; exact hx.lo
    · have := hp.up (i - 1) (by omega)
      rw [show i - 1 + 1 = i by omega] at this
      grind
  have hge : x ≤ (qAt qs (i + 1)).1 := by have := hp.at_; grind
  obtain ⟨_, hf⟩ := onR_some h
  obtain ⟨a, b⟩ := onR_in (hg.inc i hl) hle hge (hg.cy i (by omega)) (hg.cy (i + 1) hl) h
  exact ⟨hf, a, b⟩

/-- The fractions of an orbit as far as they can be computed, within n steps. -/
def run (qs : List QP) : Nat → Rat → List Rat
  | 0, x => [x]
  | n + 1, x => match vAt qs x with | none => [x] | some y => x :: run qs n y
theorem run_none {qs : List QP} {x : Rat} (h : vAt qs x = none) : ∀ n, run qs n x = [x]
  | 0 => rfl
  | n + 1 => by simp only [run, h]
theorem run_some {qs : List QP} {x y : Rat} (h : vAt qs x = some y) (n : Nat) : run qs (n + 1) x = x :: run qs n y := by simp only [run, h]
theorem run_ne (qs : List QP) (x : Rat) : ∀ n, ∃ l, run qs n x = x :: l
  | 0 => ⟨[], rfl⟩
  | n + 1 => by
    cases h : vAt qs x with
    | none => exact ⟨[], run_none h _⟩
    | some y => exact ⟨_, run_some h n⟩
theorem run_len (qs : List QP) : ∀ (n : Nat) (x : Rat), 1 ≤ (run qs n x).length ∧ (run qs n x).length ≤ n + 1
  | 0, x => by simp [run]
  | n + 1, x => by
    cases h : vAt qs x with
    | none => rw [run_none h]; simp
    | some y =>
      have := run_len qs n y
      rw [run_some h, List.length_cons]
      omega
theorem run_un {qs : List QP} (hg : GMap qs) : ∀ (n : Nat) (x : Rat), Un x → ∀ z ∈ run qs n x, Un z
  | 0, x, hx, z, hz => by
    have : z = x := by simpa [run] using hz
    rw [this]; exact hx
  | n + 1, x, hx, z, hz => by
    cases h : vAt qs x with
    | none =>
      rw [run_none h] at hz
      have : z = x := by simpa using hz
      rw [this]; exact hx
    | some y =>
      rw [run_some h] at hz
      rcases List.mem_cons.1 hz with rfl | h1
      · exact hx
      · exact run_un hg n y (vAt_unit hg hx h) z h1
theorem run_take (qs : List QP) : ∀ (n m : Nat) (x : Rat), m ≤ n → (run qs n x).length = n + 1 → run qs m x = (run qs n x).take (m + 1)
  | n, 0, x, _, _ => by
    obtain ⟨l, e⟩ := run_ne qs x n
    rw [e]; rfl
  | n + 1, m + 1, x, hm, hl => by
    cases h : vAt qs x with
    | none => rw [run_none h] at hl; simp at hl
    | some y =>
      rw [run_some h, List.length_cons] at hl
      rw [run_some h, run_some h, run_take qs n m y (by omega) (by omega), List.take_succ_cons]
/-- What the loops that lengthen an orbit keep: the fractions so far, and what is still to come behind the last one. -/
structure Runs (qs : List QP) (x : Rat) (n : Nat) (init : List Rat) (y : Rat) (m : Nat) : Prop where
  len : init.length + m = n
  eq : run qs n x = init ++ run qs m y
  un : Un y
theorem Runs.start (qs : List QP) {x : Rat} (hx : Un x) (n : Nat) : Runs qs x n [] x n := ⟨by simp, rfl, hx⟩
theorem Runs.stop {qs : List QP} {x y : Rat} {n m : Nat} {init : List Rat} (h : Runs qs x n init y m) (hn : vAt qs y = none) : run qs n x = init ++ [y] := by rw [h.eq, run_none hn]
theorem Runs.full {qs : List QP} {x y : Rat} {n : Nat} {init : List Rat} (h : Runs qs x n init y 0) : run qs n x = init ++ [y] := h.eq
theorem Runs.step {qs : List QP} (hg : GMap qs) {x y z : Rat} {n m : Nat} {init : List Rat} (h : Runs qs x n init y (m + 1)) (hs : vAt qs y = some z) : Runs qs x n (init ++ [y]) z m :=
  ⟨by have := h.len; simp; omega, by rw [h.eq, run_some hs]; simp, vAt_unit hg h.un hs⟩

/-! ### The first place of a fraction -/
def ixOf : List Rat → Rat → Option Nat
  | [], _ => none
  | z :: l, y => if z = y then some 0 else (ixOf l y).map (· + 1)
theorem ixOf_some : ∀ (l : List Rat) (y : Rat) (k : Nat), k < l.length → l.getD k 0 = y → (∀ i, i < k → l.getD i 0 ≠ y) → ixOf l y = some k
  | [], _, k, h, _, _ => by simp at h
  | z :: l, y, 0, _, h, _ => by
    have h' : z = y := h
    simp only [ixOf, if_pos h']
  | z :: l, y, k + 1, hk, h, hi => by
    have h0 : z ≠ y := hi 0 (by omega)
    simp only [ixOf, if_neg h0]
    rw [ixOf_some l y k (by simpa using hk) h (fun i h1 => hi (i + 1) (by omega))]
    rfl
theorem ixOf_none : ∀ (l : List Rat) (y : Rat), (∀ i, i < l.length → l.getD i 0 ≠ y) → ixOf l y = none
  | [], _, _ => rfl
  | z :: l, y, hi => by
    have h0 : z ≠ y := hi 0 (by simp)
    simp only [ixOf, if_neg h0]
    rw [ixOf_none l y (fun i h1 => hi (i + 1) (by simpa using h1))]
    rfl
theorem ixOf_lt : ∀ (l : List Rat) (y : Rat) (k : Nat), ixOf l y = some k → k < l.length ∧ l.getD k 0 = y ∧ ∀ i, i < k → l.getD i 0 ≠ y
  | [], _, _, h => by simp [ixOf] at h
  | z :: l, y, k, h => by
    unfold ixOf at h
    split at h
    · rename_i hz
      injection h with h
      subst h
      exact ⟨by simp, hz, fun i hi => absurd hi (by omega)⟩
    · rename_i hz
      cases hr : ixOf l y with
      | none => rw [hr] at h; simp at h
      | some j =>
        rw [hr] at h
        simp at h
        subst h
        obtain ⟨h1, h2, h3⟩ := ixOf_lt l y j hr
        refine ⟨by simpa using h1, h2, fun i hi => ?_⟩
        cases i with
        | zero => exact hz
        | succ i => exact h3 i (by omega)
theorem getD_take {l : List Rat} {m i : Nat} (h : i < m) : (l.take m).getD i 0 = l.getD i 0 := by
  simp only [List.getD_eq_getElem?_getD, List.getElem?_take, if_pos h]
/-- The first place at which a fraction is met again, with the place at which it has been met first: the preperiod and the period. -/
def perK (l : List Rat) : Nat → Option (Nat × Nat)
  | 0 => none
  | k + 1 => match perK l k with | some r => some r | none => (ixOf (l.take k) (l.getD k 0)).map fun j => (j, k - j)
def perO (l : List Rat) : Option (Nat × Nat) := perK l l.length
theorem perK_none {l : List Rat} {k : Nat} (h : perK l k = none) (h2 : ixOf (l.take k) (l.getD k 0) = none) : perK l (k + 1) = none := by simp only [perK, h, h2]; rfl
theorem perK_some {l : List Rat} {k j : Nat} (h : perK l k = none) (h2 : ixOf (l.take k) (l.getD k 0) = some j) : perK l (k + 1) = some (j, k - j) := by simp only [perK, h, h2]; rfl
theorem perK_keep {l : List Rat} {k : Nat} {r : Nat × Nat} (h : perK l k = some r) : ∀ m, perK l (k + m) = some r
  | 0 => h
  | m + 1 => by
    show perK l (k + m + 1) = _
    simp only [perK, perK_keep h m]
theorem perO_some {l : List Rat} {k : Nat} {r : Nat × Nat} (hk : k ≤ l.length) (h : perK l k = some r) : perO l = some r := by
  have := perK_keep h (l.length - k)
  rwa [show k + (l.length - k) = l.length by omega] at this
theorem perK_bd {l : List Rat} : ∀ {k : Nat} {a b : Nat}, perK l k = some (a, b) → 1 ≤ b ∧ a + b < k ∧ ixOf (l.take (a + b)) (l.getD (a + b) 0) = some a ∧ perK l (a + b) = none
  | 0, a, b, h => by simp [perK] at h
  | k + 1, a, b, h => by
    cases h1 : perK l k with
    | some r =>
      simp only [perK, h1, Option.some.injEq] at h
      subst h
      obtain ⟨h2, h3, h4⟩ := perK_bd h1
      exact ⟨h2, by omega, h4⟩
    | none =>
      cases h2 : ixOf (l.take k) (l.getD k 0) with
      | none => rw [perK_none h1 h2] at h; cases h
      | some j =>
        rw [perK_some h1 h2] at h
        simp only [Option.some.injEq, Prod.mk.injEq] at h
        obtain ⟨rfl, rfl⟩ := h
        have hj := (ixOf_lt _ _ _ h2).1
        have hj' : j < k := by simp at hj; omega
        rw [show j + (k - j) = k by omega]
        exact ⟨by omega, by omega, h2, h1⟩
end Go.Proofs.Ythccdooacbablab.Rm

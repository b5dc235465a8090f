/-
  Chapter 2: fixed points and the points before a value: lists of fractions in order, over rational numbers. No Go here.
-/
import Derived.Test.YthccdooacbablabM
namespace Go.Proofs.Ythccdooacbablab.Rm

/-- A fraction put in its place in a list, once. -/
def putL : List Rat → Rat → List Rat
  | [], x => [x]
  | y :: l, x => if y < x then y :: putL l x else if y = x then y :: l else x :: y :: l
theorem putL_end {x : Rat} : ∀ {l : List Rat}, (∀ z ∈ l, z < x) → putL l x = l ++ [x]
  | [], _ => rfl
  | y :: l, h => by
    have h0 : y < x := h y (by simp)
    simp only [putL, if_pos h0, putL_end (l := l) (fun z hz => h z (by simp [hz])), List.cons_append]
theorem putL_last {x : Rat} : ∀ {l : List Rat}, (∀ z ∈ l, z < x) → putL (l ++ [x]) x = l ++ [x]
  | [], _ => by
    have : ¬ x < x := by grind
    simp [putL, this]
  | y :: l, h => by
    have h0 : y < x := h y (by simp)
    simp only [List.cons_append, putL, if_pos h0, putL_last (l := l) (fun z hz => h z (by simp [hz]))]

section
variable (sd : QP → Int) (inn : QP → QP → Option Rat) (qs : List QP)
/-- What a point adds, its right neighbour at hand. -/
def pStep (l : List Rat) (p q : QP) : Option (List Rat) :=
  if sd p = 0 then some (l ++ [p.1]) else if sd p * sd q < 0 then (inn p q).map (fun x => l ++ [x]) else some l
/-- The list behind the first k points. -/
def pwK : Nat → Option (List Rat)
  | 0 => some []
  | k + 1 => (pwK k).bind fun l => if k + 1 < qs.length then pStep sd inn l (qAt qs k) (qAt qs (k + 1)) else if sd (qAt qs k) = 0 then some (l ++ [(qAt qs k).1]) else some l
/-- What a piece puts. -/
def mStep (l : List Rat) (p q : QP) : Option (List Rat) :=
  let l1 := if sd p = 0 then putL l p.1 else l
  let l2 := if sd q = 0 then putL l1 q.1 else l1
  if sd p * sd q < 0 then (inn p q).map (putL l2) else some l2
/-- The list behind the first k pieces. -/
def mwK : Nat → Option (List Rat)
  | 0 => some []
  | k + 1 => (mwK k).bind fun l => mStep sd inn l (qAt qs k) (qAt qs (k + 1))
def tailOf (p : QP) : List Rat := if sd p = 0 then [p.1] else []
variable {sd inn qs}
theorem mStep_eq {l l0 : List Rat} {p q : QP} (hl : ∀ z ∈ l, z < p.1) (hpq : p.1 < q.1) (h0 : l0 = l ++ tailOf sd p ∨ l0 = l)
    (hin : sd p * sd q < 0 → ∀ x, inn p q = some x → p.1 < x ∧ x < q.1) :
    mStep sd inn l0 p q = (pStep sd inn l p q).map (fun m => m ++ tailOf sd q) ∧ ∀ m, pStep sd inn l p q = some m → ∀ z ∈ m, z < q.1 := by
  have hlt : ∀ z ∈ l, z < q.1 := fun z hz => by have := hl z hz; grind
  by_cases hp : sd p = 0
  · have e1 : (if sd p = 0 then putL l0 p.1 else l0) = l ++ [p.1] := by
      rw [if_pos hp]
      rcases h0 with rfl | rfl
      · rw [tailOf, if_pos hp]; exact putL_last hl
      · exact putL_end hl
    have hz : ¬ sd p * sd q < 0 := by rw [hp, Int.zero_mul]; omega
    have hall : ∀ z ∈ l ++ [p.1], z < q.1 := fun z hz => by
      rcases List.mem_append.1 hz with h | h
      · exact hlt z h
      · rw [List.mem_singleton.1 h]; exact hpq
    have ep : pStep sd inn l p q = some (l ++ [p.1]) := by unfold pStep; rw [if_pos hp]
    refine ⟨?_, fun m hm => by rw [ep] at hm; injection hm with hm; subst hm; exact hall⟩
    unfold mStep
    rw [e1, if_neg hz, ep]
    simp only [Option.map_some, tailOf]
    by_cases hq : sd q = 0
    · rw [if_pos hq, if_pos hq, putL_end hall]
    · rw [if_neg hq, if_neg hq, List.append_nil]
  · have e0 : l0 = l := by rcases h0 with rfl | rfl; (rw [tailOf, if_neg hp, List.append_nil]); rfl
    subst e0
    have e1 : (if sd p = 0 then putL l0 p.1 else l0) = l0 := if_neg hp
    unfold mStep
    rw [e1]
    by_cases hz : sd p * sd q < 0
    · have hq : sd q ≠ 0 := fun e => by rw [e, Int.mul_zero] at hz; omega
      dsimp only
      rw [if_neg hq, if_pos hz]
      have ep : pStep sd inn l0 p q = (inn p q).map (fun x => l0 ++ [x]) := by unfold pStep; rw [if_neg hp, if_pos hz]
      rw [ep]
      cases hi : inn p q with
      | none => simp
      | some x =>
        obtain ⟨x1, x2⟩ := hin hz x hi
        have hx : ∀ z ∈ l0, z < x := fun z hz' => by have := hl z hz'; grind
        simp only [Option.map_some, tailOf, if_neg hq, List.append_nil, putL_end hx, Option.some.injEq, true_and]
        rintro m rfl z hz'
        rcases List.mem_append.1 hz' with h | h
        · exact hlt z h
        · rw [List.mem_singleton.1 h]; exact x2
    · rw [if_neg hz]
      have ep : pStep sd inn l0 p q = some l0 := by unfold pStep; rw [if_neg hp, if_neg hz]
      rw [ep]
      refine ⟨?_, fun m hm => by injection hm with hm; subst hm; exact hlt⟩
      simp only [Option.map_some, tailOf]
      by_cases hq : sd q = 0
      · rw [if_pos hq, if_pos hq, putL_end hlt]
      · rw [if_neg hq, if_neg hq, List.append_nil]
theorem mw_pw (hinc : ∀ k, k + 1 < qs.length → (qAt qs k).1 < (qAt qs (k + 1)).1)
    (hin : ∀ k, k + 1 < qs.length → sd (qAt qs k) * sd (qAt qs (k + 1)) < 0 → ∀ x, inn (qAt qs k) (qAt qs (k + 1)) = some x → (qAt qs k).1 < x ∧ x < (qAt qs (k + 1)).1) :
    ∀ k, k + 1 < qs.length → mwK sd inn qs (k + 1) = (pwK sd inn qs (k + 1)).map (fun m => m ++ tailOf sd (qAt qs (k + 1))) ∧ ∀ m, pwK sd inn qs (k + 1) = some m → ∀ z ∈ m, z < (qAt qs (k + 1)).1
  | 0, hk => by
    have h := mStep_eq (sd := sd) (inn := inn) (l := []) (l0 := []) (p := qAt qs 0) (q := qAt qs 1) (by simp) (hinc 0 hk) (.inr rfl) (hin 0 hk)
    simp only [mwK, pwK, Option.bind_some, Nat.zero_add, if_pos hk]
    exact h
  | k + 1, hk => by
    obtain ⟨h1, h2⟩ := mw_pw hinc hin k (by omega)
    rw [show mwK sd inn qs (k + 1 + 1) = (mwK sd inn qs (k + 1)).bind fun l => mStep sd inn l (qAt qs (k + 1)) (qAt qs (k + 1 + 1)) from rfl, h1]
    rw [show pwK sd inn qs (k + 1 + 1) = (pwK sd inn qs (k + 1)).bind fun l => pStep sd inn l (qAt qs (k + 1)) (qAt qs (k + 1 + 1)) by simp only [pwK, if_pos hk]]
    cases hp : pwK sd inn qs (k + 1) with
    | none => simp
    | some l =>
      simp only [Option.map_some, Option.bind_some]
      exact mStep_eq (h2 l hp) (hinc (k + 1) hk) (.inl rfl) (hin (k + 1) hk)
/-- Both lists are the same in the end. -/
theorem mw_pw_end {n : Nat} (hn : qs.length = n + 1 + 1) (hinc : ∀ k, k + 1 < qs.length → (qAt qs k).1 < (qAt qs (k + 1)).1)
    (hin : ∀ k, k + 1 < qs.length → sd (qAt qs k) * sd (qAt qs (k + 1)) < 0 → ∀ x, inn (qAt qs k) (qAt qs (k + 1)) = some x → (qAt qs k).1 < x ∧ x < (qAt qs (k + 1)).1) :
    mwK sd inn qs (n + 1) = pwK sd inn qs (n + 1 + 1) := by
  obtain ⟨h1, _⟩ := mw_pw hinc hin n (by omega)
  rw [h1]
  simp only [show pwK sd inn qs (n + 1 + 1) = (pwK sd inn qs (n + 1)).bind fun l => if n + 1 + 1 < qs.length then pStep sd inn l (qAt qs (n + 1)) (qAt qs (n + 1 + 1)) else if sd (qAt qs (n + 1)) = 0 then some (l ++ [(qAt qs (n + 1)).1]) else some l from rfl, hn, Nat.lt_irrefl, if_false]
  cases pwK sd inn qs (n + 1) with
  | none => rfl
  | some l =>
    simp only [Option.map_some, Option.bind_some, tailOf]
    split <;> simp
theorem pwK_len : ∀ (k : Nat) (m : List Rat), pwK sd inn qs k = some m → m.length ≤ k
  | 0, m, h => by simp only [pwK, Option.some.injEq] at h; subst h; simp
  | k + 1, m, h => by
    simp only [pwK] at h
    cases hp : pwK sd inn qs k with
    | none => rw [hp] at h; cases h
    | some l =>
      have := pwK_len k l hp
      rw [hp] at h
      simp only [Option.bind_some, pStep] at h
      split at h
      · split at h
        · injection h with h; subst h; simp; omega
        · split at h
          · cases hi : inn (qAt qs k) (qAt qs (k + 1)) with
            | none => rw [hi] at h; cases h
            | some x => rw [hi] at h; injection h with h; subst h; simp; omega
          · injection h with h; subst h; omega
      · split at h
        · injection h with h; subst h; simp; omega
        · injection h with h; subst h; omega
end

/-! ### What lies within a piece -/
/-- u d / e lies strictly between 0 and d where u lies strictly between 0 and e. -/
theorem within {u d e f : Rat} (hd : 0 < d) (hf : f * e = u * d) (h : (0 < u ∧ u < e) ∨ (u < 0 ∧ e < u)) : 0 < f ∧ f < d := by
  rcases h with ⟨h1, h2⟩ | ⟨h1, h2⟩
  · have he : 0 < e := by grind
    have k1 := Rat.mul_pos h1 hd
    have k2 : 0 < (e - u) * d := Rat.mul_pos (by grind) hd
    constructor
    · apply Decidable.byContradiction; intro hn
      have : 0 ≤ (-f) * e := Rat.mul_nonneg (by grind) (by grind)
      grind
    · apply Decidable.byContradiction; intro hn
      have : 0 ≤ (f - d) * e := Rat.mul_nonneg (by grind) (by grind)
      grind
  · have he : 0 < -e := by grind
    have k1 : 0 < (-u) * d := Rat.mul_pos (by grind) hd
    have k2 : 0 < (u - e) * d := Rat.mul_pos (by grind) hd
    constructor
    · apply Decidable.byContradiction; intro hn
      have : 0 ≤ (-f) * (-e) := Rat.mul_nonneg (by grind) (by grind)
      grind
    · apply Decidable.byContradiction; intro hn
      have : 0 ≤ (f - d) * (-e) := Rat.mul_nonneg (by grind) (by grind)
      grind
theorem cq_mul_neg {a b c d : Rat} (h : cq a b * cq c d < 0) : (a < b ∧ d < c) ∨ (b < a ∧ c < d) := by
  unfold cq at h
  split at h
  · split at h
    · omega
    · split at h
      · exact .inl ⟨by assumption, by assumption⟩
      · omega
  · split at h
    · split at h
      · exact .inr ⟨by assumption, by assumption⟩
      · split at h <;> omega
    · omega
/-- The fraction with a value, where the ends have values on both sides of it. -/
theorem backQ_in {p q : QP} {y : Rat} (hlt : p.1 < q.1) (h : cq p.2 y * cq q.2 y < 0) : p.1 < p.1 + (y - p.2) / slopeR p q ∧ p.1 + (y - p.2) / slopeR p q < q.1 := by
  have hk : (0 < y - p.2 ∧ y - p.2 < q.2 - p.2) ∨ (y - p.2 < 0 ∧ q.2 - p.2 < y - p.2) := by
    rcases cq_mul_neg h with ⟨h1, h2⟩ | ⟨h1, h2⟩
    · left; constructor <;> grind
    · right; constructor <;> grind
  have hd : 0 < q.1 - p.1 := by grind
  have he : q.2 - p.2 ≠ 0 := by rcases hk with ⟨h1, h2⟩ | ⟨h1, h2⟩ <;> grind
  have hf : (y - p.2) / slopeR p q * (q.2 - p.2) = (y - p.2) * (q.1 - p.1) := by
    unfold slopeR
    have hd' : q.1 - p.1 ≠ 0 := by grind
    generalize q.1 - p.1 = D at *
    generalize q.2 - p.2 = E at *
    generalize y - p.2 = U at *
    grind
  obtain ⟨h1, h2⟩ := within hd hf hk
  constructor <;> grind
/-- The fraction that is its own value. -/
def fixR (p q : QP) : Rat := (q.1 * p.2 - p.1 * q.2) / ((q.1 - p.1) - (q.2 - p.2))
theorem fixR_ne {p q : QP} (h : cq p.2 p.1 * cq q.2 q.1 < 0) : (q.1 - p.1) - (q.2 - p.2) ≠ 0 := by
  rcases cq_mul_neg h with ⟨h1, h2⟩ | ⟨h1, h2⟩ <;> grind
theorem fixR_in {p q : QP} (hlt : p.1 < q.1) (h : cq p.2 p.1 * cq q.2 q.1 < 0) : p.1 < fixR p q ∧ fixR p q < q.1 := by
  have hne := fixR_ne h
  have hk : (0 < p.2 - p.1 ∧ p.2 - p.1 < (q.1 - p.1) - (q.2 - p.2)) ∨ (p.2 - p.1 < 0 ∧ (q.1 - p.1) - (q.2 - p.2) < p.2 - p.1) := by
    rcases cq_mul_neg h with ⟨h1, h2⟩ | ⟨h1, h2⟩
    · right; constructor <;> grind
    · left; constructor <;> grind
  have hd : 0 < q.1 - p.1 := by grind
  have hf : (fixR p q - p.1) * ((q.1 - p.1) - (q.2 - p.2)) = (p.2 - p.1) * (q.1 - p.1) := by
    unfold fixR
    have e : (q.1 * p.2 - p.1 * q.2) / ((q.1 - p.1) - (q.2 - p.2)) * ((q.1 - p.1) - (q.2 - p.2)) = q.1 * p.2 - p.1 * q.2 := Rat.div_mul_cancel hne
    generalize (q.1 * p.2 - p.1 * q.2) / ((q.1 - p.1) - (q.2 - p.2)) = X at *
    grind
  obtain ⟨h1, h2⟩ := within hd hf hk
  constructor <;> grind
theorem mul_co_parts {a b : Rat} (ha : co a) (hb : co b) : 0 ≤ a.num * b.num ∧ a.num * b.num ≤ 10000 ∧ 1 ≤ (a.den : Int) * b.den ∧ (a.den : Int) * b.den ≤ 10000 := by
  obtain ⟨a0, a1, a2, a3⟩ := co_parts ha
  obtain ⟨b0, b1, b2, b3⟩ := co_parts hb
  have k1 := mul_bd (a := a.num) (d := b.num) (A := 100) (D := 100) (by omega) (by omega) (by omega) (by omega)
  have k2 := mul_bd (a := a.den) (d := b.den) (A := 100) (D := 100) (by omega) (by omega) (by omega) (by omega)
  have k3 := Int.mul_nonneg a0 b0
  have k4 := prod_pos a2 b2
  omega
theorem mul_co_fits {a b : Rat} (ha : co a) (hb : co b) : fits (a * b) = true := by
  obtain ⟨h1, h2, h3, h4⟩ := mul_co_parts ha hb
  exact small_of (by omega) (divInt_mul a b).symm 10000 10000 (by omega) (by omega) (by omega) (by omega)
/-- Numerator and denominator of what is divided, over one common product. -/
theorem fix_parts {p q : QP} (h1 : co p.1) (h2 : co p.2) (h3 : co q.1) (h4 : co q.2) :
    ∃ N M D : Int, 1 ≤ D ∧ D ≤ 100000000 ∧ -100000000 ≤ N ∧ N ≤ 100000000 ∧ -200000000 ≤ M ∧ M ≤ 200000000 ∧ q.1 * p.2 - p.1 * q.2 = Rat.divInt N D ∧ (q.1 - p.1) - (q.2 - p.2) = Rat.divInt M D := by
  obtain ⟨a1, a2, a3, a4⟩ := mul_co_parts h3 h2
  obtain ⟨b1, b2, b3, b4⟩ := mul_co_parts h1 h4
  obtain ⟨c1, c2, c3, c4⟩ := mul_co_parts h3 h1
  obtain ⟨d1, d2, d3, d4⟩ := mul_co_parts h4 h2
  obtain ⟨p10, p11, p12, p13⟩ := co_parts h1
  obtain ⟨p20, p21, p22, p23⟩ := co_parts h2
  obtain ⟨q10, q11, q12, q13⟩ := co_parts h3
  obtain ⟨q20, q21, q22, q23⟩ := co_parts h4
  have n1 : -10000 ≤ q.1.num * p.1.den - p.1.num * q.1.den ∧ q.1.num * p.1.den - p.1.num * q.1.den ≤ 10000 := by
    have k1 := mul_bd (a := q.1.num) (d := p.1.den) (A := 100) (D := 100) (by omega) (by omega) (by omega) (by omega)
    have k2 := mul_bd (a := p.1.num) (d := q.1.den) (A := 100) (D := 100) (by omega) (by omega) (by omega) (by omega)
    have k3 := Int.mul_nonneg q10 (show 0 ≤ (p.1.den : Int) by omega)
    have k4 := Int.mul_nonneg p10 (show 0 ≤ (q.1.den : Int) by omega)
    omega
  have n2 : -10000 ≤ q.2.num * p.2.den - p.2.num * q.2.den ∧ q.2.num * p.2.den - p.2.num * q.2.den ≤ 10000 := by
    have k1 := mul_bd (a := q.2.num) (d := p.2.den) (A := 100) (D := 100) (by omega) (by omega) (by omega) (by omega)
    have k2 := mul_bd (a := p.2.num) (d := q.2.den) (A := 100) (D := 100) (by omega) (by omega) (by omega) (by omega)
    have k3 := Int.mul_nonneg q20 (show 0 ≤ (p.2.den : Int) by omega)
    have k4 := Int.mul_nonneg p20 (show 0 ≤ (q.2.den : Int) by omega)
    omega
  have z1 : (q.1.den : Int) * p.2.den ≠ 0 := by omega
  have z2 : (p.1.den : Int) * q.2.den ≠ 0 := by omega
  have z3 : (q.1.den : Int) * p.1.den ≠ 0 := by omega
  have z4 : (q.2.den : Int) * p.2.den ≠ 0 := by omega
  have eD : ((q.1.den : Int) * p.1.den) * ((q.2.den : Int) * p.2.den) = ((q.1.den : Int) * p.2.den) * ((p.1.den : Int) * q.2.den) := by
    generalize (q.1.den : Int) = a at *
    generalize (p.1.den : Int) = b at *
    generalize (q.2.den : Int) = c at *
    generalize (p.2.den : Int) = d at *
    grind
  refine ⟨q.1.num * p.2.num * (p.1.den * q.2.den) - p.1.num * q.2.num * (q.1.den * p.2.den), (q.1.num * p.1.den - p.1.num * q.1.den) * (q.2.den * p.2.den) - (q.2.num * p.2.den - p.2.num * q.2.den) * (q.1.den * p.1.den), (q.1.den * p.2.den) * (p.1.den * q.2.den), ?_, ?_, ?_, ?_, ?_, ?_, ?_, ?_⟩
  · have := prod_pos a3 b3; omega
  · have := (mul_bd (a := (q.1.den : Int) * p.2.den) (d := (p.1.den : Int) * q.2.den) (A := 10000) (D := 10000) (by omega) (by omega) (by omega) (by omega)).2; omega
  · have k1 := mul_bd (a := q.1.num * p.2.num) (d := (p.1.den : Int) * q.2.den) (A := 10000) (D := 10000) (by omega) (by omega) (by omega) (by omega)
    have k2 := mul_bd (a := p.1.num * q.2.num) (d := (q.1.den : Int) * p.2.den) (A := 10000) (D := 10000) (by omega) (by omega) (by omega) (by omega)
    have k3 := Int.mul_nonneg a1 (show 0 ≤ (p.1.den : Int) * q.2.den by omega)
    have k4 := Int.mul_nonneg b1 (show 0 ≤ (q.1.den : Int) * p.2.den by omega)
    omega
  · have k1 := mul_bd (a := q.1.num * p.2.num) (d := (p.1.den : Int) * q.2.den) (A := 10000) (D := 10000) (by omega) (by omega) (by omega) (by omega)
    have k2 := mul_bd (a := p.1.num * q.2.num) (d := (q.1.den : Int) * p.2.den) (A := 10000) (D := 10000) (by omega) (by omega) (by omega) (by omega)
    have k3 := Int.mul_nonneg a1 (show 0 ≤ (p.1.den : Int) * q.2.den by omega)
    have k4 := Int.mul_nonneg b1 (show 0 ≤ (q.1.den : Int) * p.2.den by omega)
    omega
  · have k1 := mul_bd (a := q.1.num * p.1.den - p.1.num * q.1.den) (d := (q.2.den : Int) * p.2.den) (A := 10000) (D := 10000) (by omega) (by omega) (by omega) (by omega)
    have k2 := mul_bd (a := q.2.num * p.2.den - p.2.num * q.2.den) (d := (q.1.den : Int) * p.1.den) (A := 10000) (D := 10000) (by omega) (by omega) (by omega) (by omega)
    omega
  · have k1 := mul_bd (a := q.1.num * p.1.den - p.1.num * q.1.den) (d := (q.2.den : Int) * p.2.den) (A := 10000) (D := 10000) (by omega) (by omega) (by omega) (by omega)
    have k2 := mul_bd (a := q.2.num * p.2.den - p.2.num * q.2.den) (d := (q.1.den : Int) * p.1.den) (A := 10000) (D := 10000) (by omega) (by omega) (by omega) (by omega)
    omega
  · rw [← Rat.divInt_sub_divInt _ _ z1 z2, divInt_mul, divInt_mul]
  · rw [← eD, ← Rat.divInt_sub_divInt _ _ z3 z4, divInt_sub, divInt_sub]
theorem fix_num_fits {p q : QP} (h1 : co p.1) (h2 : co p.2) (h3 : co q.1) (h4 : co q.2) : fits (q.1 * p.2 - p.1 * q.2) = true := by
  obtain ⟨N, M, D, a1, a2, a3, a4, a5, a6, e, f⟩ := fix_parts h1 h2 h3 h4
  exact small_of (by omega) e 100000000 100000000 (by omega) (by omega) (by omega) (by omega)
theorem fix_den_fits {p q : QP} (h1 : co p.1) (h2 : co p.2) (h3 : co q.1) (h4 : co q.2) : fits ((q.1 - p.1) - (q.2 - p.2)) = true := by
  obtain ⟨N, M, D, a1, a2, a3, a4, a5, a6, e, f⟩ := fix_parts h1 h2 h3 h4
  exact small_of (by omega) f 200000000 100000000 (by omega) (by omega) (by omega) (by omega)
theorem fix_fits {p q : QP} (h1 : co p.1) (h2 : co p.2) (h3 : co q.1) (h4 : co q.2) (hne : (q.1 - p.1) - (q.2 - p.2) ≠ 0) : fits (fixR p q) = true := by
  obtain ⟨N, M, D, a1, a2, a3, a4, a5, a6, e, f⟩ := fix_parts h1 h2 h3 h4
  have hD : D ≠ 0 := by omega
  have hM : M ≠ 0 := by
    rintro rfl
    rw [Rat.zero_divInt] at f
    exact hne f
  refine small_of hM (n := N) ?_ 100000000 200000000 (by omega) (by omega) (by omega) (by omega)
  unfold fixR
  rw [e, f, Rat.div_def, Rat.inv_divInt, Rat.divInt_mul_divInt, Int.mul_comm D M]
  exact Rat.divInt_mul_right hD
end Go.Proofs.Ythccdooacbablab.Rm

/-
  The arithmetic of chapter 1 over Lean's integers: greatest common divisors, fractions in lowest terms, floors. No Go here.
-/
import Derived.KernelRfl
namespace Go.Proofs.Ythccdooacbablab.Rm

/-- The greatest common divisor, as an integer. -/
def G (a b : Int) : Int := ((Int.gcd a b : Nat) : Int)
theorem G_emod (a b : Int) : G (b % a) a = G a b := by
  unfold G
  rw [Int.emod_def, Int.gcd_sub_mul_left_left, Int.gcd_comm]
theorem G_comm (a b : Int) : G a b = G b a := by unfold G; rw [Int.gcd_comm]
theorem G_zero_left {b : Int} (h : 0 ≤ b) : G 0 b = b := by unfold G; rw [Int.gcd_zero_left]; omega
theorem G_zero_right {b : Int} (h : 0 ≤ b) : G b 0 = b := by rw [G_comm]; exact G_zero_left h
theorem G_neg_left (a b : Int) : G (-a) b = G a b := by unfold G; rw [Int.neg_gcd]
theorem G_neg_right (a b : Int) : G a (-b) = G a b := by unfold G; rw [Int.gcd_neg]
theorem G_nonneg (a b : Int) : 0 ≤ G a b := by unfold G; omega
theorem G_pos {a b : Int} (h : b ≠ 0) : 1 ≤ G a b := by
  unfold G
  have := Int.gcd_pos_of_ne_zero_right a h
  omega
theorem G_dvd_left (a b : Int) : G a b ∣ a := Int.gcd_dvd_left a b
theorem G_dvd_right (a b : Int) : G a b ∣ b := Int.gcd_dvd_right a b
theorem G_le_right {a b : Int} (h : 0 < b) : G a b ≤ b := Int.gcd_le_right a h

/-- n lies in lo..hi. -/
def inB (lo hi n : Int) : Bool := decide (lo ≤ n ∧ n ≤ hi)
theorem inB_yes {lo hi n : Int} (h : lo ≤ n ∧ n ≤ hi) : inB lo hi n = true := decide_eq_true h
theorem inB_no {lo hi n : Int} (h : ¬ (lo ≤ n ∧ n ≤ hi)) : inB lo hi n = false := decide_eq_false h
/-- A valid fraction. -/
def good (n d : Int) : Bool := decide (1 ≤ d) && decide (d ≤ 1000000000) && decide (-1000000000 ≤ n) && decide (n ≤ 1000000000) && (G n d == 1)
theorem good_iff {n d : Int} : good n d = true ↔ (1 ≤ d ∧ d ≤ 1000000000 ∧ -1000000000 ≤ n ∧ n ≤ 1000000000 ∧ G n d = 1) := by
  simp [good, and_assoc]
theorem good_false {n d : Int} (h : ¬ (1 ≤ d ∧ d ≤ 1000000000 ∧ -1000000000 ≤ n ∧ n ≤ 1000000000)) : good n d = false := by
  rw [Bool.eq_false_iff]; intro hg
  have := good_iff.1 hg
  exact h ⟨this.1, this.2.1, this.2.2.1, this.2.2.2.1⟩
theorem good_in {n d : Int} (h : 1 ≤ d ∧ d ≤ 1000000000 ∧ -1000000000 ≤ n ∧ n ≤ 1000000000) : good n d = (G n d == 1) := by
  simp [good, h.1, h.2.1, h.2.2.1, h.2.2.2]

/-- The sign of the denominator goes to the numerator. -/
def sg (d n : Int) : Int := if d < 0 then -n else n
/-- Numerator and denominator of n / d in lowest terms. -/
def mN (n d : Int) : Int := sg d n / G n d
def mD (n d : Int) : Int := sg d d / G n d
/-- Is there a valid fraction n / d? -/
def mok (n d : Int) : Bool := decide (d ≠ 0 ∧ mD n d ≤ 1000000000 ∧ -1000000000 ≤ mN n d ∧ mN n d ≤ 1000000000)
/-- What MakeRat returns. -/
def rN (n d : Int) : Int := if mok n d then mN n d else 0
def rD (n d : Int) : Int := if mok n d then mD n d else 0

theorem sg_dvd {c d n : Int} (h : c ∣ n) : c ∣ sg d n := by
  unfold sg; split
  · exact (Int.dvd_neg).2 h
  · exact h
theorem sg_self_pos {d : Int} (h : d ≠ 0) : 1 ≤ sg d d := by unfold sg; split <;> omega
theorem mD_pos {n d : Int} (h : d ≠ 0) : 1 ≤ mD n d := by
  unfold mD
  have h1 := sg_self_pos h
  have h2 : G n d ∣ sg d d := sg_dvd (G_dvd_right n d)
  have h3 := G_pos (a := n) h
  obtain ⟨k, hk⟩ := h2
  rw [hk, Int.mul_ediv_cancel_left _ (by omega)]
  rcases Int.lt_or_le 0 k with hk0 | hk0
  · omega
  · have : G n d * k ≤ 0 := Int.mul_nonpos_of_nonneg_of_nonpos (by omega) hk0
    omega
theorem sg_mul (d n k : Int) : sg d (n * k) = n * sg d k := by unfold sg; split <;> simp [Int.mul_neg]
theorem G_sg (d x y : Int) : G (sg d x) (sg d y) = G x y := by
  unfold sg; split
  · rw [G_neg_left, G_neg_right]
  · rfl
/-- Lowest terms have no common divisor. -/
theorem G_m {n d : Int} (h : d ≠ 0) : G (mN n d) (mD n d) = 1 := by
  have hp := G_pos (a := n) h
  have e : Int.gcd (n / G n d) (d / G n d) = 1 := Int.gcd_ediv_gcd_ediv_gcd (by unfold G at hp; omega)
  have en : mN n d = sg d (n / G n d) := by
    obtain ⟨k, hk⟩ := G_dvd_left n d
    have : n / G n d = k := by rw [hk]; conv => lhs; lhs; rw [Int.mul_comm]
                               rw [← hk]; exact Int.mul_ediv_cancel _ (by omega)
    rw [this]; unfold mN
    conv => lhs; lhs; rw [hk]
    rw [sg_mul]; exact Int.mul_ediv_cancel_left _ (by omega)
  have ed : mD n d = sg d (d / G n d) := by
    obtain ⟨k, hk⟩ := G_dvd_right n d
    have hk' : d / G n d = k := by
      have : d / G n d = (G n d * k) / G n d := by rw [← hk]
      rw [this]; exact Int.mul_ediv_cancel_left _ (by omega)
    rw [hk']; unfold mD
    have : sg d d = G n d * sg d k := by rw [← sg_mul, ← hk]
    rw [this]; exact Int.mul_ediv_cancel_left _ (by omega)
  rw [en, ed, G_sg]
  unfold G at e ⊢
  omega
theorem good_m {n d : Int} (h : d ≠ 0) : good (mN n d) (mD n d) = mok n d := by
  have h1 := mD_pos (n := n) h
  have h2 := G_m (n := n) h
  simp [good, mok, h, h1, h2, Bool.and_assoc]
theorem abs_ediv_le {a g : Int} (hg : 1 ≤ g) (b : Int) (h1 : -b ≤ a) (h2 : a ≤ b) : -b ≤ a / g ∧ a / g ≤ b := by
  have hb : 0 ≤ b := by omega
  constructor
  · rw [Int.le_ediv_iff_mul_le (by omega)]
    have : -b * g ≤ -b * 1 := Int.mul_le_mul_of_nonpos_left (by omega) hg
    omega
  · exact Int.le_trans (Int.ediv_le_ediv (by omega) h2) (Int.ediv_le_self g hb)

theorem mN_bound {n d : Int} (hd : d ≠ 0) (b : Int) (h1 : -b ≤ n) (h2 : n ≤ b) : -b ≤ mN n d ∧ mN n d ≤ b := by
  have := G_pos (a := n) hd
  exact abs_ediv_le this b (by unfold sg; split <;> omega) (by unfold sg; split <;> omega)
theorem mD_bound {n d : Int} (hd : d ≠ 0) (b : Int) (h1 : -b ≤ d) (h2 : d ≤ b) : -b ≤ mD n d ∧ mD n d ≤ b := by
  have := G_pos (a := n) hd
  exact abs_ediv_le this b (by unfold sg; split <;> omega) (by unfold sg; split <;> omega)
theorem tdiv_N {n d : Int} : (sg d n).tdiv (G n d) = mN n d := Int.tdiv_eq_ediv_of_dvd (sg_dvd (G_dvd_left n d))
theorem tdiv_D {n d : Int} : (sg d d).tdiv (G n d) = mD n d := Int.tdiv_eq_ediv_of_dvd (sg_dvd (G_dvd_right n d))
theorem sg_neg {d : Int} (h : d < 0) (n : Int) : sg d n = -n := if_pos h
theorem sg_nonneg {d : Int} (h : ¬ d < 0) (n : Int) : sg d n = n := if_neg h
theorem mok_true {n d : Int} (h : mok n d = true) : mD n d ≤ 1000000000 ∧ -1000000000 ≤ mN n d ∧ mN n d ≤ 1000000000 := (of_decide_eq_true h).2
theorem mok_false {n d : Int} (h : mok n d = false) (hd : d ≠ 0) : 1000000000 < mD n d ∨ mN n d < -1000000000 ∨ 1000000000 < mN n d := by
  have := of_decide_eq_false h; omega
theorem mok_zero {n : Int} : mok n 0 = false := by simp [mok]

theorem mul_bd {a d A D : Int} (h1 : -A ≤ a) (h2 : a ≤ A) (h3 : -D ≤ d) (h4 : d ≤ D) : -(A * D) ≤ a * d ∧ a * d ≤ A * D := by
  have e1 : 0 ≤ (A - a) * (D + d) := Int.mul_nonneg (by omega) (by omega)
  have e2 : 0 ≤ (A + a) * (D - d) := Int.mul_nonneg (by omega) (by omega)
  have e3 : 0 ≤ (A - a) * (D - d) := Int.mul_nonneg (by omega) (by omega)
  have e4 : 0 ≤ (A + a) * (D + d) := Int.mul_nonneg (by omega) (by omega)
  simp only [Int.sub_mul, Int.add_mul, Int.mul_sub, Int.mul_add] at e1 e2 e3 e4
  constructor <;> omega
/-- Products of parts of valid fractions. -/
theorem prod_bd {a d : Int} (h1 : -1000000000 ≤ a) (h2 : a ≤ 1000000000) (h3 : -1000000000 ≤ d) (h4 : d ≤ 1000000000) : -1000000000000000000 ≤ a * d ∧ a * d ≤ 1000000000000000000 := by
  have := mul_bd (A := 1000000000) (D := 1000000000) h1 h2 h3 h4
  omega
theorem prod_pos {a d : Int} (h1 : 1 ≤ a) (h3 : 1 ≤ d) : 1 ≤ a * d := by
  have : 1 * 1 ≤ a * d := Int.mul_le_mul h1 h3 (by omega) (by omega)
  omega
/-- Two valid fractions. -/
def two (a b c d : Int) : Bool := good a b && good c d
/-- n / d in lowest terms if k is true and there is such a fraction; else 0, 0. -/
def tN (k : Bool) (n d : Int) : Int := if k then rN n d else 0
def tD (k : Bool) (n d : Int) : Int := if k then rD n d else 0
theorem tdiv_floor {a b : Int} (hb : 1 ≤ b) : a / b = if a.tmod b < 0 then a.tdiv b - 1 else a.tdiv b := by
  have h1 := Int.emod_nonneg a (b := b) (by omega)
  have h2 := Int.emod_lt_of_pos a (b := b) (by omega)
  have h3 := Int.mul_ediv_add_emod a b
  have h4 := Int.mul_tdiv_add_tmod a b
  rcases Int.lt_or_le a 0 with ha | ha
  · have h5 : a.tmod b ≤ 0 := by have := Int.tmod_nonneg (a := -a) b (by omega); rw [Int.neg_tmod] at this; omega
    have h6 : -b < a.tmod b := by have := Int.tmod_lt_of_pos (-a) (b := b) (by omega); rw [Int.neg_tmod] at this; omega
    split
    · have e : b * (a / b - (a.tdiv b - 1)) = a.tmod b + b - a % b := by rw [Int.mul_sub, Int.mul_sub]; omega
      have l1 : b * (a / b - (a.tdiv b - 1)) < b * 1 := by omega
      have l2 : b * (-1) < b * (a / b - (a.tdiv b - 1)) := by omega
      have := Int.lt_of_mul_lt_mul_left l1 (by omega)
      have := Int.lt_of_mul_lt_mul_left l2 (by omega)
      omega
    · have e : b * (a / b - a.tdiv b) = - (a % b) := by rw [Int.mul_sub]; omega
      have l1 : b * (a / b - a.tdiv b) < b * 1 := by omega
      have l2 : b * (-1) < b * (a / b - a.tdiv b) := by omega
      have := Int.lt_of_mul_lt_mul_left l1 (by omega)
      have := Int.lt_of_mul_lt_mul_left l2 (by omega)
      omega
  · rw [Int.tdiv_eq_ediv_of_nonneg ha, Int.tmod_eq_emod_of_nonneg ha, if_neg (by omega)]
theorem tdiv_bd {a b : Int} (hb : 1 ≤ b) (c : Int) (h1 : -c ≤ a) (h2 : a ≤ c) : -c ≤ a.tdiv b ∧ a.tdiv b ≤ c := by
  rcases Int.lt_or_le a 0 with ha | ha
  · have e : a.tdiv b = -((-a) / b) := by rw [← Int.tdiv_eq_ediv_of_nonneg (by omega), Int.neg_tdiv]; omega
    have := abs_ediv_le (a := -a) hb c (by omega) (by omega)
    omega
  · rw [Int.tdiv_eq_ediv_of_nonneg ha]
    exact abs_ediv_le hb c h1 h2
/-- How two fractions compare: -1, 0 or 1; 0 if one of them is not valid. -/
def cmpR (a b c d : Int) : Int := if two a b c d then (a * d - c * b).sign else 0
end Go.Proofs.Ythccdooacbablab.Rm

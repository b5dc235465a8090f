/-
  Chapter 1's fractions as Lean's rational numbers: the closed forms of XMath read as sums, products, quotients and the order of Rat. No Go here.
-/
import Derived.Test.YthccdooacbablabMath
namespace Go.Proofs.Ythccdooacbablab.Rm

/-- The bounds of a valid fraction. -/
def fits (r : Rat) : Bool := decide ((r.den : Int) ≤ 1000000000 ∧ -1000000000 ≤ r.num ∧ r.num ≤ 1000000000)
theorem fits_iff {r : Rat} : fits r = true ↔ ((r.den : Int) ≤ 1000000000 ∧ -1000000000 ≤ r.num ∧ r.num ≤ 1000000000) := decide_eq_true_iff
def keep (r : Rat) : Option Rat := if fits r then some r else none
theorem keep_fits {r : Rat} (h : fits r = true) : keep r = some r := by simp [keep, h]
theorem den_pos' (r : Rat) : (1 : Int) ≤ (r.den : Int) := by have := r.den_pos; omega
theorem G_rat (r : Rat) : G r.num r.den = 1 := by
  have := r.reduced
  unfold G Int.gcd
  rw [Int.natAbs_natCast]
  unfold Nat.Coprime at this
  omega
theorem good_rat (r : Rat) : good r.num r.den = fits r := by
  have h := den_pos' r
  rw [Bool.eq_iff_iff, good_iff, fits_iff]
  have := G_rat r
  constructor
  · rintro ⟨_, h2, h3, h4, _⟩; exact ⟨h2, h3, h4⟩
  · rintro ⟨h2, h3, h4⟩; exact ⟨h, h2, h3, h4, this⟩
theorem rat_of_good {n d : Int} (h : good n d = true) : ∃ r : Rat, r.num = n ∧ (r.den : Int) = d ∧ fits r = true := by
  obtain ⟨h1, h2, h3, h4, h5⟩ := good_iff.1 h
  have hd : d ≠ 0 := by omega
  refine ⟨Rat.divInt n d, ?_, ?_, ?_⟩
  · rw [Rat.num_divInt, Int.gcd_comm]
    unfold G at h5
    rw [h5, Int.sign_eq_one_of_pos (by omega)]
    simp
  · rw [Rat.den_divInt, if_neg hd, Int.gcd_comm]
    unfold G at h5
    have : Int.gcd n d = 1 := by omega
    rw [this]
    simp
    omega
  · have e1 : (Rat.divInt n d).num = n := by
      rw [Rat.num_divInt, Int.gcd_comm]
      unfold G at h5
      rw [h5, Int.sign_eq_one_of_pos (by omega)]
      simp
    have e2 : ((Rat.divInt n d).den : Int) = d := by
      rw [Rat.den_divInt, if_neg hd, Int.gcd_comm]
      unfold G at h5
      have : Int.gcd n d = 1 := by omega
      rw [this]
      simp
      omega
    rw [fits_iff, e1, e2]
    exact ⟨h2, h3, h4⟩
theorem sg_sign {d n : Int} (h : d ≠ 0) : sg d n = d.sign * n := by
  unfold sg
  rcases Int.lt_or_gt_of_ne h with h1 | h1
  · rw [if_pos h1, Int.sign_eq_neg_one_of_neg h1]; omega
  · rw [if_neg (by omega), Int.sign_eq_one_of_pos h1]; omega
theorem mN_rat {n d : Int} (h : d ≠ 0) : mN n d = (Rat.divInt n d).num := by
  unfold mN G
  rw [Rat.num_divInt, sg_sign h, Int.gcd_comm]
theorem mD_rat {n d : Int} (h : d ≠ 0) : mD n d = ((Rat.divInt n d).den : Int) := by
  unfold mD G
  rw [Rat.den_divInt, if_neg h, sg_sign h, Int.gcd_comm]
  have e : d.sign * d = (d.natAbs : Int) := by
    rcases Int.lt_or_gt_of_ne h with h1 | h1
    · rw [Int.sign_eq_neg_one_of_neg h1]; omega
    · rw [Int.sign_eq_one_of_pos h1]; omega
  rw [e, Int.natCast_ediv]
theorem mok_rat {n d : Int} (h : d ≠ 0) : mok n d = fits (Rat.divInt n d) := by
  unfold mok fits
  rw [mN_rat h, mD_rat h]
  simp [h]
/-- The two parts of a fraction that a function gives, 0 and 0 where it gives none. -/
def oN (o : Option Rat) : Int := match o with | some r => r.num | none => 0
def oD (o : Option Rat) : Int := match o with | some r => r.den | none => 0
@[simp] theorem oN_some (r : Rat) : oN (some r) = r.num := rfl
@[simp] theorem oD_some (r : Rat) : oD (some r) = r.den := rfl
@[simp] theorem oN_none : oN none = 0 := rfl
@[simp] theorem oD_none : oD none = 0 := rfl
theorem rN_rat {n d : Int} (h : d ≠ 0) : rN n d = oN (keep (Rat.divInt n d)) := by
  unfold rN keep
  rw [mok_rat h]
  split <;> simp [mN_rat h]
theorem rD_rat {n d : Int} (h : d ≠ 0) : rD n d = oD (keep (Rat.divInt n d)) := by
  unfold rD keep
  rw [mok_rat h]
  split <;> simp [mD_rat h]
theorem mok_keep {n d : Int} (h : d ≠ 0) : mok n d = (keep (Rat.divInt n d)).isSome := by
  unfold keep
  rw [mok_rat h]
  split <;> simp_all
theorem good_zero : good 0 0 = false := by decide
/-- What is a fraction, if it is one. -/
def isR (o : Option Rat) : Prop := ∀ r, o = some r → fits r = true
theorem good_o {o : Option Rat} (h : isR o) : good (oN o) (oD o) = o.isSome := by
  cases o with
  | none => exact good_zero
  | some r => rw [oN_some, oD_some, good_rat, h r rfl]; rfl
theorem isR_keep (r : Rat) : isR (keep r) := by
  intro s h; unfold keep at h; split at h
  · injection h with h; subst h; assumption
  · cases h
theorem isR_none : isR none := by intro r h; cases h
theorem isR_some {r : Rat} (h : fits r = true) : isR (some r) := by intro s e; injection e with e; subst e; exact h

def oadd (x y : Option Rat) : Option Rat := x.bind fun a => y.bind fun b => keep (a + b)
def osub (x y : Option Rat) : Option Rat := x.bind fun a => y.bind fun b => keep (a - b)
def omul (x y : Option Rat) : Option Rat := x.bind fun a => y.bind fun b => keep (a * b)
def odiv (x y : Option Rat) : Option Rat := x.bind fun a => y.bind fun b => if b = 0 then none else keep (a / b)
theorem isR_op (x y : Option Rat) (g : Rat → Rat → Option Rat) (hg : ∀ a b, isR (g a b)) : isR (x.bind fun a => y.bind fun b => g a b) := by
  cases x <;> cases y <;> simp only [Option.bind_none, Option.bind_some] <;> first | exact isR_none | exact hg _ _
theorem isR_oadd (x y : Option Rat) : isR (oadd x y) := isR_op x y _ fun _ _ => isR_keep _
theorem isR_osub (x y : Option Rat) : isR (osub x y) := isR_op x y _ fun _ _ => isR_keep _
theorem isR_omul (x y : Option Rat) : isR (omul x y) := isR_op x y _ fun _ _ => isR_keep _
theorem isR_odiv (x y : Option Rat) : isR (odiv x y) := isR_op x y _ fun _ _ => by split; exact isR_none; exact isR_keep _

theorem divInt_add (a b : Rat) : Rat.divInt (a.num * b.den + b.num * a.den) (a.den * b.den) = a + b := by
  rw [← Rat.divInt_add_divInt _ _ (by have := den_pos' a; omega) (by have := den_pos' b; omega), Rat.num_divInt_den, Rat.num_divInt_den]
theorem divInt_sub (a b : Rat) : Rat.divInt (a.num * b.den - b.num * a.den) (a.den * b.den) = a - b := by
  rw [← Rat.divInt_sub_divInt _ _ (by have := den_pos' a; omega) (by have := den_pos' b; omega), Rat.num_divInt_den, Rat.num_divInt_den]
theorem divInt_mul (a b : Rat) : Rat.divInt (a.num * b.num) (a.den * b.den) = a * b := by
  rw [← Rat.divInt_mul_divInt, Rat.num_divInt_den, Rat.num_divInt_den]
theorem divInt_div (a b : Rat) : Rat.divInt (a.num * b.den) (a.den * b.num) = a / b := by
  have h : b⁻¹ = Rat.divInt b.den b.num := by
    conv => lhs; rw [← Rat.num_divInt_den b]
    exact Rat.inv_divInt _ _
  rw [Rat.div_def, h, ← Rat.divInt_mul_divInt, Rat.num_divInt_den]
theorem den_mul (a b : Rat) : (a.den : Int) * b.den ≠ 0 := by
  have h1 := den_pos' a
  have h2 := den_pos' b
  have := prod_pos h1 h2
  omega
section
variable {x y : Option Rat} (hx : isR x) (hy : isR y)
include hx hy
theorem two_o : two (oN x) (oD x) (oN y) (oD y) = (x.isSome && y.isSome) := by unfold two; rw [good_o hx, good_o hy]
theorem two_o' {f : Rat → Rat → Option Rat} {n d : Int} (h : ∀ a b, x = some a → y = some b → d ≠ 0 ∧ keep (Rat.divInt n d) = f a b) :
    tN (two (oN x) (oD x) (oN y) (oD y)) n d = oN (x.bind fun a => y.bind fun b => f a b) ∧ tD (two (oN x) (oD x) (oN y) (oD y)) n d = oD (x.bind fun a => y.bind fun b => f a b) ∧
      (two (oN x) (oD x) (oN y) (oD y) && mok n d) = (x.bind fun a => y.bind fun b => f a b).isSome := by
  rw [two_o hx hy]
  cases x with
  | none => exact ⟨rfl, rfl, rfl⟩
  | some a =>
    cases y with
    | none => exact ⟨rfl, rfl, rfl⟩
    | some b =>
      obtain ⟨h0, h1⟩ := h a b rfl rfl
      simp only [Option.bind_some, Option.isSome_some, Bool.and_self, tN, tD, if_true, Bool.true_and]
      rw [rN_rat h0, rD_rat h0, mok_keep h0, h1]
      exact ⟨rfl, rfl, rfl⟩
theorem add_o : tN (two (oN x) (oD x) (oN y) (oD y)) (oN x * oD y + oN y * oD x) (oD x * oD y) = oN (oadd x y) ∧ tD (two (oN x) (oD x) (oN y) (oD y)) (oN x * oD y + oN y * oD x) (oD x * oD y) = oD (oadd x y) ∧
    (two (oN x) (oD x) (oN y) (oD y) && mok (oN x * oD y + oN y * oD x) (oD x * oD y)) = (oadd x y).isSome :=
  two_o' hx hy fun a b e1 e2 => by subst e1 e2; exact ⟨den_mul a b, by rw [oN_some, oN_some, oD_some, oD_some, divInt_add]⟩
theorem sub_o : tN (two (oN x) (oD x) (oN y) (oD y)) (oN x * oD y - oN y * oD x) (oD x * oD y) = oN (osub x y) ∧ tD (two (oN x) (oD x) (oN y) (oD y)) (oN x * oD y - oN y * oD x) (oD x * oD y) = oD (osub x y) ∧
    (two (oN x) (oD x) (oN y) (oD y) && mok (oN x * oD y - oN y * oD x) (oD x * oD y)) = (osub x y).isSome :=
  two_o' hx hy fun a b e1 e2 => by subst e1 e2; exact ⟨den_mul a b, by rw [oN_some, oN_some, oD_some, oD_some, divInt_sub]⟩
theorem mul_o : tN (two (oN x) (oD x) (oN y) (oD y)) (oN x * oN y) (oD x * oD y) = oN (omul x y) ∧ tD (two (oN x) (oD x) (oN y) (oD y)) (oN x * oN y) (oD x * oD y) = oD (omul x y) ∧
    (two (oN x) (oD x) (oN y) (oD y) && mok (oN x * oN y) (oD x * oD y)) = (omul x y).isSome :=
  two_o' hx hy fun a b e1 e2 => by subst e1 e2; exact ⟨den_mul a b, by rw [oN_some, oN_some, oD_some, oD_some, divInt_mul]⟩
theorem div_o : tN (two (oN x) (oD x) (oN y) (oD y)) (oN x * oD y) (oD x * oN y) = oN (odiv x y) ∧ tD (two (oN x) (oD x) (oN y) (oD y)) (oN x * oD y) (oD x * oN y) = oD (odiv x y) ∧
    (two (oN x) (oD x) (oN y) (oD y) && mok (oN x * oD y) (oD x * oN y)) = (odiv x y).isSome := by
  by_cases h0 : ∃ a, x = some a ∧ y = some 0
  · obtain ⟨a, rfl, rfl⟩ := h0
    rw [two_o hx hy]
    simp [oN, oD, odiv, tN, tD, rN, rD, mok_zero]
  · refine two_o' hx hy (f := fun a b => if b = 0 then none else keep (a / b)) fun a b e1 e2 => ?_
    subst e1 e2
    have hb : b ≠ 0 := fun e => h0 ⟨a, rfl, by rw [e]⟩
    rw [oN_some, oN_some, oD_some, oD_some, if_neg hb, divInt_div]
    refine ⟨?_, rfl⟩
    have hn : b.num ≠ 0 := fun e => hb (Rat.num_eq_zero.1 e)
    have ha : (a.den : Int) ≠ 0 := by have := den_pos' a; omega
    exact Int.mul_ne_zero ha hn
end
/-- How two fractions compare. -/
def cq (a b : Rat) : Int := if a < b then -1 else if b < a then 1 else 0
theorem cq_sign (a b : Rat) : (a.num * b.den - b.num * a.den).sign = cq a b := by
  unfold cq
  have h1 := Rat.lt_iff a b
  have h2 := Rat.lt_iff b a
  split
  · have := h1.1 (by assumption)
    exact Int.sign_eq_neg_one_of_neg (by omega)
  · split
    · have := h2.1 (by assumption)
      exact Int.sign_eq_one_of_pos (by omega)
    · have k1 := (not_congr h1).1 (by assumption)
      have k2 := (not_congr h2).1 (by assumption)
      have : a.num * b.den - b.num * a.den = 0 := by omega
      rw [this]; rfl
theorem cmpR_rat {a b : Rat} (ha : fits a = true) (hb : fits b = true) : cmpR a.num a.den b.num b.den = cq a b := by
  unfold cmpR two
  rw [good_rat, good_rat, ha, hb, ← cq_sign]
  rfl
theorem cq_lt {a b : Rat} : cq a b < 0 ↔ a < b := by
  unfold cq; split
  · simp [*]
  · split <;> simp [*]
theorem cq_gt {a b : Rat} : 0 < cq a b ↔ b < a := by
  unfold cq; split
  · have : ¬ b < a := by grind
    simp [*]
  · split <;> simp [*]
theorem cq_eq {a b : Rat} : cq a b = 0 ↔ a = b := by
  unfold cq; split
  · simp; grind
  · split
    · simp; grind
    · simp; grind
theorem cq_bd (a b : Rat) : -1 ≤ cq a b ∧ cq a b ≤ 1 := by unfold cq; split; omega; split <;> omega
theorem cq_self (a : Rat) : cq a a = 0 := cq_eq.2 rfl
theorem eq_parts {a b : Rat} : (a.num = b.num ∧ (a.den : Int) = b.den) ↔ a = b :=
  ⟨fun h => Rat.ext h.1 (by omega), fun h => by subst h; exact ⟨rfl, rfl⟩⟩
end Go.Proofs.Ythccdooacbablab.Rm

/-
  Chapters 1 and 2: contracts of the small functions on fractions and points, of the program and of the model, in terms of rational numbers.
-/
import Derived.Test.YthccdooacbablabOps
import Derived.Test.YthccdooacbablabSpec
import Derived.Test.YthccdooacbablabSl
namespace Go.Proofs.Ythccdooacbablab
open Go.RowKit Rm

def cmpI (a b : Int) : Int := if a < b then -1 else if b < a then 1 else 0
theorem cmpI_lt {a b : Int} (h : a < b) : cmpI a b = -1 := if_pos h
theorem cmpI_gt {a b : Int} (h : b < a) : cmpI a b = 1 := by unfold cmpI; rw [if_neg (by omega), if_pos h]
theorem cmpI_eq {a b : Int} (h : a = b) : cmpI a b = 0 := by unfold cmpI; rw [if_neg (by omega), if_neg (by omega)]
theorem cmpI_sign (a b : Int) : cmpI a b = (a - b).sign := by
  unfold cmpI
  split
  · exact (Int.sign_eq_neg_one_of_neg (by omega)).symm
  · split
    · exact (Int.sign_eq_one_of_pos (by omega)).symm
    · rw [show a - b = 0 by omega]; rfl

theorem isNaN_any (a : Int) (w : World) : Calls Try.prog 57 #[.int .i64 a] w fun e w' => e = .returned (.bool false) ∧ w = w' := by
  have h : (a != a) = false := by simp
  go_enter Try.func57, Try.ntmps57
  go_wp2
  go_ret
  exact ⟨rfl, rfl⟩
set_option maxRecDepth 100000 in
theorem compare_any (a b : Int) (w : World) : Calls Try.prog 48 #[.int .i64 a, .int .i64 b] w fun e w' => e = .returned (.int .i64 (cmpI a b)) ∧ w = w' := by
  rcases Int.lt_trichotomy a b with h | h | h
  · rw [cmpI_lt h]
    go_enter Try.func48, Try.ntmps48
    go_wp2_with (go_at_call 57; refine (isNaN_any _ _).mono ?_; rintro e w' ⟨rfl, rfl⟩)
    go_ret
    exact ⟨rfl, rfl⟩
  · rw [cmpI_eq h]
    subst h
    go_enter Try.func48, Try.ntmps48
    go_wp2_with (go_at_call 57; refine (isNaN_any _ _).mono ?_; rintro e w' ⟨rfl, rfl⟩)
    go_ret
    exact ⟨rfl, rfl⟩
  · rw [cmpI_gt h]
    go_enter Try.func48, Try.ntmps48
    go_wp2_with (go_at_call 57; refine (isNaN_any _ _).mono ?_; rintro e w' ⟨rfl, rfl⟩)
    go_ret
    exact ⟨rfl, rfl⟩
set_option maxRecDepth 100000 in
theorem orderOf_bd (a b c d : Int) (w : World) (a1 : -1000000000 ≤ a) (a2 : a ≤ 1000000000) (b1 : 0 ≤ b) (b2 : b ≤ 1000000000) (c1 : -1000000000 ≤ c) (c2 : c ≤ 1000000000) (d1 : 0 ≤ d) (d2 : d ≤ 1000000000) :
    Calls Try.prog 35 #[.agg #[.int .i64 (a), .int .i64 (b)], .agg #[.int .i64 (c), .int .i64 (d)]] w fun e w' => e = .returned (.int .i64 (cmpI (a * d) (c * b))) ∧ Below w.heap.size w w' := by
  obtain ⟨e1, e2⟩ := prod_bd (a := a) (d := d) (by omega) (by omega) (by omega) (by omega)
  obtain ⟨e3, e4⟩ := prod_bd (a := c) (d := b) (by omega) (by omega) (by omega) (by omega)
  go_enter Try.func35, Try.ntmps35
  go_wp2_with (go_at_call 48; (with_reducible refine (compare_any _ _ _).mono ?_); rintro e w' ⟨rfl, rfl⟩)
  go_ret
  exact ⟨rfl, (by repeat (first | with_reducible exact Below.refl _ _ | with_reducible assumption | (with_reducible refine Below.trans ?_ (Below.mono (by assumption) (by first | omega | (simp <;> omega)))) | with_reducible apply Below.drew | with_reducible apply below_drewN | (with_reducible refine Below.alloc ?_ (by first | omega | (simp <;> omega)) _) | (with_reducible refine Below.setCell ?_ (by first | omega | (simp <;> omega)) _)))⟩

/-- A valid fraction from 0 to 1. -/
def uB (a b : Int) : Bool := good a b && (decide (0 ≤ a) && decide (a ≤ b))
theorem coB_eq (a b : Int) : coB (a, b) = (uB a b && decide (b ≤ 100)) := by simp [coB, uB, Bool.and_assoc]

set_option maxRecDepth 100000 in
theorem isUnit_any (a b : Int) (w : World) : Calls Try.prog 55 #[.agg #[.int .i64 (a), .int .i64 (b)]] w fun e w' => e = .returned (.bool (uB a b)) ∧ Below w.heap.size w w' := by
  cases hg : good a b with
  | false =>
    rw [show uB a b = false by simp [uB, hg]]
    go_enter Try.func55, Try.ntmps55
    go_wp2_with ((go_at_call 59; (with_reducible refine (isRat_any _ _ _).mono ?_); rintro e w1 ⟨rfl, hbw1⟩; obtain ⟨hcw1, hfw1⟩ := bcell hbw1; have hzw1 := hbw1.size; (try simp at hzw1); (try ((have kw1w0 := (bnew hbw1) (w.heap.size) ?pf); (case pf => (first | omega | (simp; done) | (simp; omega))); obtain ⟨kcw1w0, kfw1w0, klw1w0⟩ := kw1w0))))
    go_ret
    exact ⟨rfl, (by repeat (first | with_reducible exact Below.refl _ _ | with_reducible assumption | (with_reducible refine Below.trans ?_ (Below.mono (by assumption) (by first | omega | (simp <;> omega)))) | with_reducible apply Below.drew | with_reducible apply below_drewN | (with_reducible refine Below.alloc ?_ (by first | omega | (simp <;> omega)) _) | (with_reducible refine Below.setCell ?_ (by first | omega | (simp <;> omega)) _)))⟩
  | true =>
    by_cases h0 : 0 ≤ a
    · by_cases h1 : a ≤ b
      · rw [show uB a b = true by simp [uB, hg, h0, h1]]
        go_enter Try.func55, Try.ntmps55
        go_wp2_with ((go_at_call 59; (with_reducible refine (isRat_any _ _ _).mono ?_); rintro e w1 ⟨rfl, hbw1⟩; obtain ⟨hcw1, hfw1⟩ := bcell hbw1; have hzw1 := hbw1.size; (try simp at hzw1); (try ((have kw1w0 := (bnew hbw1) (w.heap.size) ?pf); (case pf => (first | omega | (simp; done) | (simp; omega))); obtain ⟨kcw1w0, kfw1w0, klw1w0⟩ := kw1w0))))
        go_ret
        exact ⟨rfl, (by repeat (first | with_reducible exact Below.refl _ _ | with_reducible assumption | (with_reducible refine Below.trans ?_ (Below.mono (by assumption) (by first | omega | (simp <;> omega)))) | with_reducible apply Below.drew | with_reducible apply below_drewN | (with_reducible refine Below.alloc ?_ (by first | omega | (simp <;> omega)) _) | (with_reducible refine Below.setCell ?_ (by first | omega | (simp <;> omega)) _)))⟩
      · rw [show uB a b = false by simp [uB, hg, h0, h1]]
        have h2 := decide_eq_false h1
        go_enter Try.func55, Try.ntmps55
        go_wp2_with ((go_at_call 59; (with_reducible refine (isRat_any _ _ _).mono ?_); rintro e w1 ⟨rfl, hbw1⟩; obtain ⟨hcw1, hfw1⟩ := bcell hbw1; have hzw1 := hbw1.size; (try simp at hzw1); (try ((have kw1w0 := (bnew hbw1) (w.heap.size) ?pf); (case pf => (first | omega | (simp; done) | (simp; omega))); obtain ⟨kcw1w0, kfw1w0, klw1w0⟩ := kw1w0))))
        go_ret
        exact ⟨rfl, (by repeat (first | with_reducible exact Below.refl _ _ | with_reducible assumption | (with_reducible refine Below.trans ?_ (Below.mono (by assumption) (by first | omega | (simp <;> omega)))) | with_reducible apply Below.drew | with_reducible apply below_drewN | (with_reducible refine Below.alloc ?_ (by first | omega | (simp <;> omega)) _) | (with_reducible refine Below.setCell ?_ (by first | omega | (simp <;> omega)) _)))⟩
    · rw [show uB a b = false by simp [uB, hg, h0]]
      have h2 : a < 0 := by omega
      go_enter Try.func55, Try.ntmps55
      go_wp2_with ((go_at_call 59; (with_reducible refine (isRat_any _ _ _).mono ?_); rintro e w1 ⟨rfl, hbw1⟩; obtain ⟨hcw1, hfw1⟩ := bcell hbw1; have hzw1 := hbw1.size; (try simp at hzw1); (try ((have kw1w0 := (bnew hbw1) (w.heap.size) ?pf); (case pf => (first | omega | (simp; done) | (simp; omega))); obtain ⟨kcw1w0, kfw1w0, klw1w0⟩ := kw1w0))))
      go_ret
      exact ⟨rfl, (by repeat (first | with_reducible exact Below.refl _ _ | with_reducible assumption | (with_reducible refine Below.trans ?_ (Below.mono (by assumption) (by first | omega | (simp <;> omega)))) | with_reducible apply Below.drew | with_reducible apply below_drewN | (with_reducible refine Below.alloc ?_ (by first | omega | (simp <;> omega)) _) | (with_reducible refine Below.setCell ?_ (by first | omega | (simp <;> omega)) _)))⟩
set_option maxRecDepth 100000 in
theorem raUnit_any (a b : Int) (w : World) : Calls Try.prog 15 #[.agg #[.int .i64 (a), .int .i64 (b)]] w fun e w' => e = .returned (.bool (uB a b)) ∧ Below w.heap.size w w' := by
  cases hg : good a b with
  | false =>
    rw [show uB a b = false by simp [uB, hg]]
    go_enter Try.func15, Try.ntmps15
    go_wp2_with ((go_at_call 27; (with_reducible refine (raGood_any _ _ _).mono ?_); rintro e w1 ⟨rfl, hbw1⟩; obtain ⟨hcw1, hfw1⟩ := bcell hbw1; have hzw1 := hbw1.size; (try simp at hzw1); (try ((have kw1w0 := (bnew hbw1) (w.heap.size) ?pf); (case pf => (first | omega | (simp; done) | (simp; omega))); obtain ⟨kcw1w0, kfw1w0, klw1w0⟩ := kw1w0))))
    go_ret
    exact ⟨rfl, (by repeat (first | with_reducible exact Below.refl _ _ | with_reducible assumption | (with_reducible refine Below.trans ?_ (Below.mono (by assumption) (by first | omega | (simp <;> omega)))) | with_reducible apply Below.drew | with_reducible apply below_drewN | (with_reducible refine Below.alloc ?_ (by first | omega | (simp <;> omega)) _) | (with_reducible refine Below.setCell ?_ (by first | omega | (simp <;> omega)) _)))⟩
  | true =>
    by_cases h0 : 0 ≤ a ∧ a ≤ b
    · rw [show uB a b = true by simp [uB, hg, h0]]
      go_enter Try.func15, Try.ntmps15
      go_wp2_with (first | (go_at_call 27; (with_reducible refine (raGood_any _ _ _).mono ?_); rintro e w1 ⟨rfl, hbw1⟩; obtain ⟨hcw1, hfw1⟩ := bcell hbw1; have hzw1 := hbw1.size; (try simp at hzw1); (try ((have kw1w0 := (bnew hbw1) (w.heap.size) ?pf); (case pf => (first | omega | (simp; done) | (simp; omega))); obtain ⟨kcw1w0, kfw1w0, klw1w0⟩ := kw1w0))) | (go_at_call 16; refine (l1In_yes h0 _).mono ?_; rintro e w' ⟨rfl, rfl⟩))
      go_ret
      exact ⟨rfl, (by repeat (first | with_reducible exact Below.refl _ _ | with_reducible assumption | (with_reducible refine Below.trans ?_ (Below.mono (by assumption) (by first | omega | (simp <;> omega)))) | with_reducible apply Below.drew | with_reducible apply below_drewN | (with_reducible refine Below.alloc ?_ (by first | omega | (simp <;> omega)) _) | (with_reducible refine Below.setCell ?_ (by first | omega | (simp <;> omega)) _)))⟩
    · rw [show uB a b = false by simp [uB, hg]; omega]
      go_enter Try.func15, Try.ntmps15
      go_wp2_with (first | (go_at_call 27; (with_reducible refine (raGood_any _ _ _).mono ?_); rintro e w1 ⟨rfl, hbw1⟩; obtain ⟨hcw1, hfw1⟩ := bcell hbw1; have hzw1 := hbw1.size; (try simp at hzw1); (try ((have kw1w0 := (bnew hbw1) (w.heap.size) ?pf); (case pf => (first | omega | (simp; done) | (simp; omega))); obtain ⟨kcw1w0, kfw1w0, klw1w0⟩ := kw1w0))) | (go_at_call 16; refine (l1In_no h0 _).mono ?_; rintro e w' ⟨rfl, rfl⟩))
      go_ret
      exact ⟨rfl, (by repeat (first | with_reducible exact Below.refl _ _ | with_reducible assumption | (with_reducible refine Below.trans ?_ (Below.mono (by assumption) (by first | omega | (simp <;> omega)))) | with_reducible apply Below.drew | with_reducible apply below_drewN | (with_reducible refine Below.alloc ?_ (by first | omega | (simp <;> omega)) _) | (with_reducible refine Below.setCell ?_ (by first | omega | (simp <;> omega)) _)))⟩
set_option maxRecDepth 100000 in
theorem isUnit_any_co (a b : Int) (w : World) : Calls Try.prog 54 #[.agg #[.int .i64 (a), .int .i64 (b)]] w fun e w' => e = .returned (.bool (coB (a, b))) ∧ Below w.heap.size w w' := by
  rw [coB_eq]
  cases hg : uB a b with
  | false =>
    simp only [Bool.false_and]
    go_enter Try.func54, Try.ntmps54
    go_wp2_with ((go_at_call 55; (with_reducible refine (isUnit_any _ _ _).mono ?_); rintro e w1 ⟨rfl, hbw1⟩; obtain ⟨hcw1, hfw1⟩ := bcell hbw1; have hzw1 := hbw1.size; (try simp at hzw1); (try ((have kw1w0 := (bnew hbw1) (w.heap.size) ?pf); (case pf => (first | omega | (simp; done) | (simp; omega))); obtain ⟨kcw1w0, kfw1w0, klw1w0⟩ := kw1w0))))
    go_ret
    exact ⟨rfl, (by repeat (first | with_reducible exact Below.refl _ _ | with_reducible assumption | (with_reducible refine Below.trans ?_ (Below.mono (by assumption) (by first | omega | (simp <;> omega)))) | with_reducible apply Below.drew | with_reducible apply below_drewN | (with_reducible refine Below.alloc ?_ (by first | omega | (simp <;> omega)) _) | (with_reducible refine Below.setCell ?_ (by first | omega | (simp <;> omega)) _)))⟩
  | true =>
    by_cases h0 : b ≤ 100
    · rw [decide_eq_true h0]
      simp only [Bool.true_and]
      go_enter Try.func54, Try.ntmps54
      go_wp2_with ((go_at_call 55; (with_reducible refine (isUnit_any _ _ _).mono ?_); rintro e w1 ⟨rfl, hbw1⟩; obtain ⟨hcw1, hfw1⟩ := bcell hbw1; have hzw1 := hbw1.size; (try simp at hzw1); (try ((have kw1w0 := (bnew hbw1) (w.heap.size) ?pf); (case pf => (first | omega | (simp; done) | (simp; omega))); obtain ⟨kcw1w0, kfw1w0, klw1w0⟩ := kw1w0))))
      go_ret
      exact ⟨rfl, (by repeat (first | with_reducible exact Below.refl _ _ | with_reducible assumption | (with_reducible refine Below.trans ?_ (Below.mono (by assumption) (by first | omega | (simp <;> omega)))) | with_reducible apply Below.drew | with_reducible apply below_drewN | (with_reducible refine Below.alloc ?_ (by first | omega | (simp <;> omega)) _) | (with_reducible refine Below.setCell ?_ (by first | omega | (simp <;> omega)) _)))⟩
    · rw [decide_eq_false h0]
      simp only [Bool.true_and]
      have h2 := decide_eq_false h0
      go_enter Try.func54, Try.ntmps54
      go_wp2_with ((go_at_call 55; (with_reducible refine (isUnit_any _ _ _).mono ?_); rintro e w1 ⟨rfl, hbw1⟩; obtain ⟨hcw1, hfw1⟩ := bcell hbw1; have hzw1 := hbw1.size; (try simp at hzw1); (try ((have kw1w0 := (bnew hbw1) (w.heap.size) ?pf); (case pf => (first | omega | (simp; done) | (simp; omega))); obtain ⟨kcw1w0, kfw1w0, klw1w0⟩ := kw1w0))))
      go_ret
      exact ⟨rfl, (by repeat (first | with_reducible exact Below.refl _ _ | with_reducible assumption | (with_reducible refine Below.trans ?_ (Below.mono (by assumption) (by first | omega | (simp <;> omega)))) | with_reducible apply Below.drew | with_reducible apply below_drewN | (with_reducible refine Below.alloc ?_ (by first | omega | (simp <;> omega)) _) | (with_reducible refine Below.setCell ?_ (by first | omega | (simp <;> omega)) _)))⟩
set_option maxRecDepth 100000 in
theorem raUnit_any_co (a b : Int) (w : World) : Calls Try.prog 38 #[.agg #[.int .i64 (a), .int .i64 (b)]] w fun e w' => e = .returned (.bool (coB (a, b))) ∧ Below w.heap.size w w' := by
  rw [coB_eq]
  cases hg : uB a b with
  | false =>
    simp only [Bool.false_and]
    go_enter Try.func38, Try.ntmps38
    go_wp2_with ((go_at_call 15; (with_reducible refine (raUnit_any _ _ _).mono ?_); rintro e w1 ⟨rfl, hbw1⟩; obtain ⟨hcw1, hfw1⟩ := bcell hbw1; have hzw1 := hbw1.size; (try simp at hzw1); (try ((have kw1w0 := (bnew hbw1) (w.heap.size) ?pf); (case pf => (first | omega | (simp; done) | (simp; omega))); obtain ⟨kcw1w0, kfw1w0, klw1w0⟩ := kw1w0))))
    go_ret
    exact ⟨rfl, (by repeat (first | with_reducible exact Below.refl _ _ | with_reducible assumption | (with_reducible refine Below.trans ?_ (Below.mono (by assumption) (by first | omega | (simp <;> omega)))) | with_reducible apply Below.drew | with_reducible apply below_drewN | (with_reducible refine Below.alloc ?_ (by first | omega | (simp <;> omega)) _) | (with_reducible refine Below.setCell ?_ (by first | omega | (simp <;> omega)) _)))⟩
  | true =>
    by_cases h0 : b ≤ 100
    · rw [decide_eq_true h0]
      simp only [Bool.true_and]
      go_enter Try.func38, Try.ntmps38
      go_wp2_with ((go_at_call 15; (with_reducible refine (raUnit_any _ _ _).mono ?_); rintro e w1 ⟨rfl, hbw1⟩; obtain ⟨hcw1, hfw1⟩ := bcell hbw1; have hzw1 := hbw1.size; (try simp at hzw1); (try ((have kw1w0 := (bnew hbw1) (w.heap.size) ?pf); (case pf => (first | omega | (simp; done) | (simp; omega))); obtain ⟨kcw1w0, kfw1w0, klw1w0⟩ := kw1w0))))
      go_ret
      exact ⟨rfl, (by repeat (first | with_reducible exact Below.refl _ _ | with_reducible assumption | (with_reducible refine Below.trans ?_ (Below.mono (by assumption) (by first | omega | (simp <;> omega)))) | with_reducible apply Below.drew | with_reducible apply below_drewN | (with_reducible refine Below.alloc ?_ (by first | omega | (simp <;> omega)) _) | (with_reducible refine Below.setCell ?_ (by first | omega | (simp <;> omega)) _)))⟩
    · rw [decide_eq_false h0]
      simp only [Bool.true_and]
      have h2 := decide_eq_false h0
      go_enter Try.func38, Try.ntmps38
      go_wp2_with ((go_at_call 15; (with_reducible refine (raUnit_any _ _ _).mono ?_); rintro e w1 ⟨rfl, hbw1⟩; obtain ⟨hcw1, hfw1⟩ := bcell hbw1; have hzw1 := hbw1.size; (try simp at hzw1); (try ((have kw1w0 := (bnew hbw1) (w.heap.size) ?pf); (case pf => (first | omega | (simp; done) | (simp; omega))); obtain ⟨kcw1w0, kfw1w0, klw1w0⟩ := kw1w0))))
      go_ret
      exact ⟨rfl, (by repeat (first | with_reducible exact Below.refl _ _ | with_reducible assumption | (with_reducible refine Below.trans ?_ (Below.mono (by assumption) (by first | omega | (simp <;> omega)))) | with_reducible apply Below.drew | with_reducible apply below_drewN | (with_reducible refine Below.alloc ?_ (by first | omega | (simp <;> omega)) _) | (with_reducible refine Below.setCell ?_ (by first | omega | (simp <;> omega)) _)))⟩
theorem raInt_any (n : Int) (w : World) : Calls Try.prog 39 #[.int .i64 n] w fun e w' => e = .returned (.agg #[.int .i64 (n), .int .i64 (1)]) ∧ Below w.heap.size w w' := by
  go_enter Try.func39, Try.ntmps39
  go_wp2
  exact bodyPost_ret (v := .agg #[.int .i64 (n), .int .i64 (1)]) (by simp [results, Try.results39, go_sem]) rfl ⟨rfl, (by repeat (first | with_reducible exact Below.refl _ _ | with_reducible assumption | (with_reducible refine Below.trans ?_ (Below.mono (by assumption) (by first | omega | (simp <;> omega)))) | with_reducible apply Below.drew | with_reducible apply below_drewN | (with_reducible refine Below.alloc ?_ (by first | omega | (simp <;> omega)) _) | (with_reducible refine Below.setCell ?_ (by first | omega | (simp <;> omega)) _)))⟩
/-! ### In terms of rational numbers -/
theorem o_parts {x : Option Rat} (h : isR x) : -1000000000 ≤ oN x ∧ oN x ≤ 1000000000 ∧ 0 ≤ oD x ∧ oD x ≤ 1000000000 := by
  cases x with
  | none => simp
  | some r =>
    have := fits_iff.1 (h r rfl)
    have := den_pos' r
    simp only [oN_some, oD_some]
    omega
theorem iAddRats_o (x y : Option Rat) (hx : isR x) (hy : isR y) (w : World) : Calls Try.prog 66 #[.agg #[.int .i64 (oN x), .int .i64 (oD x)], .agg #[.int .i64 (oN y), .int .i64 (oD y)]] w fun e w' =>
    e = .returned (.tuple #[.agg #[.int .i64 (oN (oadd x y)), .int .i64 (oD (oadd x y))], .bool (oadd x y).isSome]) ∧ Below w.heap.size w w' := by
  obtain ⟨h1, h2, h3⟩ := add_o hx hy
  have := iAddRats_any (oN x) (oD x) (oN y) (oD y) w
  rwa [h1, h2, h3] at this
theorem iSubtractRats_o (x y : Option Rat) (hx : isR x) (hy : isR y) (w : World) : Calls Try.prog 63 #[.agg #[.int .i64 (oN x), .int .i64 (oD x)], .agg #[.int .i64 (oN y), .int .i64 (oD y)]] w fun e w' =>
    e = .returned (.tuple #[.agg #[.int .i64 (oN (osub x y)), .int .i64 (oD (osub x y))], .bool (osub x y).isSome]) ∧ Below w.heap.size w w' := by
  obtain ⟨h1, h2, h3⟩ := sub_o hx hy
  have := iSubtractRats_any (oN x) (oD x) (oN y) (oD y) w
  rwa [h1, h2, h3] at this
theorem iMultiplyRats_o (x y : Option Rat) (hx : isR x) (hy : isR y) (w : World) : Calls Try.prog 64 #[.agg #[.int .i64 (oN x), .int .i64 (oD x)], .agg #[.int .i64 (oN y), .int .i64 (oD y)]] w fun e w' =>
    e = .returned (.tuple #[.agg #[.int .i64 (oN (omul x y)), .int .i64 (oD (omul x y))], .bool (omul x y).isSome]) ∧ Below w.heap.size w w' := by
  obtain ⟨h1, h2, h3⟩ := mul_o hx hy
  have := iMultiplyRats_any (oN x) (oD x) (oN y) (oD y) w
  rwa [h1, h2, h3] at this
theorem iDivideRats_o (x y : Option Rat) (hx : isR x) (hy : isR y) (w : World) : Calls Try.prog 70 #[.agg #[.int .i64 (oN x), .int .i64 (oD x)], .agg #[.int .i64 (oN y), .int .i64 (oD y)]] w fun e w' =>
    e = .returned (.tuple #[.agg #[.int .i64 (oN (odiv x y)), .int .i64 (oD (odiv x y))], .bool (odiv x y).isSome]) ∧ Below w.heap.size w w' := by
  obtain ⟨h1, h2, h3⟩ := div_o hx hy
  have := iDivideRats_any (oN x) (oD x) (oN y) (oD y) w
  rwa [h1, h2, h3] at this
theorem raAdd_o (x y : Option Rat) (hx : isR x) (hy : isR y) (w : World) : Calls Try.prog 53 #[.agg #[.int .i64 (oN x), .int .i64 (oD x)], .agg #[.int .i64 (oN y), .int .i64 (oD y)]] w fun e w' =>
    e = .returned (.tuple #[.agg #[.int .i64 (oN (oadd x y)), .int .i64 (oD (oadd x y))], .bool (oadd x y).isSome]) ∧ Below w.heap.size w w' := by
  obtain ⟨a1, a2, b1, b2⟩ := o_parts hx
  obtain ⟨c1, c2, d1, d2⟩ := o_parts hy
  have h := raAdd_bd (oN x) (oD x) (oN y) (oD y) w a1 a2 b1 b2 c1 c2 d1 d2
  cases x with
  | none => simpa [rN, rD, mok_zero, oadd] using h
  | some a =>
    cases y with
    | none => simpa [rN, rD, mok_zero, oadd] using h
    | some b =>
      simp only [oN_some, oD_some] at h
      rw [rN_rat (den_mul a b), rD_rat (den_mul a b), mok_keep (den_mul a b)] at h
      first | rw [divInt_add] at h | rw [divInt_sub] at h | rw [divInt_mul] at h
      exact h
theorem raSub_o (x y : Option Rat) (hx : isR x) (hy : isR y) (w : World) : Calls Try.prog 49 #[.agg #[.int .i64 (oN x), .int .i64 (oD x)], .agg #[.int .i64 (oN y), .int .i64 (oD y)]] w fun e w' =>
    e = .returned (.tuple #[.agg #[.int .i64 (oN (osub x y)), .int .i64 (oD (osub x y))], .bool (osub x y).isSome]) ∧ Below w.heap.size w w' := by
  obtain ⟨a1, a2, b1, b2⟩ := o_parts hx
  obtain ⟨c1, c2, d1, d2⟩ := o_parts hy
  have h := raSub_bd (oN x) (oD x) (oN y) (oD y) w a1 a2 b1 b2 c1 c2 d1 d2
  cases x with
  | none => simpa [rN, rD, mok_zero, osub] using h
  | some a =>
    cases y with
    | none => simpa [rN, rD, mok_zero, osub] using h
    | some b =>
      simp only [oN_some, oD_some] at h
      rw [rN_rat (den_mul a b), rD_rat (den_mul a b), mok_keep (den_mul a b)] at h
      first | rw [divInt_add] at h | rw [divInt_sub] at h | rw [divInt_mul] at h
      exact h
theorem raMul_o (x y : Option Rat) (hx : isR x) (hy : isR y) (w : World) : Calls Try.prog 52 #[.agg #[.int .i64 (oN x), .int .i64 (oD x)], .agg #[.int .i64 (oN y), .int .i64 (oD y)]] w fun e w' =>
    e = .returned (.tuple #[.agg #[.int .i64 (oN (omul x y)), .int .i64 (oD (omul x y))], .bool (omul x y).isSome]) ∧ Below w.heap.size w w' := by
  obtain ⟨a1, a2, b1, b2⟩ := o_parts hx
  obtain ⟨c1, c2, d1, d2⟩ := o_parts hy
  have h := raMul_bd (oN x) (oD x) (oN y) (oD y) w a1 a2 b1 b2 c1 c2 d1 d2
  cases x with
  | none => simpa [rN, rD, mok_zero, omul] using h
  | some a =>
    cases y with
    | none => simpa [rN, rD, mok_zero, omul] using h
    | some b =>
      simp only [oN_some, oD_some] at h
      rw [rN_rat (den_mul a b), rD_rat (den_mul a b), mok_keep (den_mul a b)] at h
      first | rw [divInt_add] at h | rw [divInt_sub] at h | rw [divInt_mul] at h
      exact h
theorem raDiv_o (x y : Option Rat) (hx : isR x) (hy : isR y) (w : World) : Calls Try.prog 50 #[.agg #[.int .i64 (oN x), .int .i64 (oD x)], .agg #[.int .i64 (oN y), .int .i64 (oD y)]] w fun e w' =>
    e = .returned (.tuple #[.agg #[.int .i64 (oN (odiv x y)), .int .i64 (oD (odiv x y))], .bool (odiv x y).isSome]) ∧ Below w.heap.size w w' := by
  obtain ⟨a1, a2, b1, b2⟩ := o_parts hx
  obtain ⟨c1, c2, d1, d2⟩ := o_parts hy
  have h := raDiv_bd (oN x) (oD x) (oN y) (oD y) w a1 a2 b1 b2 c1 c2 d1 d2
  cases x with
  | none => simpa [rN, rD, mok_zero, odiv] using h
  | some a =>
    cases y with
    | none => simpa [rN, rD, mok_zero, odiv] using h
    | some b =>
      simp only [oN_some, oD_some] at h
      by_cases hb : b = 0
      · subst hb
        simpa [rN, rD, mok_zero, odiv] using h
      · have h0 : (a.den : Int) * b.num ≠ 0 := Int.mul_ne_zero (by have := den_pos' a; omega) (fun e => hb (Rat.num_eq_zero.1 e))
        rw [rN_rat h0, rD_rat h0, mok_keep h0, divInt_div] at h
        have e : odiv (some a) (some b) = keep (a / b) := if_neg hb
        rw [e]
        exact h
theorem cmpI_cq (a b : Rat) : cmpI (a.num * b.den) (b.num * a.den) = cq a b := by rw [cmpI_sign, cq_sign]
theorem orderOf_q (a b : Rat) (ha : fits a = true) (hb : fits b = true) (w : World) : Calls Try.prog 35 #[.agg #[.int .i64 (a.num), .int .i64 (a.den)], .agg #[.int .i64 (b.num), .int .i64 (b.den)]] w fun e w' => e = .returned (.int .i64 (cq a b)) ∧ Below w.heap.size w w' := by
  rw [← cmpI_cq]
  have h1 := fits_iff.1 ha
  have h2 := fits_iff.1 hb
  have h3 := den_pos' a
  have h4 := den_pos' b
  exact orderOf_bd _ _ _ _ w (by omega) (by omega) (by omega) (by omega) (by omega) (by omega) (by omega) (by omega)
theorem raCmp_q (a b : Rat) (ha : fits a = true) (hb : fits b = true) (w : World) : Calls Try.prog 30 #[.agg #[.int .i64 (a.num), .int .i64 (a.den)], .agg #[.int .i64 (b.num), .int .i64 (b.den)]] w fun e w' => e = .returned (.int .i64 (cq a b)) ∧ Below w.heap.size w w' := by
  have h := raCmp_any a.num a.den b.num b.den w (by simp [two, good_rat, ha, hb])
  rwa [cmpR_rat ha hb] at h
end Go.Proofs.Ythccdooacbablab

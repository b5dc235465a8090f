/-
  Chapter 8: IsRepelling of both.
-/
import Derived.Test.YthccdooacbablaaOz
namespace Go.Proofs.Ythccdooacbablaa
open Go.RowKit Rm

/-- Whether a multiplier is greater than 1 or less than -1. -/
def rpB (o : Option Rat) : Bool := decide (oN o > oD o) || decide (oN o < - oD o)

theorem zl1Abs_any (a : Int) (w : World) (h0 : -1000000000 ≤ a) (h1 : a ≤ 1000000000) : Calls Try.prog 65 #[.int .i64 a] w fun e w' => e = .returned (.int .i64 (if a < 0 then -a else a)) ∧ w = w' := by
  by_cases h : a < 0
  · rw [if_pos h]
    have e : IntKind.i64.wrap (-a) = -a := IntWalk.i64_in _ (by omega)
    go_enter Try.func65, Try.ntmps65
    go_wp2
    all_goals
      go_ret
      refine ⟨?_, rfl⟩
      first | rfl | exact congrArg (fun q : Int => Ending.returned (.int .i64 q)) (by omega)
  · rw [if_neg h]
    go_enter Try.func65, Try.ntmps65
    go_wp2
    all_goals
      go_ret
      refine ⟨?_, rfl⟩
      first | rfl | exact congrArg (fun q : Int => Ending.returned (.int .i64 q)) (by omega)

set_option maxRecDepth 100000 in
set_option maxHeartbeats 800000 in
theorem iIsRepelling_any (A : Option Addr) (n c base : Nat) (ps : List Pt) (a b m : Int) (w : World) (ha : w.ownsRow base 62 4 (.slice A n c) n (ptcs ps)) (hn : n ≤ 1048576) :
    Calls Try.prog 33 #[.slice A n c, .agg #[.int .i64 (a), .int .i64 (b)], .int .i64 m] w fun e w' => e = .returned (.tuple #[.bool (rpB (mlO ps a b m)), .bool (mlO ps a b m).isSome]) ∧ Below w.heap.size w w' := by
  have hml := fun W hW => iMultiplierAt_any A n c base ps a b m W hW hn
  have hbd : -1000000000 ≤ oD (mlO ps a b m) ∧ oD (mlO ps a b m) ≤ 1000000000 := by
    rcases hl : mlO ps a b m with _ | x
    · exact ⟨by decide, by decide⟩
    · have hf : fits x = true := by
        unfold mlO at hl
        rcases hc : cyO ps a b m with _ | cy
        · rw [hc] at hl; cases hl
        · rw [hc] at hl; exact mlK_fits hl
      have := fits_iff.1 hf
      have := den_pos' x
      simp only [oD_some]; omega
  unfold rpB
  have HM := hide hml; have HA := hide ha
  clear hml ha
  generalize oN (mlO ps a b m) = x at *
  generalize oD (mlO ps a b m) = y at *
  generalize (mlO ps a b m).isSome = z at *
  have e1 : IntKind.i64.wrap (-y) = -y := IntWalk.i64_in _ (by omega)
  by_cases h : x > y
  · have d1 : decide (x > y) = true := decide_eq_true h
    rw [d1, Bool.true_or]
    go_enter Try.func33, Try.ntmps33
    go_wp2_with (go_at_call 66; (with_reducible refine ((unhide HM) _ (own_below (unhide HA) ?pb)).mono ?_); (case pb => exact (by repeat (first | with_reducible exact Below.refl _ _ | with_reducible assumption | (with_reducible refine Below.trans ?_ (Below.mono (by assumption) (by first | omega | (simp <;> omega)))) | with_reducible apply Below.drew | with_reducible apply below_drewN | (with_reducible refine Below.alloc ?_ (by first | omega | (simp <;> omega)) _) | (with_reducible refine Below.setCell ?_ (by first | omega | (simp <;> omega)) _)))); rintro e w1 ⟨rfl, hbw1⟩; (skip; (try ((have kw1w0 := (bnew hbw1) (w.heap.size) ?pf); (case pf => (first | omega | (simp; done) | (simp; omega))); obtain ⟨kcw1w0, kfw1w0, klw1w0⟩ := kw1w0))))
    go_ret2
    exact ⟨rfl, (by repeat (first | with_reducible exact Below.refl _ _ | with_reducible assumption | (with_reducible refine Below.trans ?_ (Below.mono (by assumption) (by first | omega | (simp <;> omega)))) | with_reducible apply Below.drew | with_reducible apply below_drewN | (with_reducible refine Below.alloc ?_ (by first | omega | (simp <;> omega)) _) | (with_reducible refine Below.setCell ?_ (by first | omega | (simp <;> omega)) _)))⟩
  · have d1 : decide (x > y) = false := decide_eq_false h
    rw [d1, Bool.false_or]
    go_enter Try.func33, Try.ntmps33
    go_wp2_with (go_at_call 66; (with_reducible refine ((unhide HM) _ (own_below (unhide HA) ?pb)).mono ?_); (case pb => exact (by repeat (first | with_reducible exact Below.refl _ _ | with_reducible assumption | (with_reducible refine Below.trans ?_ (Below.mono (by assumption) (by first | omega | (simp <;> omega)))) | with_reducible apply Below.drew | with_reducible apply below_drewN | (with_reducible refine Below.alloc ?_ (by first | omega | (simp <;> omega)) _) | (with_reducible refine Below.setCell ?_ (by first | omega | (simp <;> omega)) _)))); rintro e w1 ⟨rfl, hbw1⟩; (skip; (try ((have kw1w0 := (bnew hbw1) (w.heap.size) ?pf); (case pf => (first | omega | (simp; done) | (simp; omega))); obtain ⟨kcw1w0, kfw1w0, klw1w0⟩ := kw1w0))))
    go_ret2
    exact ⟨rfl, (by repeat (first | with_reducible exact Below.refl _ _ | with_reducible assumption | (with_reducible refine Below.trans ?_ (Below.mono (by assumption) (by first | omega | (simp <;> omega)))) | with_reducible apply Below.drew | with_reducible apply below_drewN | (with_reducible refine Below.alloc ?_ (by first | omega | (simp <;> omega)) _) | (with_reducible refine Below.setCell ?_ (by first | omega | (simp <;> omega)) _)))⟩
set_option maxRecDepth 100000 in
set_option maxHeartbeats 800000 in
theorem sIsRepelling_any (A : Option Addr) (n c base : Nat) (ps : List Pt) (a b m : Int) (w : World) (ha : w.ownsRow base 62 4 (.slice A n c) n (ptcs ps)) (hn : n ≤ 1048576) :
    Calls Try.prog 32 #[.slice A n c, .agg #[.int .i64 (a), .int .i64 (b)], .int .i64 m] w fun e w' => e = .returned (.tuple #[.bool (rpB (mlO ps a b m)), .bool (mlO ps a b m).isSome]) ∧ Below w.heap.size w w' := by
  have hml := fun W hW => sMultiplierAt_any A n c base ps a b m W hW hn
  have HA := hide ha
  clear ha
  rcases hl : mlO ps a b m with _ | x
  · rw [hl] at hml
    simp only [oN_none, oD_none, Option.isSome_none] at hml
    have HM := hide hml
    clear hml hl
    go_enter Try.func32, Try.ntmps32
    go_wp2_with (go_at_call 64; (with_reducible refine ((unhide HM) _ (own_below (unhide HA) ?pb)).mono ?_); (case pb => exact (by repeat (first | with_reducible exact Below.refl _ _ | with_reducible assumption | (with_reducible refine Below.trans ?_ (Below.mono (by assumption) (by first | omega | (simp <;> omega)))) | with_reducible apply Below.drew | with_reducible apply below_drewN | (with_reducible refine Below.alloc ?_ (by first | omega | (simp <;> omega)) _) | (with_reducible refine Below.setCell ?_ (by first | omega | (simp <;> omega)) _)))); rintro e w1 ⟨rfl, hbw1⟩; (skip; (try ((have kw1w0 := (bnew hbw1) (w.heap.size) ?pf); (case pf => (first | omega | (simp; done) | (simp; omega))); obtain ⟨kcw1w0, kfw1w0, klw1w0⟩ := kw1w0))))
    go_ret2
    exact ⟨rfl, (by repeat (first | with_reducible exact Below.refl _ _ | with_reducible assumption | (with_reducible refine Below.trans ?_ (Below.mono (by assumption) (by first | omega | (simp <;> omega)))) | with_reducible apply Below.drew | with_reducible apply below_drewN | (with_reducible refine Below.alloc ?_ (by first | omega | (simp <;> omega)) _) | (with_reducible refine Below.setCell ?_ (by first | omega | (simp <;> omega)) _)))⟩
  · have hf : fits x = true := by
      unfold mlO at hl
      rcases hc : cyO ps a b m with _ | cy
      · rw [hc] at hl; cases hl
      · rw [hc] at hl; exact mlK_fits hl
    have hf' := fits_iff.1 hf
    have hdp := den_pos' x
    rw [hl] at hml
    simp only [oN_some, oD_some, Option.isSome_some] at hml
    have HM := hide hml
    have hab := fun W => zl1Abs_any x.num W (by omega) (by omega)
    have hrp : rpB (some x) = decide ((if x.num < 0 then -x.num else x.num) > (x.den : Int)) := by
      show (decide (x.num > (x.den : Int)) || decide (x.num < - (x.den : Int))) = _
      rw [Bool.eq_iff_iff, Bool.or_eq_true, decide_eq_true_eq, decide_eq_true_eq, decide_eq_true_eq]
      split <;> omega
    rw [hrp]
    clear hml hl hf hf' hrp
    generalize (if x.num < 0 then -x.num else x.num) = y at *
    generalize x.num = xn at *
    generalize (x.den : Int) = xd at *
    have HAB := hide hab; clear hab
    go_enter Try.func32, Try.ntmps32
    go_wp2_with (go_at_call 64; (with_reducible refine ((unhide HM) _ (own_below (unhide HA) ?pb)).mono ?_); (case pb => exact (by repeat (first | with_reducible exact Below.refl _ _ | with_reducible assumption | (with_reducible refine Below.trans ?_ (Below.mono (by assumption) (by first | omega | (simp <;> omega)))) | with_reducible apply Below.drew | with_reducible apply below_drewN | (with_reducible refine Below.alloc ?_ (by first | omega | (simp <;> omega)) _) | (with_reducible refine Below.setCell ?_ (by first | omega | (simp <;> omega)) _)))); rintro e w1 ⟨rfl, hbw1⟩; (skip; (try ((have kw1w0 := (bnew hbw1) (w.heap.size) ?pf); (case pf => (first | omega | (simp; done) | (simp; omega))); obtain ⟨kcw1w0, kfw1w0, klw1w0⟩ := kw1w0))))
    go_region_held3 (fun w' => w'.cell? ⟨w1.heap.size, 0, none⟩ = some (.int .i64 xn) ∧ w'.cell? ⟨w1.heap.size, 1, none⟩ = some (.int .i64 xd)) (simp [go_sem, *])
      ((go_at_call 65; (with_reducible refine ((unhide HAB) _).mono ?_); rintro e w' ⟨rfl, rfl⟩))
    all_goals
      go_wp2_with fail
      go_ret2
      exact ⟨rfl, (by repeat (first | with_reducible exact Below.refl _ _ | with_reducible assumption | (with_reducible refine Below.trans ?_ (Below.mono (by assumption) (by first | omega | (simp <;> omega)))) | with_reducible apply Below.drew | with_reducible apply below_drewN | (with_reducible refine Below.alloc ?_ (by first | omega | (simp <;> omega)) _) | (with_reducible refine Below.setCell ?_ (by first | omega | (simp <;> omega)) _)))⟩
end Go.Proofs.Ythccdooacbablaa

/-
  Chapter 4: VisitsOf of both.
-/
import Derived.Test.YtmkejopkmdcfeaaOc
import Derived.Test.YtmkejopkmdcfeaaTw
namespace Go.Proofs.Ytmkejopkmdcfeaa
open Go.RowKit Rm

/-- How many of the first k fractions are from y to z. -/
def vsK (l : List Rat) (y z : Rat) : Nat → Int
  | 0 => 0
  | k + 1 => if ¬ l.getD k 0 < y ∧ ¬ z < l.getD k 0 then vsK l y z k + 1 else vsK l y z k
theorem vsK_bd (l : List Rat) (y z : Rat) : ∀ k : Nat, 0 ≤ vsK l y z k ∧ vsK l y z k ≤ k
  | 0 => ⟨Int.le_refl _, Int.le_refl _⟩
  | k + 1 => by
    have := vsK_bd l y z k
    unfold vsK
    split <;> omega
def vsO (ps : List Pt) (a b m p q r s : Int) : Option Int := match twoB ps p q r s with
  | true => (orbO ps a b m).map fun l => vsK l (Rat.divInt p q) (Rat.divInt r s) l.length
  | false => none
theorem vsO_no {ps : List Pt} {a b m p q r s : Int} (h : orbO ps a b m = none ∨ twoB ps p q r s = false) : vsO ps a b m p q r s = none := by
  unfold vsO
  rcases h with h | h
  · rw [h]; split <;> rfl
  · rw [h]
theorem cq_le {a b : Rat} : cq a b ≤ 0 ↔ ¬ b < a := by
  constructor
  · intro h h2
    have := cq_gt.2 h2
    omega
  · intro h
    by_cases h1 : 0 < cq a b
    · exact absurd (cq_gt.1 h1) h
    · omega

set_option maxRecDepth 100000 in
set_option maxHeartbeats 3200000 in
theorem iVisitsOf_any (A : Option Addr) (n c base : Nat) (ps : List Pt) (a b m p q r s : Int) (w : World) (ha : w.ownsRow base 65 4 (.slice A n c) n (ptcs ps)) (hn : n ≤ 1048576) :
    Calls Try.prog 35 #[.slice A n c, .agg #[.int .i64 (a), .int .i64 (b)], .int .i64 m, .agg #[.int .i64 (p), .int .i64 (q)], .agg #[.int .i64 (r), .int .i64 (s)]] w fun e w' => e = .returned (.tuple #[.int .i64 ((vsO ps a b m p q r s).getD 0), .bool (vsO ps a b m p q r s).isSome]) ∧ Below w.heap.size w w' := by
  rcases i_cases (A := A) (n := n) (c := c) (base := base) (ps := ps) (a := a) (b := b) (m := m) hn with ⟨ho, hno⟩ | ⟨qs, x, k, rfl, rfl, rfl, rfl, hk, hO, ho, hrun⟩
  · have HI := hide hno; have HA := hide ha
    rw [vsO_no (.inl ho)]
    simp only [Option.getD_none, Option.isSome_none]
    clear hno ha ho
    go_enter Try.func35, Try.ntmps35
    go_wp2_with (go_at_call 25; (with_reducible refine ((unhide HI) _ (own_below (unhide HA) ?pb)).mono ?_); (case pb => exact (by repeat (first | with_reducible exact Below.refl _ _ | with_reducible assumption | (with_reducible refine Below.trans ?_ (Below.mono (by assumption) (by first | omega | (simp <;> omega)))) | with_reducible apply Below.drew | with_reducible apply below_drewN | (with_reducible refine Below.alloc ?_ (by first | omega | (simp <;> omega)) _) | (with_reducible refine Below.setCell ?_ (by first | omega | (simp <;> omega)) _)))); rintro e w1 ⟨B1, d1, rfl, hbw1⟩; have hs1 := hbw1.size; (skip; (try ((have kw1w0 := (bnew hbw1) (w.heap.size) ?pf); (case pf => (first | omega | (simp; done) | (simp; omega))); obtain ⟨kcw1w0, kfw1w0, klw1w0⟩ := kw1w0)); (try ((have kw1w1 := (bnew hbw1) (w.heap.size + 1) ?pf); (case pf => (first | omega | (simp; done) | (simp; omega))); obtain ⟨kcw1w1, kfw1w1, klw1w1⟩ := kw1w1)); (try ((have kw1w2 := (bnew hbw1) (w.heap.size + 1 + 1) ?pf); (case pf => (first | omega | (simp; done) | (simp; omega))); obtain ⟨kcw1w2, kfw1w2, klw1w2⟩ := kw1w2))))
    go_ret2
    exact ⟨rfl, (by repeat (first | with_reducible exact Below.refl _ _ | with_reducible assumption | (with_reducible refine Below.trans ?_ (Below.mono (by assumption) (by first | omega | (simp <;> omega)))) | with_reducible apply Below.drew | with_reducible apply below_drewN | (with_reducible refine Below.alloc ?_ (by first | omega | (simp <;> omega)) _) | (with_reducible refine Below.setCell ?_ (by first | omega | (simp <;> omega)) _)))⟩
  · have HI := hide hrun; have HA := hide ha
    have hu1 := fun W => isUnit_any p q W
    have hu2 := fun W => isUnit_any r s W
    have hmB := hO.map.mapB
    clear hrun ha
    generalize hxn : x.num = xn at *
    generalize hxd : (x.den : Int) = xd at *
    clear hxn hxd
    rcases hy : uB p q with _ | _
    · rw [vsO_no (.inr (by simp [twoB, hy]))]
      simp only [Option.getD_none, Option.isSome_none]
      rw [hy] at hu1
      have H1 := hide hu1
      clear hu1 hu2 ho hmB hy
      go_enter Try.func35, Try.ntmps35
      go_wp2_with (first
        | (go_at_call 25; (with_reducible refine ((unhide HI) _ (own_below (unhide HA) ?pb)).mono ?_); (case pb => exact (by repeat (first | with_reducible exact Below.refl _ _ | with_reducible assumption | (with_reducible refine Below.trans ?_ (Below.mono (by assumption) (by first | omega | (simp <;> omega)))) | with_reducible apply Below.drew | with_reducible apply below_drewN | (with_reducible refine Below.alloc ?_ (by first | omega | (simp <;> omega)) _) | (with_reducible refine Below.setCell ?_ (by first | omega | (simp <;> omega)) _)))); rintro e w1 ⟨gs, d1, rfl, hown, hbw1⟩; have hs1 := hbw1.size; (skip; (try ((have kw1w0 := (bnew hbw1) (w.heap.size) ?pf); (case pf => (first | omega | (simp; done) | (simp; omega))); obtain ⟨kcw1w0, kfw1w0, klw1w0⟩ := kw1w0)); (try ((have kw1w1 := (bnew hbw1) (w.heap.size + 1) ?pf); (case pf => (first | omega | (simp; done) | (simp; omega))); obtain ⟨kcw1w1, kfw1w1, klw1w1⟩ := kw1w1)); (try ((have kw1w2 := (bnew hbw1) (w.heap.size + 1 + 1) ?pf); (case pf => (first | omega | (simp; done) | (simp; omega))); obtain ⟨kcw1w2, kfw1w2, klw1w2⟩ := kw1w2))); clear hown)
        | (go_at_call 58; (with_reducible refine ((unhide H1) _).mono ?_); rintro e w2 ⟨rfl, hbw2⟩; obtain ⟨hcw2, hfw2⟩ := bcell hbw2; have hzw2 := hbw2.size; (try simp at hzw2); (try ((have kw2w0 := (bnew hbw2) (w.heap.size) ?pf); (case pf => (first | omega | (simp; done) | (simp; omega))); obtain ⟨kcw2w0, kfw2w0, klw2w0⟩ := kw2w0)); (try ((have kw2w1 := (bnew hbw2) (w.heap.size + 1) ?pf); (case pf => (first | omega | (simp; done) | (simp; omega))); obtain ⟨kcw2w1, kfw2w1, klw2w1⟩ := kw2w1)); (try ((have kw2w2 := (bnew hbw2) (w.heap.size + 1 + 1) ?pf); (case pf => (first | omega | (simp; done) | (simp; omega))); obtain ⟨kcw2w2, kfw2w2, klw2w2⟩ := kw2w2))))
      go_ret2
      exact ⟨rfl, (by repeat (first | with_reducible exact Below.refl _ _ | with_reducible assumption | (with_reducible refine Below.trans ?_ (Below.mono (by assumption) (by first | omega | (simp <;> omega)))) | with_reducible apply Below.drew | with_reducible apply below_drewN | (with_reducible refine Below.alloc ?_ (by first | omega | (simp <;> omega)) _) | (with_reducible refine Below.setCell ?_ (by first | omega | (simp <;> omega)) _)))⟩
    · rw [hy] at hu1
      have H1 := hide hu1
      rcases hz : uB r s with _ | _
      · rw [vsO_no (.inr (by simp [twoB, hz]))]
        simp only [Option.getD_none, Option.isSome_none]
        rw [hz] at hu2
        have H2 := hide hu2
        clear hu1 hu2 ho hmB hy hz
        go_enter Try.func35, Try.ntmps35
        go_wp2_with (first
          | (go_at_call 25; (with_reducible refine ((unhide HI) _ (own_below (unhide HA) ?pb)).mono ?_); (case pb => exact (by repeat (first | with_reducible exact Below.refl _ _ | with_reducible assumption | (with_reducible refine Below.trans ?_ (Below.mono (by assumption) (by first | omega | (simp <;> omega)))) | with_reducible apply Below.drew | with_reducible apply below_drewN | (with_reducible refine Below.alloc ?_ (by first | omega | (simp <;> omega)) _) | (with_reducible refine Below.setCell ?_ (by first | omega | (simp <;> omega)) _)))); rintro e w1 ⟨gs, d1, rfl, hown, hbw1⟩; have hs1 := hbw1.size; (skip; (try ((have kw1w0 := (bnew hbw1) (w.heap.size) ?pf); (case pf => (first | omega | (simp; done) | (simp; omega))); obtain ⟨kcw1w0, kfw1w0, klw1w0⟩ := kw1w0)); (try ((have kw1w1 := (bnew hbw1) (w.heap.size + 1) ?pf); (case pf => (first | omega | (simp; done) | (simp; omega))); obtain ⟨kcw1w1, kfw1w1, klw1w1⟩ := kw1w1)); (try ((have kw1w2 := (bnew hbw1) (w.heap.size + 1 + 1) ?pf); (case pf => (first | omega | (simp; done) | (simp; omega))); obtain ⟨kcw1w2, kfw1w2, klw1w2⟩ := kw1w2))); clear hown)
          | (go_at_call 58; first | (have _t := hbw2; clear _t; (with_reducible refine ((unhide H2) _).mono ?_); rintro e w3 ⟨rfl, hbw3⟩; (skip; (try ((have kw3w0 := (bnew hbw3) (w.heap.size) ?pf); (case pf => (first | omega | (simp; done) | (simp; omega))); obtain ⟨kcw3w0, kfw3w0, klw3w0⟩ := kw3w0)); (try ((have kw3w1 := (bnew hbw3) (w.heap.size + 1) ?pf); (case pf => (first | omega | (simp; done) | (simp; omega))); obtain ⟨kcw3w1, kfw3w1, klw3w1⟩ := kw3w1)); (try ((have kw3w2 := (bnew hbw3) (w.heap.size + 1 + 1) ?pf); (case pf => (first | omega | (simp; done) | (simp; omega))); obtain ⟨kcw3w2, kfw3w2, klw3w2⟩ := kw3w2)))) | ((with_reducible refine ((unhide H1) _).mono ?_); rintro e w2 ⟨rfl, hbw2⟩; (skip; (try ((have kw2w0 := (bnew hbw2) (w.heap.size) ?pf); (case pf => (first | omega | (simp; done) | (simp; omega))); obtain ⟨kcw2w0, kfw2w0, klw2w0⟩ := kw2w0)); (try ((have kw2w1 := (bnew hbw2) (w.heap.size + 1) ?pf); (case pf => (first | omega | (simp; done) | (simp; omega))); obtain ⟨kcw2w1, kfw2w1, klw2w1⟩ := kw2w1)); (try ((have kw2w2 := (bnew hbw2) (w.heap.size + 1 + 1) ?pf); (case pf => (first | omega | (simp; done) | (simp; omega))); obtain ⟨kcw2w2, kfw2w2, klw2w2⟩ := kw2w2))))))
        go_ret2
        exact ⟨rfl, (by repeat (first | with_reducible exact Below.refl _ _ | with_reducible assumption | (with_reducible refine Below.trans ?_ (Below.mono (by assumption) (by first | omega | (simp <;> omega)))) | with_reducible apply Below.drew | with_reducible apply below_drewN | (with_reducible refine Below.alloc ?_ (by first | omega | (simp <;> omega)) _) | (with_reducible refine Below.setCell ?_ (by first | omega | (simp <;> omega)) _)))⟩
      · rw [hz] at hu2
        obtain ⟨y, rfl, rfl, hyf, _, _⟩ := uB_rat hy
        obtain ⟨z, rfl, rfl, hzf, _, _⟩ := uB_rat hz
        have hor := fun W => orderOf_q y z hyf hzf W
        have etw : twoB (qs.map qp) y.num y.den z.num z.den = decide (cq y z ≤ 0) := by
          unfold twoB
          rw [hmB, hy, hz, cmpI_cq]
          rfl
        have H2 := hide hu2; have HOR := hide hor
        clear hu1 hu2 hor
        by_cases hle : cq y z ≤ 0
        · have hgt : decide (cq y z > 0) = false := decide_eq_false (by omega)
          have evs : vsO (qs.map qp) xn xd k y.num y.den z.num z.den = some (vsK (run qs k x) y z (k + 1)) := by
            unfold vsO
            rw [etw, decide_eq_true hle, ho]
            simp only [Option.map_some, Rat.num_divInt_den, hO.len]
          rw [evs]
          simp only [Option.getD_some, Option.isSome_some]
          have hfit : ∀ j, j < k + 1 → fits ((run qs k x).getD j 0) = true := fun j hj => (hO.all j hj).fit
          have horA : ∀ j, j < k + 1 → ∀ W, Calls Try.prog 70 #[.agg #[.int .i64 (y.num), .int .i64 (y.den)], .agg #[.int .i64 (((run qs k x).getD j 0).num), .int .i64 (((run qs k x).getD j 0).den)]] W fun e w' => e = .returned (.int .i64 (cq y ((run qs k x).getD j 0))) ∧ Below W.heap.size W w' := fun j hj W => orderOf_q y _ hyf (hfit j hj) W
          have horB : ∀ j, j < k + 1 → ∀ W, Calls Try.prog 70 #[.agg #[.int .i64 (((run qs k x).getD j 0).num), .int .i64 (((run qs k x).getD j 0).den)], .agg #[.int .i64 (z.num), .int .i64 (z.den)]] W fun e w' => e = .returned (.int .i64 (cq ((run qs k x).getD j 0) z)) ∧ Below W.heap.size W w' := fun j hj W => orderOf_q _ z (hfit j hj) hzf W
          have HOA := hide horA; have HOB := hide horB
          have hbd := vsK_bd (run qs k x) y z
          have hstep : ∀ j, vsK (run qs k x) y z (j + 1) = if cq y ((run qs k x).getD j 0) ≤ 0 ∧ cq ((run qs k x).getD j 0) z ≤ 0 then vsK (run qs k x) y z j + 1 else vsK (run qs k x) y z j := by
            intro j
            simp only [cq_le]
            rfl
          have HST := hide hstep
          have HBD := hide hbd
          clear evs etw ho hmB hy hz horA horB hstep hbd hfit hyf hzf hle
          generalize cq y z = cyz at *
          obtain ⟨yn, hyn⟩ : ∃ r, r = y.num := ⟨_, rfl⟩
          obtain ⟨yd, hyd⟩ : ∃ r, r = (y.den : Int) := ⟨_, rfl⟩
          obtain ⟨zn, hzn⟩ : ∃ r, r = z.num := ⟨_, rfl⟩
          obtain ⟨zd, hzd⟩ : ∃ r, r = (z.den : Int) := ⟨_, rfl⟩
          rw [← hyn, ← hyd] at H1 HOA HOR
          rw [← hzn, ← hzd] at H2 HOB HOR
          rw [← hyn, ← hyd, ← hzn, ← hzd]
          clear hyn hyd hzn hzd
          go_enter Try.func35, Try.ntmps35
          go_wp2_with (first
            | (go_at_call 25; (with_reducible refine ((unhide HI) _ (own_below (unhide HA) ?pb)).mono ?_); (case pb => exact (by repeat (first | with_reducible exact Below.refl _ _ | with_reducible assumption | (with_reducible refine Below.trans ?_ (Below.mono (by assumption) (by first | omega | (simp <;> omega)))) | with_reducible apply Below.drew | with_reducible apply below_drewN | (with_reducible refine Below.alloc ?_ (by first | omega | (simp <;> omega)) _) | (with_reducible refine Below.setCell ?_ (by first | omega | (simp <;> omega)) _)))); rintro e w1 ⟨gs, d1, rfl, hown, hbw1⟩; have hs1 := hbw1.size; (skip; (try ((have kw1w0 := (bnew hbw1) (w.heap.size) ?pf); (case pf => (first | omega | (simp; done) | (simp; omega))); obtain ⟨kcw1w0, kfw1w0, klw1w0⟩ := kw1w0)); (try ((have kw1w1 := (bnew hbw1) (w.heap.size + 1) ?pf); (case pf => (first | omega | (simp; done) | (simp; omega))); obtain ⟨kcw1w1, kfw1w1, klw1w1⟩ := kw1w1)); (try ((have kw1w2 := (bnew hbw1) (w.heap.size + 1 + 1) ?pf); (case pf => (first | omega | (simp; done) | (simp; omega))); obtain ⟨kcw1w2, kfw1w2, klw1w2⟩ := kw1w2))); have HOW := hide hown; clear hown)
            | (go_at_call 58; first | (have _t := hbw2; clear _t; (with_reducible refine ((unhide H2) _).mono ?_); rintro e w3 ⟨rfl, hbw3⟩; have hs3 := hbw3.size; (skip; (try ((have kw3w0 := (bnew hbw3) (w.heap.size) ?pf); (case pf => (first | omega | (simp; done) | (simp; omega))); obtain ⟨kcw3w0, kfw3w0, klw3w0⟩ := kw3w0)); (try ((have kw3w1 := (bnew hbw3) (w.heap.size + 1) ?pf); (case pf => (first | omega | (simp; done) | (simp; omega))); obtain ⟨kcw3w1, kfw3w1, klw3w1⟩ := kw3w1)); (try ((have kw3w2 := (bnew hbw3) (w.heap.size + 1 + 1) ?pf); (case pf => (first | omega | (simp; done) | (simp; omega))); obtain ⟨kcw3w2, kfw3w2, klw3w2⟩ := kw3w2)))) | ((with_reducible refine ((unhide H1) _).mono ?_); rintro e w2 ⟨rfl, hbw2⟩; have hs2 := hbw2.size; (skip; (try ((have kw2w0 := (bnew hbw2) (w.heap.size) ?pf); (case pf => (first | omega | (simp; done) | (simp; omega))); obtain ⟨kcw2w0, kfw2w0, klw2w0⟩ := kw2w0)); (try ((have kw2w1 := (bnew hbw2) (w.heap.size + 1) ?pf); (case pf => (first | omega | (simp; done) | (simp; omega))); obtain ⟨kcw2w1, kfw2w1, klw2w1⟩ := kw2w1)); (try ((have kw2w2 := (bnew hbw2) (w.heap.size + 1 + 1) ?pf); (case pf => (first | omega | (simp; done) | (simp; omega))); obtain ⟨kcw2w2, kfw2w2, klw2w2⟩ := kw2w2)))))
            | (go_at_call 70; (with_reducible refine ((unhide HOR) _).mono ?_); rintro e w4 ⟨rfl, hbw4⟩; have hs4 := hbw4.size; (skip; (try ((have kw4w0 := (bnew hbw4) (w.heap.size) ?pf); (case pf => (first | omega | (simp; done) | (simp; omega))); obtain ⟨kcw4w0, kfw4w0, klw4w0⟩ := kw4w0)); (try ((have kw4w1 := (bnew hbw4) (w.heap.size + 1) ?pf); (case pf => (first | omega | (simp; done) | (simp; omega))); obtain ⟨kcw4w1, kfw4w1, klw4w1⟩ := kw4w1)); (try ((have kw4w2 := (bnew hbw4) (w.heap.size + 1 + 1) ?pf); (case pf => (first | omega | (simp; done) | (simp; omega))); obtain ⟨kcw4w2, kfw4w2, klw4w2⟩ := kw4w2)))))
          have ca0 : w4.cell? ⟨w.heap.size + 1, 0, none⟩ = some (.int .i64 yn) := by rw [kcw4w1, kcw3w1, kcw2w1, kcw1w1]; simp [go_sem]
          have ca1 : w4.cell? ⟨w.heap.size + 1, 1, none⟩ = some (.int .i64 yd) := by rw [kcw4w1, kcw3w1, kcw2w1, kcw1w1]; simp [go_sem]
          have cb0 : w4.cell? ⟨w.heap.size + 1 + 1, 0, none⟩ = some (.int .i64 zn) := by rw [kcw4w2, kcw3w2, kcw2w2, kcw1w2]; simp [go_sem]
          have cb1 : w4.cell? ⟨w.heap.size + 1 + 1, 1, none⟩ = some (.int .i64 zd) := by rw [kcw4w2, kcw3w2, kcw2w2, kcw1w2]; simp [go_sem]
          have HOW4 := hide (own_below (unhide HOW) (show Below w1.heap.size w1 w4 from (by repeat (first | with_reducible exact Below.refl _ _ | with_reducible assumption | (with_reducible refine Below.trans ?_ (Below.mono (by assumption) (by first | omega | (simp <;> omega)))) | with_reducible apply Below.drew | with_reducible apply below_drewN | (with_reducible refine Below.alloc ?_ (by first | omega | (simp <;> omega)) _) | (with_reducible refine Below.setCell ?_ (by first | omega | (simp <;> omega)) _)))))
          have hbA : Below w.heap.size w w4 := (by repeat (first | with_reducible exact Below.refl _ _ | with_reducible assumption | (with_reducible refine Below.trans ?_ (Below.mono (by assumption) (by first | omega | (simp <;> omega)))) | with_reducible apply Below.drew | with_reducible apply below_drewN | (with_reducible refine Below.alloc ?_ (by first | omega | (simp <;> omega)) _) | (with_reducible refine Below.setCell ?_ (by first | omega | (simp <;> omega)) _)))
          have hsA := hbA.size
          have hlA : w.heap.size + 1 < w4.heap.size := klw4w1
          have hlB : w.heap.size + 1 + 1 < w4.heap.size := klw4w2
          have HBA := hide hbA
          clear hbw1 hbw2 hbw3 hbw4 kcw1w0 kcw1w1 kcw1w2 kcw2w0 kcw2w1 kcw2w2 kcw3w0 kcw3w1 kcw3w2 kcw4w0 kcw4w1 kcw4w2 kfw1w0 kfw1w1 kfw1w2 kfw2w0 kfw2w1 kfw2w2 kfw3w0 kfw3w1 kfw3w2 kfw4w0 kfw4w1 kfw4w2 klw1w0 klw1w1 klw1w2 klw2w0 klw2w1 klw2w2 klw3w0 klw3w1 klw3w2 klw4w0 klw4w1 klw4w2 hbA HOW
          go_loopw [14, 44] (fun v i wr => ∃ j : Nat, i = .int .i64 j ∧ v = .int .i64 (vsK (run qs k x) y z j) ∧ j ≤ k + 1 ∧ Below w4.heap.size w4 wr) (fun _ i _ => k + 1 - (intOf i).toNat)
          case atStart => exact ⟨0, rfl, rfl, by omega, Below.refl _ _⟩
          case round =>
            obtain ⟨j, rfl, rfl, hj, hbwr⟩ := hrel
            have hzwr := hbwr.size
            by_cases hlt : j < k + 1
            · obtain ⟨hgs, f0, f1⟩ := orb_cell hO (own_below (unhide HOW4) hbwr) hlt
              have car0 := (hbwr.cell (p := ⟨w.heap.size + 1, 0, none⟩) hlA).trans ca0
              have car1 := (hbwr.cell (p := ⟨w.heap.size + 1, 1, none⟩) hlA).trans ca1
              have cbr0 := (hbwr.cell (p := ⟨w.heap.size + 1 + 1, 0, none⟩) hlB).trans cb0
              have cbr1 := (hbwr.cell (p := ⟨w.heap.size + 1 + 1, 1, none⟩) hlB).trans cb1
              have hwA : w.heap.size + 1 < wr.heap.size := by omega
              have hwB : w.heap.size + 1 + 1 < wr.heap.size := by omega
              have hst := (unhide HST) j
              have hoa := (unhide HOA) j hlt
              have hob := (unhide HOB) j hlt
              have hbd := (unhide HBD) j
              obtain ⟨c1, hc1⟩ : ∃ r, r = cq y ((run qs k x).getD j 0) := ⟨_, rfl⟩
              obtain ⟨c2, hc2⟩ : ∃ r, r = cq ((run qs k x).getD j 0) z := ⟨_, rfl⟩
              rw [← hc1] at hoa hst
              rw [← hc2] at hob hst
              have HOAj := hide hoa; have HOBj := hide hob; have HB := hide hbwr
              clear hc1 hc2 hoa hob hbwr ca0 ca1 cb0 cb1
              generalize ((run qs k x).getD j 0).num = ln at *
              generalize (((run qs k x).getD j 0).den : Int) = ld at *
              have hvr : vsK (run qs k x) y z j ≤ 61 := by omega
              by_cases h1 : c1 ≤ 0
              · by_cases h2 : c2 ≤ 0
                · rw [if_pos ⟨h1, h2⟩] at hst
                  have HSTj := Lib.hid hst
                  clear hst
                  generalize vsK (run qs k x) y z j = cur at *
                  go_wp2_with (first | (go_at_call 70; (with_reducible refine ((unhide HOAj) _).mono ?_); rintro e w5 ⟨rfl, hbw5⟩; obtain ⟨hcw5, hfw5⟩ := bcell hbw5; have hzw5 := hbw5.size; (try simp at hzw5); (try ((have kw5w0 := (bnew hbw5) (w.heap.size) ?pf); (case pf => (first | omega | (simp; done) | (simp; omega))); obtain ⟨kcw5w0, kfw5w0, klw5w0⟩ := kw5w0)); (try ((have kw5w1 := (bnew hbw5) (w.heap.size + 1) ?pf); (case pf => (first | omega | (simp; done) | (simp; omega))); obtain ⟨kcw5w1, kfw5w1, klw5w1⟩ := kw5w1)); (try ((have kw5w2 := (bnew hbw5) (w.heap.size + 1 + 1) ?pf); (case pf => (first | omega | (simp; done) | (simp; omega))); obtain ⟨kcw5w2, kfw5w2, klw5w2⟩ := kw5w2)); (try ((have kw5wr0 := (bnew hbw5) (wr.heap.size) ?pf); (case pf => (first | omega | (simp; done) | (simp; omega))); obtain ⟨kcw5wr0, kfw5wr0, klw5wr0⟩ := kw5wr0))) | (go_at_call 70; (with_reducible refine ((unhide HOBj) _).mono ?_); rintro e w6 ⟨rfl, hbw6⟩; obtain ⟨hcw6, hfw6⟩ := bcell hbw6; have hzw6 := hbw6.size; (try simp at hzw6); (try ((have kw6w0 := (bnew hbw6) (w.heap.size) ?pf); (case pf => (first | omega | (simp; done) | (simp; omega))); obtain ⟨kcw6w0, kfw6w0, klw6w0⟩ := kw6w0)); (try ((have kw6w1 := (bnew hbw6) (w.heap.size + 1) ?pf); (case pf => (first | omega | (simp; done) | (simp; omega))); obtain ⟨kcw6w1, kfw6w1, klw6w1⟩ := kw6w1)); (try ((have kw6w2 := (bnew hbw6) (w.heap.size + 1 + 1) ?pf); (case pf => (first | omega | (simp; done) | (simp; omega))); obtain ⟨kcw6w2, kfw6w2, klw6w2⟩ := kw6w2)); (try ((have kw6wr0 := (bnew hbw6) (wr.heap.size) ?pf); (case pf => (first | omega | (simp; done) | (simp; omega))); obtain ⟨kcw6wr0, kfw6wr0, klw6wr0⟩ := kw6wr0))))
                  have hb := unhide HB
                  go_roundw
                  case rel => exact ⟨j + 1, by go_num, by rw [HSTj.out], by omega, (by repeat (first | with_reducible exact Below.refl _ _ | with_reducible assumption | (with_reducible refine Below.trans ?_ (Below.mono (by assumption) (by first | omega | (simp <;> omega)))) | with_reducible apply Below.drew | with_reducible apply below_drewN | (with_reducible refine Below.alloc ?_ (by first | omega | (simp <;> omega)) _) | (with_reducible refine Below.setCell ?_ (by first | omega | (simp <;> omega)) _)))⟩
                  case measure => simp [intOf]; omega
                · rw [if_neg (fun h => h2 h.2)] at hst
                  have HSTj := Lib.hid hst
                  clear hst
                  have h2' : decide (c2 ≤ 0) = false := decide_eq_false h2
                  generalize vsK (run qs k x) y z j = cur at *
                  go_wp2_with (first | (go_at_call 70; (with_reducible refine ((unhide HOAj) _).mono ?_); rintro e w5 ⟨rfl, hbw5⟩; obtain ⟨hcw5, hfw5⟩ := bcell hbw5; have hzw5 := hbw5.size; (try simp at hzw5); (try ((have kw5w0 := (bnew hbw5) (w.heap.size) ?pf); (case pf => (first | omega | (simp; done) | (simp; omega))); obtain ⟨kcw5w0, kfw5w0, klw5w0⟩ := kw5w0)); (try ((have kw5w1 := (bnew hbw5) (w.heap.size + 1) ?pf); (case pf => (first | omega | (simp; done) | (simp; omega))); obtain ⟨kcw5w1, kfw5w1, klw5w1⟩ := kw5w1)); (try ((have kw5w2 := (bnew hbw5) (w.heap.size + 1 + 1) ?pf); (case pf => (first | omega | (simp; done) | (simp; omega))); obtain ⟨kcw5w2, kfw5w2, klw5w2⟩ := kw5w2)); (try ((have kw5wr0 := (bnew hbw5) (wr.heap.size) ?pf); (case pf => (first | omega | (simp; done) | (simp; omega))); obtain ⟨kcw5wr0, kfw5wr0, klw5wr0⟩ := kw5wr0))) | (go_at_call 70; (with_reducible refine ((unhide HOBj) _).mono ?_); rintro e w6 ⟨rfl, hbw6⟩; obtain ⟨hcw6, hfw6⟩ := bcell hbw6; have hzw6 := hbw6.size; (try simp at hzw6); (try ((have kw6w0 := (bnew hbw6) (w.heap.size) ?pf); (case pf => (first | omega | (simp; done) | (simp; omega))); obtain ⟨kcw6w0, kfw6w0, klw6w0⟩ := kw6w0)); (try ((have kw6w1 := (bnew hbw6) (w.heap.size + 1) ?pf); (case pf => (first | omega | (simp; done) | (simp; omega))); obtain ⟨kcw6w1, kfw6w1, klw6w1⟩ := kw6w1)); (try ((have kw6w2 := (bnew hbw6) (w.heap.size + 1 + 1) ?pf); (case pf => (first | omega | (simp; done) | (simp; omega))); obtain ⟨kcw6w2, kfw6w2, klw6w2⟩ := kw6w2)); (try ((have kw6wr0 := (bnew hbw6) (wr.heap.size) ?pf); (case pf => (first | omega | (simp; done) | (simp; omega))); obtain ⟨kcw6wr0, kfw6wr0, klw6wr0⟩ := kw6wr0))))
                  have hb := unhide HB
                  go_roundw
                  case rel => exact ⟨j + 1, by go_num, by rw [HSTj.out], by omega, (by repeat (first | with_reducible exact Below.refl _ _ | with_reducible assumption | (with_reducible refine Below.trans ?_ (Below.mono (by assumption) (by first | omega | (simp <;> omega)))) | with_reducible apply Below.drew | with_reducible apply below_drewN | (with_reducible refine Below.alloc ?_ (by first | omega | (simp <;> omega)) _) | (with_reducible refine Below.setCell ?_ (by first | omega | (simp <;> omega)) _)))⟩
                  case measure => simp [intOf]; omega
              · rw [if_neg (fun h => h1 h.1)] at hst
                have HSTj := Lib.hid hst
                clear hst
                have h1' : decide (c1 ≤ 0) = false := decide_eq_false h1
                generalize vsK (run qs k x) y z j = cur at *
                go_wp2_with ((go_at_call 70; (with_reducible refine ((unhide HOAj) _).mono ?_); rintro e w5 ⟨rfl, hbw5⟩; obtain ⟨hcw5, hfw5⟩ := bcell hbw5; have hzw5 := hbw5.size; (try simp at hzw5); (try ((have kw5w0 := (bnew hbw5) (w.heap.size) ?pf); (case pf => (first | omega | (simp; done) | (simp; omega))); obtain ⟨kcw5w0, kfw5w0, klw5w0⟩ := kw5w0)); (try ((have kw5w1 := (bnew hbw5) (w.heap.size + 1) ?pf); (case pf => (first | omega | (simp; done) | (simp; omega))); obtain ⟨kcw5w1, kfw5w1, klw5w1⟩ := kw5w1)); (try ((have kw5w2 := (bnew hbw5) (w.heap.size + 1 + 1) ?pf); (case pf => (first | omega | (simp; done) | (simp; omega))); obtain ⟨kcw5w2, kfw5w2, klw5w2⟩ := kw5w2)); (try ((have kw5wr0 := (bnew hbw5) (wr.heap.size) ?pf); (case pf => (first | omega | (simp; done) | (simp; omega))); obtain ⟨kcw5wr0, kfw5wr0, klw5wr0⟩ := kw5wr0))))
                have hb := unhide HB
                go_roundw
                case rel => exact ⟨j + 1, by go_num, by rw [HSTj.out], by omega, (by repeat (first | with_reducible exact Below.refl _ _ | with_reducible assumption | (with_reducible refine Below.trans ?_ (Below.mono (by assumption) (by first | omega | (simp <;> omega)))) | with_reducible apply Below.drew | with_reducible apply below_drewN | (with_reducible refine Below.alloc ?_ (by first | omega | (simp <;> omega)) _) | (with_reducible refine Below.setCell ?_ (by first | omega | (simp <;> omega)) _)))⟩
                case measure => simp [intOf]; omega
            · obtain rfl : j = k + 1 := by omega
              have HB := hide hbwr
              clear hbwr
              go_wp2
              have hb := unhide HB
              have hbA := unhide HBA
              go_ret2
              exact ⟨rfl, (by repeat (first | with_reducible exact Below.refl _ _ | with_reducible assumption | (with_reducible refine Below.trans ?_ (Below.mono (by assumption) (by first | omega | (simp <;> omega)))) | with_reducible apply Below.drew | with_reducible apply below_drewN | (with_reducible refine Below.alloc ?_ (by first | omega | (simp <;> omega)) _) | (with_reducible refine Below.setCell ?_ (by first | omega | (simp <;> omega)) _)))⟩
        · have hgt : decide (cq y z > 0) = true := decide_eq_true (by omega)
          rw [vsO_no (.inr (by rw [etw, decide_eq_false hle]))]
          simp only [Option.getD_none, Option.isSome_none]
          clear etw ho hmB hy hz hle hyf hzf
          generalize cq y z = cyz at *
          go_enter Try.func35, Try.ntmps35
          go_wp2_with (first
            | (go_at_call 25; (with_reducible refine ((unhide HI) _ (own_below (unhide HA) ?pb)).mono ?_); (case pb => exact (by repeat (first | with_reducible exact Below.refl _ _ | with_reducible assumption | (with_reducible refine Below.trans ?_ (Below.mono (by assumption) (by first | omega | (simp <;> omega)))) | with_reducible apply Below.drew | with_reducible apply below_drewN | (with_reducible refine Below.alloc ?_ (by first | omega | (simp <;> omega)) _) | (with_reducible refine Below.setCell ?_ (by first | omega | (simp <;> omega)) _)))); rintro e w1 ⟨gs, d1, rfl, hown, hbw1⟩; have hs1 := hbw1.size; (skip; (try ((have kw1w0 := (bnew hbw1) (w.heap.size) ?pf); (case pf => (first | omega | (simp; done) | (simp; omega))); obtain ⟨kcw1w0, kfw1w0, klw1w0⟩ := kw1w0)); (try ((have kw1w1 := (bnew hbw1) (w.heap.size + 1) ?pf); (case pf => (first | omega | (simp; done) | (simp; omega))); obtain ⟨kcw1w1, kfw1w1, klw1w1⟩ := kw1w1)); (try ((have kw1w2 := (bnew hbw1) (w.heap.size + 1 + 1) ?pf); (case pf => (first | omega | (simp; done) | (simp; omega))); obtain ⟨kcw1w2, kfw1w2, klw1w2⟩ := kw1w2))); clear hown)
            | (go_at_call 58; first | (have _t := hbw2; clear _t; (with_reducible refine ((unhide H2) _).mono ?_); rintro e w3 ⟨rfl, hbw3⟩; have hs3 := hbw3.size; (skip; (try ((have kw3w0 := (bnew hbw3) (w.heap.size) ?pf); (case pf => (first | omega | (simp; done) | (simp; omega))); obtain ⟨kcw3w0, kfw3w0, klw3w0⟩ := kw3w0)); (try ((have kw3w1 := (bnew hbw3) (w.heap.size + 1) ?pf); (case pf => (first | omega | (simp; done) | (simp; omega))); obtain ⟨kcw3w1, kfw3w1, klw3w1⟩ := kw3w1)); (try ((have kw3w2 := (bnew hbw3) (w.heap.size + 1 + 1) ?pf); (case pf => (first | omega | (simp; done) | (simp; omega))); obtain ⟨kcw3w2, kfw3w2, klw3w2⟩ := kw3w2)))) | ((with_reducible refine ((unhide H1) _).mono ?_); rintro e w2 ⟨rfl, hbw2⟩; have hs2 := hbw2.size; (skip; (try ((have kw2w0 := (bnew hbw2) (w.heap.size) ?pf); (case pf => (first | omega | (simp; done) | (simp; omega))); obtain ⟨kcw2w0, kfw2w0, klw2w0⟩ := kw2w0)); (try ((have kw2w1 := (bnew hbw2) (w.heap.size + 1) ?pf); (case pf => (first | omega | (simp; done) | (simp; omega))); obtain ⟨kcw2w1, kfw2w1, klw2w1⟩ := kw2w1)); (try ((have kw2w2 := (bnew hbw2) (w.heap.size + 1 + 1) ?pf); (case pf => (first | omega | (simp; done) | (simp; omega))); obtain ⟨kcw2w2, kfw2w2, klw2w2⟩ := kw2w2)))))
            | (go_at_call 70; (with_reducible refine ((unhide HOR) _).mono ?_); rintro e w4 ⟨rfl, hbw4⟩; have hs4 := hbw4.size; (skip; (try ((have kw4w0 := (bnew hbw4) (w.heap.size) ?pf); (case pf => (first | omega | (simp; done) | (simp; omega))); obtain ⟨kcw4w0, kfw4w0, klw4w0⟩ := kw4w0)); (try ((have kw4w1 := (bnew hbw4) (w.heap.size + 1) ?pf); (case pf => (first | omega | (simp; done) | (simp; omega))); obtain ⟨kcw4w1, kfw4w1, klw4w1⟩ := kw4w1)); (try ((have kw4w2 := (bnew hbw4) (w.heap.size + 1 + 1) ?pf); (case pf => (first | omega | (simp; done) | (simp; omega))); obtain ⟨kcw4w2, kfw4w2, klw4w2⟩ := kw4w2)))))
          go_ret2
          exact ⟨rfl, (by repeat (first | with_reducible exact Below.refl _ _ | with_reducible assumption | (with_reducible refine Below.trans ?_ (Below.mono (by assumption) (by first | omega | (simp <;> omega)))) | with_reducible apply Below.drew | with_reducible apply below_drewN | (with_reducible refine Below.alloc ?_ (by first | omega | (simp <;> omega)) _) | (with_reducible refine Below.setCell ?_ (by first | omega | (simp <;> omega)) _)))⟩

set_option maxRecDepth 100000 in
set_option maxHeartbeats 3200000 in
theorem sVisitsOf_any (A : Option Addr) (n c base : Nat) (ps : List Pt) (a b m p q r s : Int) (w : World) (ha : w.ownsRow base 65 4 (.slice A n c) n (ptcs ps)) (hn : n ≤ 1048576) :
    Calls Try.prog 34 #[.slice A n c, .agg #[.int .i64 (a), .int .i64 (b)], .int .i64 m, .agg #[.int .i64 (p), .int .i64 (q)], .agg #[.int .i64 (r), .int .i64 (s)]] w fun e w' => e = .returned (.tuple #[.int .i64 ((vsO ps a b m p q r s).getD 0), .bool (vsO ps a b m p q r s).isSome]) ∧ Below w.heap.size w w' := by
  have htwo := fun W hW => imTwo_any A n c base ps p q r s W hW hn
  rcases s_cases (a := a) (b := b) (m := m) ha hn with ⟨ho, hr, hask⟩ | ⟨qs, x, k, L, rfl, rfl, rfl, rfl, hk, hL1, hLk, ho, hr, hl, hask, hrun⟩ | ⟨qs, x, k, rfl, rfl, rfl, rfl, hk, hO, ho, hr, hask, hrun⟩
  · have HI := hide hask; have HA := hide ha
    rw [vsO_no (.inl ho)]
    simp only [Option.getD_none, Option.isSome_none]
    clear hask ha ho hr htwo
    go_enter Try.func34, Try.ntmps34
    go_wp2_with (go_at_call 62; (with_reducible refine ((unhide HI) _ (own_below (unhide HA) ?pb)).mono ?_); (case pb => exact (by repeat (first | with_reducible exact Below.refl _ _ | with_reducible assumption | (with_reducible refine Below.trans ?_ (Below.mono (by assumption) (by first | omega | (simp <;> omega)))) | with_reducible apply Below.drew | with_reducible apply below_drewN | (with_reducible refine Below.alloc ?_ (by first | omega | (simp <;> omega)) _) | (with_reducible refine Below.setCell ?_ (by first | omega | (simp <;> omega)) _)))); rintro e w1 ⟨rfl, hbw1⟩; have hs1 := hbw1.size; (skip; (try ((have kw1w0 := (bnew hbw1) (w.heap.size) ?pf); (case pf => (first | omega | (simp; done) | (simp; omega))); obtain ⟨kcw1w0, kfw1w0, klw1w0⟩ := kw1w0)); (try ((have kw1w1 := (bnew hbw1) (w.heap.size + 1) ?pf); (case pf => (first | omega | (simp; done) | (simp; omega))); obtain ⟨kcw1w1, kfw1w1, klw1w1⟩ := kw1w1)); (try ((have kw1w2 := (bnew hbw1) (w.heap.size + 1 + 1) ?pf); (case pf => (first | omega | (simp; done) | (simp; omega))); obtain ⟨kcw1w2, kfw1w2, klw1w2⟩ := kw1w2))))
    go_ret2
    exact ⟨rfl, (by repeat (first | with_reducible exact Below.refl _ _ | with_reducible assumption | (with_reducible refine Below.trans ?_ (Below.mono (by assumption) (by first | omega | (simp <;> omega)))) | with_reducible apply Below.drew | with_reducible apply below_drewN | (with_reducible refine Below.alloc ?_ (by first | omega | (simp <;> omega)) _) | (with_reducible refine Below.setCell ?_ (by first | omega | (simp <;> omega)) _)))⟩
  · have HI := hide hask; have HA := hide ha; have HR := hide hrun
    rw [vsO_no (.inl ho)]
    simp only [Option.getD_none, Option.isSome_none]
    clear hask ha ho hr hl hrun
    generalize x.num = xn at *
    generalize (x.den : Int) = xd at *
    generalize twoB (qs.map qp) p q r s = z at *
    have HT := hide htwo
    clear htwo
    cases z
    · go_enter Try.func34, Try.ntmps34
      go_wp2_with (first
        | (go_at_call 62; (with_reducible refine ((unhide HI) _ (own_below (unhide HA) ?pb)).mono ?_); (case pb => exact (by repeat (first | with_reducible exact Below.refl _ _ | with_reducible assumption | (with_reducible refine Below.trans ?_ (Below.mono (by assumption) (by first | omega | (simp <;> omega)))) | with_reducible apply Below.drew | with_reducible apply below_drewN | (with_reducible refine Below.alloc ?_ (by first | omega | (simp <;> omega)) _) | (with_reducible refine Below.setCell ?_ (by first | omega | (simp <;> omega)) _)))); rintro e w1 ⟨rfl, hbw1⟩; have hs1 := hbw1.size; (skip; (try ((have kw1w0 := (bnew hbw1) (w.heap.size) ?pf); (case pf => (first | omega | (simp; done) | (simp; omega))); obtain ⟨kcw1w0, kfw1w0, klw1w0⟩ := kw1w0)); (try ((have kw1w1 := (bnew hbw1) (w.heap.size + 1) ?pf); (case pf => (first | omega | (simp; done) | (simp; omega))); obtain ⟨kcw1w1, kfw1w1, klw1w1⟩ := kw1w1)); (try ((have kw1w2 := (bnew hbw1) (w.heap.size + 1 + 1) ?pf); (case pf => (first | omega | (simp; done) | (simp; omega))); obtain ⟨kcw1w2, kfw1w2, klw1w2⟩ := kw1w2))))
        | (go_at_call 68; (with_reducible refine ((unhide HT) _ (own_below (unhide HA) ?pb)).mono ?_); (case pb => exact (by repeat (first | with_reducible exact Below.refl _ _ | with_reducible assumption | (with_reducible refine Below.trans ?_ (Below.mono (by assumption) (by first | omega | (simp <;> omega)))) | with_reducible apply Below.drew | with_reducible apply below_drewN | (with_reducible refine Below.alloc ?_ (by first | omega | (simp <;> omega)) _) | (with_reducible refine Below.setCell ?_ (by first | omega | (simp <;> omega)) _)))); rintro e w2 ⟨rfl, hbw2⟩; have hs2 := hbw2.size; (skip; (try ((have kw2w0 := (bnew hbw2) (w.heap.size) ?pf); (case pf => (first | omega | (simp; done) | (simp; omega))); obtain ⟨kcw2w0, kfw2w0, klw2w0⟩ := kw2w0)); (try ((have kw2w1 := (bnew hbw2) (w.heap.size + 1) ?pf); (case pf => (first | omega | (simp; done) | (simp; omega))); obtain ⟨kcw2w1, kfw2w1, klw2w1⟩ := kw2w1)); (try ((have kw2w2 := (bnew hbw2) (w.heap.size + 1 + 1) ?pf); (case pf => (first | omega | (simp; done) | (simp; omega))); obtain ⟨kcw2w2, kfw2w2, klw2w2⟩ := kw2w2)))))
      go_ret2
      exact ⟨rfl, (by repeat (first | with_reducible exact Below.refl _ _ | with_reducible assumption | (with_reducible refine Below.trans ?_ (Below.mono (by assumption) (by first | omega | (simp <;> omega)))) | with_reducible apply Below.drew | with_reducible apply below_drewN | (with_reducible refine Below.alloc ?_ (by first | omega | (simp <;> omega)) _) | (with_reducible refine Below.setCell ?_ (by first | omega | (simp <;> omega)) _)))⟩
    · go_enter Try.func34, Try.ntmps34
      go_wp2_with (first
        | (go_at_call 62; (with_reducible refine ((unhide HI) _ (own_below (unhide HA) ?pb)).mono ?_); (case pb => exact (by repeat (first | with_reducible exact Below.refl _ _ | with_reducible assumption | (with_reducible refine Below.trans ?_ (Below.mono (by assumption) (by first | omega | (simp <;> omega)))) | with_reducible apply Below.drew | with_reducible apply below_drewN | (with_reducible refine Below.alloc ?_ (by first | omega | (simp <;> omega)) _) | (with_reducible refine Below.setCell ?_ (by first | omega | (simp <;> omega)) _)))); rintro e w1 ⟨rfl, hbw1⟩; have hs1 := hbw1.size; (skip; (try ((have kw1w0 := (bnew hbw1) (w.heap.size) ?pf); (case pf => (first | omega | (simp; done) | (simp; omega))); obtain ⟨kcw1w0, kfw1w0, klw1w0⟩ := kw1w0)); (try ((have kw1w1 := (bnew hbw1) (w.heap.size + 1) ?pf); (case pf => (first | omega | (simp; done) | (simp; omega))); obtain ⟨kcw1w1, kfw1w1, klw1w1⟩ := kw1w1)); (try ((have kw1w2 := (bnew hbw1) (w.heap.size + 1 + 1) ?pf); (case pf => (first | omega | (simp; done) | (simp; omega))); obtain ⟨kcw1w2, kfw1w2, klw1w2⟩ := kw1w2))))
        | (go_at_call 68; (with_reducible refine ((unhide HT) _ (own_below (unhide HA) ?pb)).mono ?_); (case pb => exact (by repeat (first | with_reducible exact Below.refl _ _ | with_reducible assumption | (with_reducible refine Below.trans ?_ (Below.mono (by assumption) (by first | omega | (simp <;> omega)))) | with_reducible apply Below.drew | with_reducible apply below_drewN | (with_reducible refine Below.alloc ?_ (by first | omega | (simp <;> omega)) _) | (with_reducible refine Below.setCell ?_ (by first | omega | (simp <;> omega)) _)))); rintro e w2 ⟨rfl, hbw2⟩; have hs2 := hbw2.size; (skip; (try ((have kw2w0 := (bnew hbw2) (w.heap.size) ?pf); (case pf => (first | omega | (simp; done) | (simp; omega))); obtain ⟨kcw2w0, kfw2w0, klw2w0⟩ := kw2w0)); (try ((have kw2w1 := (bnew hbw2) (w.heap.size + 1) ?pf); (case pf => (first | omega | (simp; done) | (simp; omega))); obtain ⟨kcw2w1, kfw2w1, klw2w1⟩ := kw2w1)); (try ((have kw2w2 := (bnew hbw2) (w.heap.size + 1 + 1) ?pf); (case pf => (first | omega | (simp; done) | (simp; omega))); obtain ⟨kcw2w2, kfw2w2, klw2w2⟩ := kw2w2))))
        | (go_at_call 63; (with_reducible refine ((unhide HR) _ (own_below (unhide HA) ?pb)).mono ?_); (case pb => exact (by repeat (first | with_reducible exact Below.refl _ _ | with_reducible assumption | (with_reducible refine Below.trans ?_ (Below.mono (by assumption) (by first | omega | (simp <;> omega)))) | with_reducible apply Below.drew | with_reducible apply below_drewN | (with_reducible refine Below.alloc ?_ (by first | omega | (simp <;> omega)) _) | (with_reducible refine Below.setCell ?_ (by first | omega | (simp <;> omega)) _)))); rintro e w3 ⟨gs, d, rfl, hbw3⟩; have hs3 := hbw3.size; (skip; (try ((have kw3w0 := (bnew hbw3) (w.heap.size) ?pf); (case pf => (first | omega | (simp; done) | (simp; omega))); obtain ⟨kcw3w0, kfw3w0, klw3w0⟩ := kw3w0)); (try ((have kw3w1 := (bnew hbw3) (w.heap.size + 1) ?pf); (case pf => (first | omega | (simp; done) | (simp; omega))); obtain ⟨kcw3w1, kfw3w1, klw3w1⟩ := kw3w1)); (try ((have kw3w2 := (bnew hbw3) (w.heap.size + 1 + 1) ?pf); (case pf => (first | omega | (simp; done) | (simp; omega))); obtain ⟨kcw3w2, kfw3w2, klw3w2⟩ := kw3w2)))))
      go_ret2
      exact ⟨rfl, (by repeat (first | with_reducible exact Below.refl _ _ | with_reducible assumption | (with_reducible refine Below.trans ?_ (Below.mono (by assumption) (by first | omega | (simp <;> omega)))) | with_reducible apply Below.drew | with_reducible apply below_drewN | (with_reducible refine Below.alloc ?_ (by first | omega | (simp <;> omega)) _) | (with_reducible refine Below.setCell ?_ (by first | omega | (simp <;> omega)) _)))⟩
  · have HI := hide hask; have HA := hide ha; have HR := hide hrun
    clear hask ha hr hrun
    generalize hxn : x.num = xn at *
    generalize hxd : (x.den : Int) = xd at *
    clear hxn hxd
    rcases htw : twoB (qs.map qp) p q r s with _ | _
    · rw [vsO_no (.inr htw)]
      simp only [Option.getD_none, Option.isSome_none]
      rw [htw] at htwo
      have HT := hide htwo
      clear htwo htw ho
      go_enter Try.func34, Try.ntmps34
      go_wp2_with (first
        | (go_at_call 62; (with_reducible refine ((unhide HI) _ (own_below (unhide HA) ?pb)).mono ?_); (case pb => exact (by repeat (first | with_reducible exact Below.refl _ _ | with_reducible assumption | (with_reducible refine Below.trans ?_ (Below.mono (by assumption) (by first | omega | (simp <;> omega)))) | with_reducible apply Below.drew | with_reducible apply below_drewN | (with_reducible refine Below.alloc ?_ (by first | omega | (simp <;> omega)) _) | (with_reducible refine Below.setCell ?_ (by first | omega | (simp <;> omega)) _)))); rintro e w1 ⟨rfl, hbw1⟩; have hs1 := hbw1.size; (skip; (try ((have kw1w0 := (bnew hbw1) (w.heap.size) ?pf); (case pf => (first | omega | (simp; done) | (simp; omega))); obtain ⟨kcw1w0, kfw1w0, klw1w0⟩ := kw1w0)); (try ((have kw1w1 := (bnew hbw1) (w.heap.size + 1) ?pf); (case pf => (first | omega | (simp; done) | (simp; omega))); obtain ⟨kcw1w1, kfw1w1, klw1w1⟩ := kw1w1)); (try ((have kw1w2 := (bnew hbw1) (w.heap.size + 1 + 1) ?pf); (case pf => (first | omega | (simp; done) | (simp; omega))); obtain ⟨kcw1w2, kfw1w2, klw1w2⟩ := kw1w2))))
        | (go_at_call 68; (with_reducible refine ((unhide HT) _ (own_below (unhide HA) ?pb)).mono ?_); (case pb => exact (by repeat (first | with_reducible exact Below.refl _ _ | with_reducible assumption | (with_reducible refine Below.trans ?_ (Below.mono (by assumption) (by first | omega | (simp <;> omega)))) | with_reducible apply Below.drew | with_reducible apply below_drewN | (with_reducible refine Below.alloc ?_ (by first | omega | (simp <;> omega)) _) | (with_reducible refine Below.setCell ?_ (by first | omega | (simp <;> omega)) _)))); rintro e w2 ⟨rfl, hbw2⟩; have hs2 := hbw2.size; (skip; (try ((have kw2w0 := (bnew hbw2) (w.heap.size) ?pf); (case pf => (first | omega | (simp; done) | (simp; omega))); obtain ⟨kcw2w0, kfw2w0, klw2w0⟩ := kw2w0)); (try ((have kw2w1 := (bnew hbw2) (w.heap.size + 1) ?pf); (case pf => (first | omega | (simp; done) | (simp; omega))); obtain ⟨kcw2w1, kfw2w1, klw2w1⟩ := kw2w1)); (try ((have kw2w2 := (bnew hbw2) (w.heap.size + 1 + 1) ?pf); (case pf => (first | omega | (simp; done) | (simp; omega))); obtain ⟨kcw2w2, kfw2w2, klw2w2⟩ := kw2w2)))))
      go_ret2
      exact ⟨rfl, (by repeat (first | with_reducible exact Below.refl _ _ | with_reducible assumption | (with_reducible refine Below.trans ?_ (Below.mono (by assumption) (by first | omega | (simp <;> omega)))) | with_reducible apply Below.drew | with_reducible apply below_drewN | (with_reducible refine Below.alloc ?_ (by first | omega | (simp <;> omega)) _) | (with_reducible refine Below.setCell ?_ (by first | omega | (simp <;> omega)) _)))⟩
    · rw [htw] at htwo
      have HT := hide htwo
      have hparts := htw
      simp only [twoB, Bool.and_eq_true] at hparts
      obtain ⟨y, rfl, rfl, hyf, _, _⟩ := uB_rat hparts.2.1
      obtain ⟨z, rfl, rfl, hzf, _, _⟩ := uB_rat hparts.2.2.1
      have evs : vsO (qs.map qp) xn xd k y.num y.den z.num z.den = some (vsK (run qs k x) y z (k + 1)) := by
        unfold vsO
        rw [htw, ho]
        simp only [Option.map_some, Rat.num_divInt_den, hO.len]
      rw [evs]
      simp only [Option.getD_some, Option.isSome_some]
      have hfit : ∀ j, j < k + 1 → fits ((run qs k x).getD j 0) = true := fun j hj => (hO.all j hj).fit
      have horA : ∀ j, j < k + 1 → ∀ W, Calls Try.prog 69 #[.agg #[.int .i64 (y.num), .int .i64 (y.den)], .agg #[.int .i64 (((run qs k x).getD j 0).num), .int .i64 (((run qs k x).getD j 0).den)]] W fun e w' => e = .returned (.int .i64 (cq y ((run qs k x).getD j 0))) ∧ Below W.heap.size W w' := fun j hj W => raCmp_q y _ hyf (hfit j hj) W
      have horB : ∀ j, j < k + 1 → ∀ W, Calls Try.prog 69 #[.agg #[.int .i64 (((run qs k x).getD j 0).num), .int .i64 (((run qs k x).getD j 0).den)], .agg #[.int .i64 (z.num), .int .i64 (z.den)]] W fun e w' => e = .returned (.int .i64 (cq ((run qs k x).getD j 0) z)) ∧ Below W.heap.size W w' := fun j hj W => raCmp_q _ z (hfit j hj) hzf W
      have HOA := hide horA; have HOB := hide horB
      have hbd := vsK_bd (run qs k x) y z
      have hstep : ∀ j, vsK (run qs k x) y z (j + 1) = if cq y ((run qs k x).getD j 0) ≤ 0 ∧ cq ((run qs k x).getD j 0) z ≤ 0 then vsK (run qs k x) y z j + 1 else vsK (run qs k x) y z j := by
        intro j
        simp only [cq_le]
        rfl
      have HST := hide hstep
      have HBD := hide hbd
      clear evs ho horA horB hstep hbd hfit hyf hzf htwo htw hparts
      obtain ⟨yn, hyn⟩ : ∃ r, r = y.num := ⟨_, rfl⟩
      obtain ⟨yd, hyd⟩ : ∃ r, r = (y.den : Int) := ⟨_, rfl⟩
      obtain ⟨zn, hzn⟩ : ∃ r, r = z.num := ⟨_, rfl⟩
      obtain ⟨zd, hzd⟩ : ∃ r, r = (z.den : Int) := ⟨_, rfl⟩
      rw [← hyn, ← hyd] at HOA HT
      rw [← hzn, ← hzd] at HOB HT
      rw [← hyn, ← hyd, ← hzn, ← hzd]
      clear hyn hyd hzn hzd
      go_enter Try.func34, Try.ntmps34
      go_wp2_with (first
        | (go_at_call 62; (with_reducible refine ((unhide HI) _ (own_below (unhide HA) ?pb)).mono ?_); (case pb => exact (by repeat (first | with_reducible exact Below.refl _ _ | with_reducible assumption | (with_reducible refine Below.trans ?_ (Below.mono (by assumption) (by first | omega | (simp <;> omega)))) | with_reducible apply Below.drew | with_reducible apply below_drewN | (with_reducible refine Below.alloc ?_ (by first | omega | (simp <;> omega)) _) | (with_reducible refine Below.setCell ?_ (by first | omega | (simp <;> omega)) _)))); rintro e w1 ⟨rfl, hbw1⟩; have hs1 := hbw1.size; (skip; (try ((have kw1w0 := (bnew hbw1) (w.heap.size) ?pf); (case pf => (first | omega | (simp; done) | (simp; omega))); obtain ⟨kcw1w0, kfw1w0, klw1w0⟩ := kw1w0)); (try ((have kw1w1 := (bnew hbw1) (w.heap.size + 1) ?pf); (case pf => (first | omega | (simp; done) | (simp; omega))); obtain ⟨kcw1w1, kfw1w1, klw1w1⟩ := kw1w1)); (try ((have kw1w2 := (bnew hbw1) (w.heap.size + 1 + 1) ?pf); (case pf => (first | omega | (simp; done) | (simp; omega))); obtain ⟨kcw1w2, kfw1w2, klw1w2⟩ := kw1w2))))
        | (go_at_call 68; (with_reducible refine ((unhide HT) _ (own_below (unhide HA) ?pb)).mono ?_); (case pb => exact (by repeat (first | with_reducible exact Below.refl _ _ | with_reducible assumption | (with_reducible refine Below.trans ?_ (Below.mono (by assumption) (by first | omega | (simp <;> omega)))) | with_reducible apply Below.drew | with_reducible apply below_drewN | (with_reducible refine Below.alloc ?_ (by first | omega | (simp <;> omega)) _) | (with_reducible refine Below.setCell ?_ (by first | omega | (simp <;> omega)) _)))); rintro e w2 ⟨rfl, hbw2⟩; have hs2 := hbw2.size; (skip; (try ((have kw2w0 := (bnew hbw2) (w.heap.size) ?pf); (case pf => (first | omega | (simp; done) | (simp; omega))); obtain ⟨kcw2w0, kfw2w0, klw2w0⟩ := kw2w0)); (try ((have kw2w1 := (bnew hbw2) (w.heap.size + 1) ?pf); (case pf => (first | omega | (simp; done) | (simp; omega))); obtain ⟨kcw2w1, kfw2w1, klw2w1⟩ := kw2w1)); (try ((have kw2w2 := (bnew hbw2) (w.heap.size + 1 + 1) ?pf); (case pf => (first | omega | (simp; done) | (simp; omega))); obtain ⟨kcw2w2, kfw2w2, klw2w2⟩ := kw2w2))))
        | (go_at_call 63; (with_reducible refine ((unhide HR) _ (own_below (unhide HA) ?pb)).mono ?_); (case pb => exact (by repeat (first | with_reducible exact Below.refl _ _ | with_reducible assumption | (with_reducible refine Below.trans ?_ (Below.mono (by assumption) (by first | omega | (simp <;> omega)))) | with_reducible apply Below.drew | with_reducible apply below_drewN | (with_reducible refine Below.alloc ?_ (by first | omega | (simp <;> omega)) _) | (with_reducible refine Below.setCell ?_ (by first | omega | (simp <;> omega)) _)))); rintro e w3 ⟨gs, d, rfl, hown, hbw3⟩; have hs3 := hbw3.size; (skip; (try ((have kw3w0 := (bnew hbw3) (w.heap.size) ?pf); (case pf => (first | omega | (simp; done) | (simp; omega))); obtain ⟨kcw3w0, kfw3w0, klw3w0⟩ := kw3w0)); (try ((have kw3w1 := (bnew hbw3) (w.heap.size + 1) ?pf); (case pf => (first | omega | (simp; done) | (simp; omega))); obtain ⟨kcw3w1, kfw3w1, klw3w1⟩ := kw3w1)); (try ((have kw3w2 := (bnew hbw3) (w.heap.size + 1 + 1) ?pf); (case pf => (first | omega | (simp; done) | (simp; omega))); obtain ⟨kcw3w2, kfw3w2, klw3w2⟩ := kw3w2))); have HOW := hide hown; clear hown))
      have ca0 : w3.cell? ⟨w.heap.size + 1, 0, none⟩ = some (.int .i64 yn) := by rw [kcw3w1, kcw2w1, kcw1w1]; simp [go_sem]
      have ca1 : w3.cell? ⟨w.heap.size + 1, 1, none⟩ = some (.int .i64 yd) := by rw [kcw3w1, kcw2w1, kcw1w1]; simp [go_sem]
      have cb0 : w3.cell? ⟨w.heap.size + 1 + 1, 0, none⟩ = some (.int .i64 zn) := by rw [kcw3w2, kcw2w2, kcw1w2]; simp [go_sem]
      have cb1 : w3.cell? ⟨w.heap.size + 1 + 1, 1, none⟩ = some (.int .i64 zd) := by rw [kcw3w2, kcw2w2, kcw1w2]; simp [go_sem]
      have HOW4 := hide (own_below (unhide HOW) (show Below w3.heap.size w3 w3 from (by repeat (first | with_reducible exact Below.refl _ _ | with_reducible assumption | (with_reducible refine Below.trans ?_ (Below.mono (by assumption) (by first | omega | (simp <;> omega)))) | with_reducible apply Below.drew | with_reducible apply below_drewN | (with_reducible refine Below.alloc ?_ (by first | omega | (simp <;> omega)) _) | (with_reducible refine Below.setCell ?_ (by first | omega | (simp <;> omega)) _)))))
      have hbA : Below w.heap.size w w3 := (by repeat (first | with_reducible exact Below.refl _ _ | with_reducible assumption | (with_reducible refine Below.trans ?_ (Below.mono (by assumption) (by first | omega | (simp <;> omega)))) | with_reducible apply Below.drew | with_reducible apply below_drewN | (with_reducible refine Below.alloc ?_ (by first | omega | (simp <;> omega)) _) | (with_reducible refine Below.setCell ?_ (by first | omega | (simp <;> omega)) _)))
      have hsA := hbA.size
      have hlA : w.heap.size + 1 < w3.heap.size := klw3w1
      have hlB : w.heap.size + 1 + 1 < w3.heap.size := klw3w2
      have HBA := hide hbA
      clear hbw1 hbw2 hbw3 kcw1w0 kcw1w1 kcw1w2 kcw2w0 kcw2w1 kcw2w2 kcw3w0 kcw3w1 kcw3w2 kfw1w0 kfw1w1 kfw1w2 kfw2w0 kfw2w1 kfw2w2 kfw3w0 kfw3w1 kfw3w2 klw1w0 klw1w1 klw1w2 klw2w0 klw2w1 klw2w2 klw3w0 klw3w1 klw3w2 hbA HOW
      go_loopw [13, 38] (fun v i wr => ∃ j : Nat, i = .int .i64 j ∧ v = .int .i64 (vsK (run qs k x) y z j) ∧ j ≤ k + 1 ∧ Below w3.heap.size w3 wr) (fun _ i _ => k + 1 - (intOf i).toNat)
      case atStart => exact ⟨0, rfl, rfl, by omega, Below.refl _ _⟩
      case round =>
        obtain ⟨j, rfl, rfl, hj, hbwr⟩ := hrel
        have hzwr := hbwr.size
        by_cases hlt : j < k + 1
        · obtain ⟨hgs, f0, f1⟩ := orb_cell hO (own_below (unhide HOW4) hbwr) hlt
          have car0 := (hbwr.cell (p := ⟨w.heap.size + 1, 0, none⟩) hlA).trans ca0
          have car1 := (hbwr.cell (p := ⟨w.heap.size + 1, 1, none⟩) hlA).trans ca1
          have cbr0 := (hbwr.cell (p := ⟨w.heap.size + 1 + 1, 0, none⟩) hlB).trans cb0
          have cbr1 := (hbwr.cell (p := ⟨w.heap.size + 1 + 1, 1, none⟩) hlB).trans cb1
          have hwA : w.heap.size + 1 < wr.heap.size := by omega
          have hwB : w.heap.size + 1 + 1 < wr.heap.size := by omega
          have hst := (unhide HST) j
          have hoa := (unhide HOA) j hlt
          have hob := (unhide HOB) j hlt
          have hbd := (unhide HBD) j
          obtain ⟨c1, hc1⟩ : ∃ r, r = cq y ((run qs k x).getD j 0) := ⟨_, rfl⟩
          obtain ⟨c2, hc2⟩ : ∃ r, r = cq ((run qs k x).getD j 0) z := ⟨_, rfl⟩
          rw [← hc1] at hoa hst
          rw [← hc2] at hob hst
          have HOAj := hide hoa; have HOBj := hide hob; have HB := hide hbwr
          clear hc1 hc2 hoa hob hbwr ca0 ca1 cb0 cb1
          generalize ((run qs k x).getD j 0).num = ln at *
          generalize (((run qs k x).getD j 0).den : Int) = ld at *
          have hvr : vsK (run qs k x) y z j ≤ 61 := by omega
          by_cases h1 : c1 ≤ 0
          · by_cases h2 : c2 ≤ 0
            · rw [if_pos ⟨h1, h2⟩] at hst
              have HSTj := Lib.hid hst
              clear hst
              generalize vsK (run qs k x) y z j = cur at *
              go_wp2_with (first | (go_at_call 69; (with_reducible refine ((unhide HOAj) _).mono ?_); rintro e w5 ⟨rfl, hbw5⟩; obtain ⟨hcw5, hfw5⟩ := bcell hbw5; have hzw5 := hbw5.size; (try simp at hzw5); (try ((have kw5w0 := (bnew hbw5) (w.heap.size) ?pf); (case pf => (first | omega | (simp; done) | (simp; omega))); obtain ⟨kcw5w0, kfw5w0, klw5w0⟩ := kw5w0)); (try ((have kw5w1 := (bnew hbw5) (w.heap.size + 1) ?pf); (case pf => (first | omega | (simp; done) | (simp; omega))); obtain ⟨kcw5w1, kfw5w1, klw5w1⟩ := kw5w1)); (try ((have kw5w2 := (bnew hbw5) (w.heap.size + 1 + 1) ?pf); (case pf => (first | omega | (simp; done) | (simp; omega))); obtain ⟨kcw5w2, kfw5w2, klw5w2⟩ := kw5w2)); (try ((have kw5wr0 := (bnew hbw5) (wr.heap.size) ?pf); (case pf => (first | omega | (simp; done) | (simp; omega))); obtain ⟨kcw5wr0, kfw5wr0, klw5wr0⟩ := kw5wr0))) | (go_at_call 69; (with_reducible refine ((unhide HOBj) _).mono ?_); rintro e w6 ⟨rfl, hbw6⟩; obtain ⟨hcw6, hfw6⟩ := bcell hbw6; have hzw6 := hbw6.size; (try simp at hzw6); (try ((have kw6w0 := (bnew hbw6) (w.heap.size) ?pf); (case pf => (first | omega | (simp; done) | (simp; omega))); obtain ⟨kcw6w0, kfw6w0, klw6w0⟩ := kw6w0)); (try ((have kw6w1 := (bnew hbw6) (w.heap.size + 1) ?pf); (case pf => (first | omega | (simp; done) | (simp; omega))); obtain ⟨kcw6w1, kfw6w1, klw6w1⟩ := kw6w1)); (try ((have kw6w2 := (bnew hbw6) (w.heap.size + 1 + 1) ?pf); (case pf => (first | omega | (simp; done) | (simp; omega))); obtain ⟨kcw6w2, kfw6w2, klw6w2⟩ := kw6w2)); (try ((have kw6wr0 := (bnew hbw6) (wr.heap.size) ?pf); (case pf => (first | omega | (simp; done) | (simp; omega))); obtain ⟨kcw6wr0, kfw6wr0, klw6wr0⟩ := kw6wr0))))
              have hb := unhide HB
              go_roundw
              case rel => exact ⟨j + 1, by go_num, by rw [HSTj.out], by omega, (by repeat (first | with_reducible exact Below.refl _ _ | with_reducible assumption | (with_reducible refine Below.trans ?_ (Below.mono (by assumption) (by first | omega | (simp <;> omega)))) | with_reducible apply Below.drew | with_reducible apply below_drewN | (with_reducible refine Below.alloc ?_ (by first | omega | (simp <;> omega)) _) | (with_reducible refine Below.setCell ?_ (by first | omega | (simp <;> omega)) _)))⟩
              case measure => simp [intOf]; omega
            · rw [if_neg (fun h => h2 h.2)] at hst
              have HSTj := Lib.hid hst
              clear hst
              have h2' : decide (c2 ≤ 0) = false := decide_eq_false h2
              generalize vsK (run qs k x) y z j = cur at *
              go_wp2_with (first | (go_at_call 69; (with_reducible refine ((unhide HOAj) _).mono ?_); rintro e w5 ⟨rfl, hbw5⟩; obtain ⟨hcw5, hfw5⟩ := bcell hbw5; have hzw5 := hbw5.size; (try simp at hzw5); (try ((have kw5w0 := (bnew hbw5) (w.heap.size) ?pf); (case pf => (first | omega | (simp; done) | (simp; omega))); obtain ⟨kcw5w0, kfw5w0, klw5w0⟩ := kw5w0)); (try ((have kw5w1 := (bnew hbw5) (w.heap.size + 1) ?pf); (case pf => (first | omega | (simp; done) | (simp; omega))); obtain ⟨kcw5w1, kfw5w1, klw5w1⟩ := kw5w1)); (try ((have kw5w2 := (bnew hbw5) (w.heap.size + 1 + 1) ?pf); (case pf => (first | omega | (simp; done) | (simp; omega))); obtain ⟨kcw5w2, kfw5w2, klw5w2⟩ := kw5w2)); (try ((have kw5wr0 := (bnew hbw5) (wr.heap.size) ?pf); (case pf => (first | omega | (simp; done) | (simp; omega))); obtain ⟨kcw5wr0, kfw5wr0, klw5wr0⟩ := kw5wr0))) | (go_at_call 69; (with_reducible refine ((unhide HOBj) _).mono ?_); rintro e w6 ⟨rfl, hbw6⟩; obtain ⟨hcw6, hfw6⟩ := bcell hbw6; have hzw6 := hbw6.size; (try simp at hzw6); (try ((have kw6w0 := (bnew hbw6) (w.heap.size) ?pf); (case pf => (first | omega | (simp; done) | (simp; omega))); obtain ⟨kcw6w0, kfw6w0, klw6w0⟩ := kw6w0)); (try ((have kw6w1 := (bnew hbw6) (w.heap.size + 1) ?pf); (case pf => (first | omega | (simp; done) | (simp; omega))); obtain ⟨kcw6w1, kfw6w1, klw6w1⟩ := kw6w1)); (try ((have kw6w2 := (bnew hbw6) (w.heap.size + 1 + 1) ?pf); (case pf => (first | omega | (simp; done) | (simp; omega))); obtain ⟨kcw6w2, kfw6w2, klw6w2⟩ := kw6w2)); (try ((have kw6wr0 := (bnew hbw6) (wr.heap.size) ?pf); (case pf => (first | omega | (simp; done) | (simp; omega))); obtain ⟨kcw6wr0, kfw6wr0, klw6wr0⟩ := kw6wr0))))
              have hb := unhide HB
              go_roundw
              case rel => exact ⟨j + 1, by go_num, by rw [HSTj.out], by omega, (by repeat (first | with_reducible exact Below.refl _ _ | with_reducible assumption | (with_reducible refine Below.trans ?_ (Below.mono (by assumption) (by first | omega | (simp <;> omega)))) | with_reducible apply Below.drew | with_reducible apply below_drewN | (with_reducible refine Below.alloc ?_ (by first | omega | (simp <;> omega)) _) | (with_reducible refine Below.setCell ?_ (by first | omega | (simp <;> omega)) _)))⟩
              case measure => simp [intOf]; omega
          · rw [if_neg (fun h => h1 h.1)] at hst
            have HSTj := Lib.hid hst
            clear hst
            have h1' : decide (c1 ≤ 0) = false := decide_eq_false h1
            generalize vsK (run qs k x) y z j = cur at *
            go_wp2_with ((go_at_call 69; (with_reducible refine ((unhide HOAj) _).mono ?_); rintro e w5 ⟨rfl, hbw5⟩; obtain ⟨hcw5, hfw5⟩ := bcell hbw5; have hzw5 := hbw5.size; (try simp at hzw5); (try ((have kw5w0 := (bnew hbw5) (w.heap.size) ?pf); (case pf => (first | omega | (simp; done) | (simp; omega))); obtain ⟨kcw5w0, kfw5w0, klw5w0⟩ := kw5w0)); (try ((have kw5w1 := (bnew hbw5) (w.heap.size + 1) ?pf); (case pf => (first | omega | (simp; done) | (simp; omega))); obtain ⟨kcw5w1, kfw5w1, klw5w1⟩ := kw5w1)); (try ((have kw5w2 := (bnew hbw5) (w.heap.size + 1 + 1) ?pf); (case pf => (first | omega | (simp; done) | (simp; omega))); obtain ⟨kcw5w2, kfw5w2, klw5w2⟩ := kw5w2)); (try ((have kw5wr0 := (bnew hbw5) (wr.heap.size) ?pf); (case pf => (first | omega | (simp; done) | (simp; omega))); obtain ⟨kcw5wr0, kfw5wr0, klw5wr0⟩ := kw5wr0))))
            have hb := unhide HB
            go_roundw
            case rel => exact ⟨j + 1, by go_num, by rw [HSTj.out], by omega, (by repeat (first | with_reducible exact Below.refl _ _ | with_reducible assumption | (with_reducible refine Below.trans ?_ (Below.mono (by assumption) (by first | omega | (simp <;> omega)))) | with_reducible apply Below.drew | with_reducible apply below_drewN | (with_reducible refine Below.alloc ?_ (by first | omega | (simp <;> omega)) _) | (with_reducible refine Below.setCell ?_ (by first | omega | (simp <;> omega)) _)))⟩
            case measure => simp [intOf]; omega
        · obtain rfl : j = k + 1 := by omega
          have HB := hide hbwr
          clear hbwr
          go_wp2
          have hb := unhide HB
          have hbA := unhide HBA
          go_ret2
          exact ⟨rfl, (by repeat (first | with_reducible exact Below.refl _ _ | with_reducible assumption | (with_reducible refine Below.trans ?_ (Below.mono (by assumption) (by first | omega | (simp <;> omega)))) | with_reducible apply Below.drew | with_reducible apply below_drewN | (with_reducible refine Below.alloc ?_ (by first | omega | (simp <;> omega)) _) | (with_reducible refine Below.setCell ?_ (by first | omega | (simp <;> omega)) _)))⟩
end Go.Proofs.Ytmkejopkmdcfeaa

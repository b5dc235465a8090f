/-
  Chapter 2: two fractions in order, asked of the model.
-/
import Derived.Test.YtmkejopkmdcfeabIg
namespace Go.Proofs.Ytmkejopkmdcfeab
open Go.RowKit Rm

theorem uB_good {a b : Int} (h : uB a b = true) : good a b = true := by simp only [uB, Bool.and_eq_true] at h; exact h.1
theorem raCmp_u (a b c d : Int) (w : World) (h1 : uB a b = true) (h2 : uB c d = true) : Calls Try.prog 74 #[.agg #[.int .i64 (a), .int .i64 (b)], .agg #[.int .i64 (c), .int .i64 (d)]] w fun e w' => e = .returned (.int .i64 (cmpI (a * d) (c * b))) ∧ Below w.heap.size w w' := by
  have hg : two a b c d = true := by simp [two, uB_good h1, uB_good h2]
  have h := raCmp_any a b c d w hg
  rw [show cmpR a b c d = cmpI (a * d) (c * b) by simp [cmpR, hg, cmpI_sign]] at h
  exact h
def twoB (ps : List Pt) (a b p q : Int) : Bool := mapB ps && (uB a b && (uB p q && decide (cmpI (a * q) (p * b) ≤ 0)))
set_option maxRecDepth 100000 in
set_option maxHeartbeats 1600000 in
theorem imTwo_any (A : Option Addr) (n c base : Nat) (ps : List Pt) (a b p q : Int) (w : World) (ha : w.ownsRow base 70 4 (.slice A n c) n (ptcs ps)) (hn : n ≤ 1048576) :
    Calls Try.prog 44 #[.slice A n c, .agg #[.int .i64 (a), .int .i64 (b)], .agg #[.int .i64 (p), .int .i64 (q)]] w fun e w' => e = .returned (.bool (twoB ps a b p q)) ∧ Below w.heap.size w w' := by
  have hmap := fun W hW => imGood_any A n c base ps W hW hn
  have h1 := fun W => raUnit_any a b W
  have h2 := fun W => raUnit_any p q W
  have HA := hide ha; clear ha
  rcases hm : mapB ps with _ | _
  · rw [show twoB ps a b p q = false by simp [twoB, hm]]
    rw [hm] at hmap
    have HM := hide hmap; clear hmap hm h1 h2
    go_enter Try.func44, Try.ntmps44
    go_wp2_with (go_at_call 83; (refine ((unhide HM) _ (own_below (unhide HA) ?pb)).mono ?_); (case pb => exact (by repeat (first | with_reducible exact Below.refl _ _ | with_reducible assumption | (with_reducible refine Below.trans ?_ (Below.mono (by assumption) (by first | omega | (simp <;> omega)))) | with_reducible apply Below.drew | with_reducible apply below_drewN | (with_reducible refine Below.alloc ?_ (by first | omega | (simp <;> omega)) _) | (with_reducible refine Below.setCell ?_ (by first | omega | (simp <;> omega)) _)))); rintro e w1 ⟨rfl, hbw1⟩; (skip; (try ((have kw1w0 := (bnew hbw1) (w.heap.size) ?pf); (case pf => (first | omega | (simp; done) | (simp; omega))); obtain ⟨kcw1w0, kfw1w0, klw1w0⟩ := kw1w0)); (try ((have kw1w1 := (bnew hbw1) (w.heap.size + 1) ?pf); (case pf => (first | omega | (simp; done) | (simp; omega))); obtain ⟨kcw1w1, kfw1w1, klw1w1⟩ := kw1w1))))
    go_ret
    exact ⟨rfl, (by repeat (first | with_reducible exact Below.refl _ _ | with_reducible assumption | (with_reducible refine Below.trans ?_ (Below.mono (by assumption) (by first | omega | (simp <;> omega)))) | with_reducible apply Below.drew | with_reducible apply below_drewN | (with_reducible refine Below.alloc ?_ (by first | omega | (simp <;> omega)) _) | (with_reducible refine Below.setCell ?_ (by first | omega | (simp <;> omega)) _)))⟩
  · rw [hm] at hmap
    rcases hu : uB a b with _ | _
    · rw [show twoB ps a b p q = false by simp [twoB, hu]]
      rw [hu] at h1
      have HM := hide hmap; have H1 := hide h1; clear hmap hm h1 h2 hu
      go_enter Try.func44, Try.ntmps44
      go_wp2_with (first | (go_at_call 83; (refine ((unhide HM) _ (own_below (unhide HA) ?pb)).mono ?_); (case pb => exact (by repeat (first | with_reducible exact Below.refl _ _ | with_reducible assumption | (with_reducible refine Below.trans ?_ (Below.mono (by assumption) (by first | omega | (simp <;> omega)))) | with_reducible apply Below.drew | with_reducible apply below_drewN | (with_reducible refine Below.alloc ?_ (by first | omega | (simp <;> omega)) _) | (with_reducible refine Below.setCell ?_ (by first | omega | (simp <;> omega)) _)))); rintro e w1 ⟨rfl, hbw1⟩; (skip; (try ((have kw1w0 := (bnew hbw1) (w.heap.size) ?pf); (case pf => (first | omega | (simp; done) | (simp; omega))); obtain ⟨kcw1w0, kfw1w0, klw1w0⟩ := kw1w0)); (try ((have kw1w1 := (bnew hbw1) (w.heap.size + 1) ?pf); (case pf => (first | omega | (simp; done) | (simp; omega))); obtain ⟨kcw1w1, kfw1w1, klw1w1⟩ := kw1w1)))) | (go_at_call 73; (with_reducible refine ((unhide H1) _).mono ?_); rintro e w2 ⟨rfl, hbw2⟩; obtain ⟨hcw2, hfw2⟩ := bcell hbw2; have hzw2 := hbw2.size; (try simp at hzw2); (try ((have kw2w0 := (bnew hbw2) (w.heap.size) ?pf); (case pf => (first | omega | (simp; done) | (simp; omega))); obtain ⟨kcw2w0, kfw2w0, klw2w0⟩ := kw2w0)); (try ((have kw2w1 := (bnew hbw2) (w.heap.size + 1) ?pf); (case pf => (first | omega | (simp; done) | (simp; omega))); obtain ⟨kcw2w1, kfw2w1, klw2w1⟩ := kw2w1))))
      go_ret
      exact ⟨rfl, (by repeat (first | with_reducible exact Below.refl _ _ | with_reducible assumption | (with_reducible refine Below.trans ?_ (Below.mono (by assumption) (by first | omega | (simp <;> omega)))) | with_reducible apply Below.drew | with_reducible apply below_drewN | (with_reducible refine Below.alloc ?_ (by first | omega | (simp <;> omega)) _) | (with_reducible refine Below.setCell ?_ (by first | omega | (simp <;> omega)) _)))⟩
    · rw [hu] at h1
      rcases hv : uB p q with _ | _
      · rw [show twoB ps a b p q = false by simp [twoB, hv]]
        rw [hv] at h2
        have HM := hide hmap; have H1 := hide h1; have H2 := hide h2; clear hmap hm h1 h2 hu hv
        go_enter Try.func44, Try.ntmps44
        go_wp2_with (first | (go_at_call 83; (refine ((unhide HM) _ (own_below (unhide HA) ?pb)).mono ?_); (case pb => exact (by repeat (first | with_reducible exact Below.refl _ _ | with_reducible assumption | (with_reducible refine Below.trans ?_ (Below.mono (by assumption) (by first | omega | (simp <;> omega)))) | with_reducible apply Below.drew | with_reducible apply below_drewN | (with_reducible refine Below.alloc ?_ (by first | omega | (simp <;> omega)) _) | (with_reducible refine Below.setCell ?_ (by first | omega | (simp <;> omega)) _)))); rintro e w1 ⟨rfl, hbw1⟩; (skip; (try ((have kw1w0 := (bnew hbw1) (w.heap.size) ?pf); (case pf => (first | omega | (simp; done) | (simp; omega))); obtain ⟨kcw1w0, kfw1w0, klw1w0⟩ := kw1w0)); (try ((have kw1w1 := (bnew hbw1) (w.heap.size + 1) ?pf); (case pf => (first | omega | (simp; done) | (simp; omega))); obtain ⟨kcw1w1, kfw1w1, klw1w1⟩ := kw1w1)))) | (go_at_call 73; first | (have _t := hbw2; clear _t; (refine ((unhide H2) _).mono ?_); rintro e w3 ⟨rfl, hbw3⟩; (skip; (try ((have kw3w0 := (bnew hbw3) (w.heap.size) ?pf); (case pf => (first | omega | (simp; done) | (simp; omega))); obtain ⟨kcw3w0, kfw3w0, klw3w0⟩ := kw3w0)); (try ((have kw3w1 := (bnew hbw3) (w.heap.size + 1) ?pf); (case pf => (first | omega | (simp; done) | (simp; omega))); obtain ⟨kcw3w1, kfw3w1, klw3w1⟩ := kw3w1)))) | ((refine ((unhide H1) _).mono ?_); rintro e w2 ⟨rfl, hbw2⟩; (skip; (try ((have kw2w0 := (bnew hbw2) (w.heap.size) ?pf); (case pf => (first | omega | (simp; done) | (simp; omega))); obtain ⟨kcw2w0, kfw2w0, klw2w0⟩ := kw2w0)); (try ((have kw2w1 := (bnew hbw2) (w.heap.size + 1) ?pf); (case pf => (first | omega | (simp; done) | (simp; omega))); obtain ⟨kcw2w1, kfw2w1, klw2w1⟩ := kw2w1))); have hz2 := hbw2.size)))
        go_ret
        exact ⟨rfl, (by repeat (first | with_reducible exact Below.refl _ _ | with_reducible assumption | (with_reducible refine Below.trans ?_ (Below.mono (by assumption) (by first | omega | (simp <;> omega)))) | with_reducible apply Below.drew | with_reducible apply below_drewN | (with_reducible refine Below.alloc ?_ (by first | omega | (simp <;> omega)) _) | (with_reducible refine Below.setCell ?_ (by first | omega | (simp <;> omega)) _)))⟩
      · rw [hv] at h2
        have h3 := fun W => raCmp_u a b p q W hu hv
        have e : twoB ps a b p q = decide (cmpI (a * q) (p * b) ≤ 0) := by simp [twoB, hm, hu, hv]
        rw [e]
        generalize cmpI (a * q) (p * b) = z at *
        have HM := hide hmap; have H1 := hide h1; have H2 := hide h2; have H3 := hide h3; clear hmap hm h1 h2 h3 hu hv e
        go_enter Try.func44, Try.ntmps44
        go_wp2_with (first | (go_at_call 74; (with_reducible refine ((unhide H3) _).mono ?_); rintro e w4 ⟨rfl, hbw4⟩; obtain ⟨hcw4, hfw4⟩ := bcell hbw4; have hzw4 := hbw4.size; (try simp at hzw4); (try ((have kw4w0 := (bnew hbw4) (w.heap.size) ?pf); (case pf => (first | omega | (simp; done) | (simp; omega))); obtain ⟨kcw4w0, kfw4w0, klw4w0⟩ := kw4w0)); (try ((have kw4w1 := (bnew hbw4) (w.heap.size + 1) ?pf); (case pf => (first | omega | (simp; done) | (simp; omega))); obtain ⟨kcw4w1, kfw4w1, klw4w1⟩ := kw4w1))) | (go_at_call 83; (refine ((unhide HM) _ (own_below (unhide HA) ?pb)).mono ?_); (case pb => exact (by repeat (first | with_reducible exact Below.refl _ _ | with_reducible assumption | (with_reducible refine Below.trans ?_ (Below.mono (by assumption) (by first | omega | (simp <;> omega)))) | with_reducible apply Below.drew | with_reducible apply below_drewN | (with_reducible refine Below.alloc ?_ (by first | omega | (simp <;> omega)) _) | (with_reducible refine Below.setCell ?_ (by first | omega | (simp <;> omega)) _)))); rintro e w1 ⟨rfl, hbw1⟩; (skip; (try ((have kw1w0 := (bnew hbw1) (w.heap.size) ?pf); (case pf => (first | omega | (simp; done) | (simp; omega))); obtain ⟨kcw1w0, kfw1w0, klw1w0⟩ := kw1w0)); (try ((have kw1w1 := (bnew hbw1) (w.heap.size + 1) ?pf); (case pf => (first | omega | (simp; done) | (simp; omega))); obtain ⟨kcw1w1, kfw1w1, klw1w1⟩ := kw1w1)))) | (go_at_call 73; first | (have _t := hbw2; clear _t; (refine ((unhide H2) _).mono ?_); rintro e w3 ⟨rfl, hbw3⟩; (skip; (try ((have kw3w0 := (bnew hbw3) (w.heap.size) ?pf); (case pf => (first | omega | (simp; done) | (simp; omega))); obtain ⟨kcw3w0, kfw3w0, klw3w0⟩ := kw3w0)); (try ((have kw3w1 := (bnew hbw3) (w.heap.size + 1) ?pf); (case pf => (first | omega | (simp; done) | (simp; omega))); obtain ⟨kcw3w1, kfw3w1, klw3w1⟩ := kw3w1))); have hz3 := hbw3.size) | ((refine ((unhide H1) _).mono ?_); rintro e w2 ⟨rfl, hbw2⟩; (skip; (try ((have kw2w0 := (bnew hbw2) (w.heap.size) ?pf); (case pf => (first | omega | (simp; done) | (simp; omega))); obtain ⟨kcw2w0, kfw2w0, klw2w0⟩ := kw2w0)); (try ((have kw2w1 := (bnew hbw2) (w.heap.size + 1) ?pf); (case pf => (first | omega | (simp; done) | (simp; omega))); obtain ⟨kcw2w1, kfw2w1, klw2w1⟩ := kw2w1))); have hz2 := hbw2.size)))
        go_ret
        exact ⟨rfl, (by repeat (first | with_reducible exact Below.refl _ _ | with_reducible assumption | (with_reducible refine Below.trans ?_ (Below.mono (by assumption) (by first | omega | (simp <;> omega)))) | with_reducible apply Below.drew | with_reducible apply below_drewN | (with_reducible refine Below.alloc ?_ (by first | omega | (simp <;> omega)) _) | (with_reducible refine Below.setCell ?_ (by first | omega | (simp <;> omega)) _)))⟩
end Go.Proofs.Ytmkejopkmdcfeab

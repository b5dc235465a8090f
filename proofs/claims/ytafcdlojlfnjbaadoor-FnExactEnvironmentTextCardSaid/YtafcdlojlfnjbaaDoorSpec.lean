/-
  Chapter 1: contracts of the model's functions on fractions.
-/
import Derived.Test.YtafcdlojlfnjbaaDoorRat
namespace Go.Proofs.YtafcdlojlfnjbaaDoor
open Go.RowKit Rm

theorem raCommon_abs (n d : Int) (w : World) (h1 : -9223372036854775807 ≤ n) (h2 : n ≤ 9223372036854775807) (h3 : -9223372036854775807 ≤ d) (h4 : d ≤ 9223372036854775807) :
    Calls Tryd.prog 54 #[.int .i64 (sg n n), .int .i64 (sg d d)] w fun e w' => e = .returned (.int .i64 (G n d)) ∧ w = w' := by
  have e : G (sg n n) (sg d d) = G n d := by unfold sg; split <;> split <;> simp only [G_neg_left, G_neg_right]
  rw [← e]
  exact raCommon_any _ _ w (by unfold sg; split <;> omega) (by unfold sg; split <;> omega) (by unfold sg; split <;> omega) (by unfold sg; split <;> omega)

theorem two_good {a b c d : Int} (h : two a b c d = true) : good a b = true ∧ good c d = true := by simpa [two] using h

set_option maxHeartbeats 400000 in
theorem l1Sign_any (n : Int) (w : World) :
    Calls Tryd.prog 44 #[.int .i64 n] w fun e w' => e = .returned (.int .i64 n.sign) ∧ w = w' := by
  rcases Int.lt_trichotomy n 0 with hd | hd | hd
  · rw [Int.sign_eq_neg_one_of_neg hd]
    go_enter Tryd.func44, Tryd.ntmps44
    go_wp2
    go_ret
    exact ⟨rfl, rfl⟩
  · subst hd
    go_enter Tryd.func44, Tryd.ntmps44
    go_wp2
    go_ret
    exact ⟨rfl, rfl⟩
  · rw [Int.sign_eq_one_of_pos hd]
    go_enter Tryd.func44, Tryd.ntmps44
    go_wp2
    go_ret
    exact ⟨rfl, rfl⟩

set_option maxHeartbeats 400000 in
theorem raCmp_any (a b c d : Int) (w : World) (hg : two a b c d = true) :
    Calls Tryd.prog 31 #[.agg #[.int .i64 a, .int .i64 b], .agg #[.int .i64 c, .int .i64 d]] w fun e w' =>
      e = .returned (.int .i64 (cmpR a b c d)) ∧ Below w.heap.size w w' := by
  rw [show cmpR a b c d = (a * d - c * b).sign by simp [cmpR, hg]]
  obtain ⟨b1, b2, a1, a2, g1⟩ := good_iff.1 (two_good hg).1
  obtain ⟨d1, d2, c1, c2, g2⟩ := good_iff.1 (two_good hg).2
  clear g1 g2 hg
  obtain ⟨e1, e2⟩ := prod_bd (a := a) (d := d) (by omega) (by omega) (by omega) (by omega)
  obtain ⟨e3, e4⟩ := prod_bd (a := c) (d := b) (by omega) (by omega) (by omega) (by omega)
  go_enter Tryd.func31, Tryd.ntmps31
  go_wp2_with (go_at_call 44; refine (l1Sign_any _ _).mono ?_; rintro e w' ⟨rfl, rfl⟩)
  go_ret
  exact ⟨rfl, (by repeat (first | with_reducible exact Below.refl _ _ | with_reducible assumption | (with_reducible refine Below.trans ?_ (Below.mono (by assumption) (by first | omega | (simp <;> omega)))) | with_reducible apply Below.drew | with_reducible apply below_drewN | (with_reducible refine Below.alloc ?_ (by first | omega | (simp <;> omega)) _) | (with_reducible refine Below.setCell ?_ (by first | omega | (simp <;> omega)) _)))⟩

end Go.Proofs.YtafcdlojlfnjbaaDoor

/-
  Chapter 1: contracts of the model's functions on fractions.
-/
import Derived.Test.YthccdooacbablabRat
namespace Go.Proofs.Ythccdooacbablab
open Go.RowKit Rm

theorem raCommon_abs (n d : Int) (w : World) (h1 : -9223372036854775807 ≤ n) (h2 : n ≤ 9223372036854775807) (h3 : -9223372036854775807 ≤ d) (h4 : d ≤ 9223372036854775807) :
    Calls Try.prog 41 #[.int .i64 (sg n n), .int .i64 (sg d d)] w fun e w' => e = .returned (.int .i64 (G n d)) ∧ w = w' := by
  have e : G (sg n n) (sg d d) = G n d := by unfold sg; split <;> split <;> simp only [G_neg_left, G_neg_right]
  rw [← e]
  exact raCommon_any _ _ w (by unfold sg; split <;> omega) (by unfold sg; split <;> omega) (by unfold sg; split <;> omega) (by unfold sg; split <;> omega)

set_option maxHeartbeats 400000 in
theorem raMake_pos (n d : Int) (w : World) (h1 : -9223372036854775807 ≤ n) (h2 : n ≤ 9223372036854775807) (h3 : 0 < d) (h4 : d ≤ 9223372036854775807) :
    Calls Try.prog 58 #[.int .i64 n, .int .i64 d] w fun e w' => e = .returned (.tuple #[.agg #[.int .i64 (rN n d), .int .i64 (rD n d)], .bool (mok n d)]) ∧ Below w.heap.size w w' := by
  have hg := G_pos (a := n) (b := d) (by omega)
  have hg' := G_le_right (a := n) (b := d) (by omega)
  have hN : n.tdiv (G n d) = mN n d := by have e' := tdiv_N (n := n) (d := d); rwa [sg_nonneg (by omega)] at e'
  have hD : d / G n d = mD n d := by unfold mD; rw [sg_nonneg (by omega)]
  have HN := Lib.hid hN; have HD := Lib.hid hD; clear hN hD
  have hgd : ∀ W, Calls Try.prog 27 #[.agg #[.int .i64 (mN n d), .int .i64 (mD n d)]] W fun e w' => e = .returned (.bool (mok n d)) ∧ Below W.heap.size W w' := by
    intro W; have := raGood_any (mN n d) (mD n d) W; rwa [good_m (by omega)] at this
  cases hk : mok n d with
  | true =>
    have hrN : rN n d = mN n d := by simp [rN, hk]
    have hrD : rD n d = mD n d := by simp [rD, hk]
    rw [hrN, hrD]; rw [hk] at hgd; clear hrN hrD hk
    generalize mN n d = x at *
    generalize mD n d = y at *
    have HGD := hide hgd; clear hgd
    go_enter Try.func58, Try.ntmps58
    go_wp2_with (first | (go_at_call 42; refine (l1Abs_any _ _ (by omega) (by omega)).mono ?_; rintro e w' ⟨rfl, rfl⟩) | (go_at_call 41; refine (raCommon_abs n d _ (by omega) (by omega) (by omega) (by omega)).mono ?_; rintro e w' ⟨rfl, rfl⟩))
    go_region
    simp only [HN.out, HD.out]
    go_wp2_with ((go_at_call 27; (with_reducible refine ((unhide HGD) _).mono ?_); rintro e w1 ⟨rfl, hbw1⟩; obtain ⟨hcw1, hfw1⟩ := bcell hbw1; have hzw1 := hbw1.size; (try simp at hzw1); (try ((have kw1w0 := (bnew hbw1) (w.heap.size) ?pf); (case pf => (first | omega | (simp; done) | (simp; omega))); obtain ⟨kcw1w0, kfw1w0, klw1w0⟩ := kw1w0)); (try ((have kw1w1 := (bnew hbw1) (w.heap.size + 1) ?pf); (case pf => (first | omega | (simp; done) | (simp; omega))); obtain ⟨kcw1w1, kfw1w1, klw1w1⟩ := kw1w1))))
    exact bodyPost_ret (v := .tuple #[.agg #[.int .i64 x, .int .i64 y], .bool true]) (by simp [results, Try.results58, go_sem, *]) rfl ⟨rfl, (by repeat (first | with_reducible exact Below.refl _ _ | with_reducible assumption | (with_reducible refine Below.trans ?_ (Below.mono (by assumption) (by first | omega | (simp <;> omega)))) | with_reducible apply Below.drew | with_reducible apply below_drewN | (with_reducible refine Below.alloc ?_ (by first | omega | (simp <;> omega)) _) | (with_reducible refine Below.setCell ?_ (by first | omega | (simp <;> omega)) _)))⟩
  | false =>
    have hrN : rN n d = 0 := by simp [rN, hk]
    have hrD : rD n d = 0 := by simp [rD, hk]
    rw [hrN, hrD]; rw [hk] at hgd; clear hrN hrD hk
    generalize mN n d = x at *
    generalize mD n d = y at *
    have HGD := hide hgd; clear hgd
    go_enter Try.func58, Try.ntmps58
    go_wp2_with (first | (go_at_call 42; refine (l1Abs_any _ _ (by omega) (by omega)).mono ?_; rintro e w' ⟨rfl, rfl⟩) | (go_at_call 41; refine (raCommon_abs n d _ (by omega) (by omega) (by omega) (by omega)).mono ?_; rintro e w' ⟨rfl, rfl⟩))
    go_region
    simp only [HN.out, HD.out]
    go_wp2_with ((go_at_call 27; (with_reducible refine ((unhide HGD) _).mono ?_); rintro e w1 ⟨rfl, hbw1⟩; obtain ⟨hcw1, hfw1⟩ := bcell hbw1; have hzw1 := hbw1.size; (try simp at hzw1); (try ((have kw1w0 := (bnew hbw1) (w.heap.size) ?pf); (case pf => (first | omega | (simp; done) | (simp; omega))); obtain ⟨kcw1w0, kfw1w0, klw1w0⟩ := kw1w0)); (try ((have kw1w1 := (bnew hbw1) (w.heap.size + 1) ?pf); (case pf => (first | omega | (simp; done) | (simp; omega))); obtain ⟨kcw1w1, kfw1w1, klw1w1⟩ := kw1w1))))
    exact bodyPost_ret (v := .tuple #[.agg #[.int .i64 0, .int .i64 0], .bool false]) (by simp [results, Try.results58, go_sem, *]) rfl ⟨rfl, (by repeat (first | with_reducible exact Below.refl _ _ | with_reducible assumption | (with_reducible refine Below.trans ?_ (Below.mono (by assumption) (by first | omega | (simp <;> omega)))) | with_reducible apply Below.drew | with_reducible apply below_drewN | (with_reducible refine Below.alloc ?_ (by first | omega | (simp <;> omega)) _) | (with_reducible refine Below.setCell ?_ (by first | omega | (simp <;> omega)) _)))⟩

set_option maxHeartbeats 400000 in
theorem raMake_neg (n d : Int) (w : World) (h1 : -9223372036854775807 ≤ n) (h2 : n ≤ 9223372036854775807) (h3 : -9223372036854775807 ≤ d) (h4 : d < 0) :
    Calls Try.prog 58 #[.int .i64 n, .int .i64 d] w fun e w' => e = .returned (.tuple #[.agg #[.int .i64 (rN n d), .int .i64 (rD n d)], .bool (mok n d)]) ∧ Below w.heap.size w w' := by
  have hg := G_pos (a := n) (b := d) (by omega)
  have hg' : G n d ≤ -d := by rw [← G_neg_right]; exact G_le_right (by omega)
  have hN : wrap64 (-(n.tdiv (G n d))) = mN n d := by
    rw [← Int.neg_tdiv, ← sg_neg h4, tdiv_N]
    exact IntWalk.wrap64_in _ (by have := mN_bound (n := n) (d := d) (by omega) 9223372036854775807 (by omega) (by omega); omega)
  have hD : wrap64 (-(d.tdiv (G n d))) = mD n d := by
    rw [← Int.neg_tdiv, ← sg_neg h4, tdiv_D]
    exact IntWalk.wrap64_in _ (by have := mD_bound (n := n) (d := d) (by omega) 9223372036854775807 (by omega) (by omega); omega)
  have HN := Lib.hid hN; have HD := Lib.hid hD; clear hN hD
  have hgd : ∀ W, Calls Try.prog 27 #[.agg #[.int .i64 (mN n d), .int .i64 (mD n d)]] W fun e w' => e = .returned (.bool (mok n d)) ∧ Below W.heap.size W w' := by
    intro W; have := raGood_any (mN n d) (mD n d) W; rwa [good_m (by omega)] at this
  cases hk : mok n d with
  | true =>
    have hrN : rN n d = mN n d := by simp [rN, hk]
    have hrD : rD n d = mD n d := by simp [rD, hk]
    rw [hrN, hrD]; rw [hk] at hgd; clear hrN hrD hk
    generalize mN n d = x at *
    generalize mD n d = y at *
    have HGD := hide hgd; clear hgd
    go_enter Try.func58, Try.ntmps58
    go_wp2_with (first | (go_at_call 42; refine (l1Abs_any _ _ (by omega) (by omega)).mono ?_; rintro e w' ⟨rfl, rfl⟩) | (go_at_call 41; refine (raCommon_abs n d _ (by omega) (by omega) (by omega) (by omega)).mono ?_; rintro e w' ⟨rfl, rfl⟩))
    go_region
    simp only [HN.out, HD.out]
    go_wp2_with ((go_at_call 27; (with_reducible refine ((unhide HGD) _).mono ?_); rintro e w1 ⟨rfl, hbw1⟩; obtain ⟨hcw1, hfw1⟩ := bcell hbw1; have hzw1 := hbw1.size; (try simp at hzw1); (try ((have kw1w0 := (bnew hbw1) (w.heap.size) ?pf); (case pf => (first | omega | (simp; done) | (simp; omega))); obtain ⟨kcw1w0, kfw1w0, klw1w0⟩ := kw1w0)); (try ((have kw1w1 := (bnew hbw1) (w.heap.size + 1) ?pf); (case pf => (first | omega | (simp; done) | (simp; omega))); obtain ⟨kcw1w1, kfw1w1, klw1w1⟩ := kw1w1))))
    exact bodyPost_ret (v := .tuple #[.agg #[.int .i64 x, .int .i64 y], .bool true]) (by simp [results, Try.results58, go_sem, *]) rfl ⟨rfl, (by repeat (first | with_reducible exact Below.refl _ _ | with_reducible assumption | (with_reducible refine Below.trans ?_ (Below.mono (by assumption) (by first | omega | (simp <;> omega)))) | with_reducible apply Below.drew | with_reducible apply below_drewN | (with_reducible refine Below.alloc ?_ (by first | omega | (simp <;> omega)) _) | (with_reducible refine Below.setCell ?_ (by first | omega | (simp <;> omega)) _)))⟩
  | false =>
    have hrN : rN n d = 0 := by simp [rN, hk]
    have hrD : rD n d = 0 := by simp [rD, hk]
    rw [hrN, hrD]; rw [hk] at hgd; clear hrN hrD hk
    generalize mN n d = x at *
    generalize mD n d = y at *
    have HGD := hide hgd; clear hgd
    go_enter Try.func58, Try.ntmps58
    go_wp2_with (first | (go_at_call 42; refine (l1Abs_any _ _ (by omega) (by omega)).mono ?_; rintro e w' ⟨rfl, rfl⟩) | (go_at_call 41; refine (raCommon_abs n d _ (by omega) (by omega) (by omega) (by omega)).mono ?_; rintro e w' ⟨rfl, rfl⟩))
    go_region
    simp only [HN.out, HD.out]
    go_wp2_with ((go_at_call 27; (with_reducible refine ((unhide HGD) _).mono ?_); rintro e w1 ⟨rfl, hbw1⟩; obtain ⟨hcw1, hfw1⟩ := bcell hbw1; have hzw1 := hbw1.size; (try simp at hzw1); (try ((have kw1w0 := (bnew hbw1) (w.heap.size) ?pf); (case pf => (first | omega | (simp; done) | (simp; omega))); obtain ⟨kcw1w0, kfw1w0, klw1w0⟩ := kw1w0)); (try ((have kw1w1 := (bnew hbw1) (w.heap.size + 1) ?pf); (case pf => (first | omega | (simp; done) | (simp; omega))); obtain ⟨kcw1w1, kfw1w1, klw1w1⟩ := kw1w1))))
    exact bodyPost_ret (v := .tuple #[.agg #[.int .i64 0, .int .i64 0], .bool false]) (by simp [results, Try.results58, go_sem, *]) rfl ⟨rfl, (by repeat (first | with_reducible exact Below.refl _ _ | with_reducible assumption | (with_reducible refine Below.trans ?_ (Below.mono (by assumption) (by first | omega | (simp <;> omega)))) | with_reducible apply Below.drew | with_reducible apply below_drewN | (with_reducible refine Below.alloc ?_ (by first | omega | (simp <;> omega)) _) | (with_reducible refine Below.setCell ?_ (by first | omega | (simp <;> omega)) _)))⟩


theorem raMake_any (n d : Int) (w : World) (h1 : -9223372036854775807 ≤ n) (h2 : n ≤ 9223372036854775807) (h3 : -9223372036854775807 ≤ d) (h4 : d ≤ 9223372036854775807) :
    Calls Try.prog 58 #[.int .i64 n, .int .i64 d] w fun e w' => e = .returned (.tuple #[.agg #[.int .i64 (rN n d), .int .i64 (rD n d)], .bool (mok n d)]) ∧ Below w.heap.size w w' := by
  rcases Int.lt_trichotomy d 0 with hd | hd | hd
  · exact raMake_neg n d w h1 h2 h3 hd
  · subst hd
    simp only [rN, rD, mok_zero, Bool.false_eq_true, if_false]
    go_enter Try.func58, Try.ntmps58
    go_wp2_with fail
    exact bodyPost_ret (v := .tuple #[.agg #[.int .i64 0, .int .i64 0], .bool false]) (by simp [results, Try.results58, go_sem]) rfl ⟨rfl, (by repeat (first | with_reducible exact Below.refl _ _ | with_reducible assumption | (with_reducible refine Below.trans ?_ (Below.mono (by assumption) (by first | omega | (simp <;> omega)))) | with_reducible apply Below.drew | with_reducible apply below_drewN | (with_reducible refine Below.alloc ?_ (by first | omega | (simp <;> omega)) _) | (with_reducible refine Below.setCell ?_ (by first | omega | (simp <;> omega)) _)))⟩
  · exact raMake_pos n d w h1 h2 hd h4

theorem two_good {a b c d : Int} (h : two a b c d = true) : good a b = true ∧ good c d = true := by simpa [two] using h

set_option maxHeartbeats 400000 in
theorem raAdd_bd (a b c d : Int) (w : World) (a1 : -1000000000 ≤ a) (a2 : a ≤ 1000000000) (b1 : 0 ≤ b) (b2 : b ≤ 1000000000) (c1 : -1000000000 ≤ c) (c2 : c ≤ 1000000000) (d1 : 0 ≤ d) (d2 : d ≤ 1000000000) :
    Calls Try.prog 53 #[.agg #[.int .i64 a, .int .i64 b], .agg #[.int .i64 c, .int .i64 d]] w fun e w' =>
      e = .returned (.tuple #[.agg #[.int .i64 (rN (a * d + c * b) (b * d)), .int .i64 (rD (a * d + c * b) (b * d))], .bool (mok (a * d + c * b) (b * d))]) ∧ Below w.heap.size w w' := by
  obtain ⟨e1, e2⟩ := prod_bd (a := a) (d := d) (by omega) (by omega) (by omega) (by omega)
  obtain ⟨e3, e4⟩ := prod_bd (a := c) (d := b) (by omega) (by omega) (by omega) (by omega)
  obtain ⟨e5, e6⟩ := prod_bd (a := b) (d := d) (by omega) (by omega) (by omega) (by omega)
  obtain ⟨e7, e8⟩ := prod_bd (a := a) (d := c) (by omega) (by omega) (by omega) (by omega)
  have e11 : -4000000000000000000 ≤ 2 * b * d ∧ 2 * b * d ≤ 4000000000000000000 := by rw [Int.mul_assoc]; omega
  obtain ⟨e11, e12⟩ := e11
  go_enter Try.func53, Try.ntmps53
  go_wp2_with ((go_at_call 58; (with_reducible refine (raMake_any (a * d + c * b) (b * d) _ (by omega) (by omega) (by omega) (by omega)).mono ?_); rintro e w1 ⟨rfl, hbw1⟩; obtain ⟨hcw1, hfw1⟩ := bcell hbw1; have hzw1 := hbw1.size; (try simp at hzw1); (try ((have kw1w0 := (bnew hbw1) (w.heap.size) ?pf); (case pf => (first | omega | (simp; done) | (simp; omega))); obtain ⟨kcw1w0, kfw1w0, klw1w0⟩ := kw1w0)); (try ((have kw1w1 := (bnew hbw1) (w.heap.size + 1) ?pf); (case pf => (first | omega | (simp; done) | (simp; omega))); obtain ⟨kcw1w1, kfw1w1, klw1w1⟩ := kw1w1)); (try ((have kw1w2 := (bnew hbw1) (w.heap.size + 1 + 1) ?pf); (case pf => (first | omega | (simp; done) | (simp; omega))); obtain ⟨kcw1w2, kfw1w2, klw1w2⟩ := kw1w2))))
  exact bodyPost_ret (v := .tuple #[.agg #[.int .i64 (rN (a * d + c * b) (b * d)), .int .i64 (rD (a * d + c * b) (b * d))], .bool (mok (a * d + c * b) (b * d))]) (by simp [results, Try.results53, go_sem, *]) rfl ⟨rfl, (by repeat (first | with_reducible exact Below.refl _ _ | with_reducible assumption | (with_reducible refine Below.trans ?_ (Below.mono (by assumption) (by first | omega | (simp <;> omega)))) | with_reducible apply Below.drew | with_reducible apply below_drewN | (with_reducible refine Below.alloc ?_ (by first | omega | (simp <;> omega)) _) | (with_reducible refine Below.setCell ?_ (by first | omega | (simp <;> omega)) _)))⟩
theorem raAdd_any (a b c d : Int) (w : World) (hg : two a b c d = true) :
    Calls Try.prog 53 #[.agg #[.int .i64 a, .int .i64 b], .agg #[.int .i64 c, .int .i64 d]] w fun e w' =>
      e = .returned (.tuple #[.agg #[.int .i64 (rN (a * d + c * b) (b * d)), .int .i64 (rD (a * d + c * b) (b * d))], .bool (mok (a * d + c * b) (b * d))]) ∧ Below w.heap.size w w' := by
  obtain ⟨b1, b2, a1, a2, g1⟩ := good_iff.1 (two_good hg).1
  obtain ⟨d1, d2, c1, c2, g2⟩ := good_iff.1 (two_good hg).2
  exact raAdd_bd a b c d w a1 a2 (by omega) b2 c1 c2 (by omega) d2
set_option maxHeartbeats 400000 in
theorem raSub_bd (a b c d : Int) (w : World) (a1 : -1000000000 ≤ a) (a2 : a ≤ 1000000000) (b1 : 0 ≤ b) (b2 : b ≤ 1000000000) (c1 : -1000000000 ≤ c) (c2 : c ≤ 1000000000) (d1 : 0 ≤ d) (d2 : d ≤ 1000000000) :
    Calls Try.prog 49 #[.agg #[.int .i64 a, .int .i64 b], .agg #[.int .i64 c, .int .i64 d]] w fun e w' =>
      e = .returned (.tuple #[.agg #[.int .i64 (rN (a * d - c * b) (b * d)), .int .i64 (rD (a * d - c * b) (b * d))], .bool (mok (a * d - c * b) (b * d))]) ∧ Below w.heap.size w w' := by
  obtain ⟨e1, e2⟩ := prod_bd (a := a) (d := d) (by omega) (by omega) (by omega) (by omega)
  obtain ⟨e3, e4⟩ := prod_bd (a := c) (d := b) (by omega) (by omega) (by omega) (by omega)
  obtain ⟨e5, e6⟩ := prod_bd (a := b) (d := d) (by omega) (by omega) (by omega) (by omega)
  obtain ⟨e7, e8⟩ := prod_bd (a := a) (d := c) (by omega) (by omega) (by omega) (by omega)
  have e11 : -4000000000000000000 ≤ 2 * b * d ∧ 2 * b * d ≤ 4000000000000000000 := by rw [Int.mul_assoc]; omega
  obtain ⟨e11, e12⟩ := e11
  go_enter Try.func49, Try.ntmps49
  go_wp2_with ((go_at_call 58; (with_reducible refine (raMake_any (a * d - c * b) (b * d) _ (by omega) (by omega) (by omega) (by omega)).mono ?_); rintro e w1 ⟨rfl, hbw1⟩; obtain ⟨hcw1, hfw1⟩ := bcell hbw1; have hzw1 := hbw1.size; (try simp at hzw1); (try ((have kw1w0 := (bnew hbw1) (w.heap.size) ?pf); (case pf => (first | omega | (simp; done) | (simp; omega))); obtain ⟨kcw1w0, kfw1w0, klw1w0⟩ := kw1w0)); (try ((have kw1w1 := (bnew hbw1) (w.heap.size + 1) ?pf); (case pf => (first | omega | (simp; done) | (simp; omega))); obtain ⟨kcw1w1, kfw1w1, klw1w1⟩ := kw1w1)); (try ((have kw1w2 := (bnew hbw1) (w.heap.size + 1 + 1) ?pf); (case pf => (first | omega | (simp; done) | (simp; omega))); obtain ⟨kcw1w2, kfw1w2, klw1w2⟩ := kw1w2))))
  exact bodyPost_ret (v := .tuple #[.agg #[.int .i64 (rN (a * d - c * b) (b * d)), .int .i64 (rD (a * d - c * b) (b * d))], .bool (mok (a * d - c * b) (b * d))]) (by simp [results, Try.results49, go_sem, *]) rfl ⟨rfl, (by repeat (first | with_reducible exact Below.refl _ _ | with_reducible assumption | (with_reducible refine Below.trans ?_ (Below.mono (by assumption) (by first | omega | (simp <;> omega)))) | with_reducible apply Below.drew | with_reducible apply below_drewN | (with_reducible refine Below.alloc ?_ (by first | omega | (simp <;> omega)) _) | (with_reducible refine Below.setCell ?_ (by first | omega | (simp <;> omega)) _)))⟩
theorem raSub_any (a b c d : Int) (w : World) (hg : two a b c d = true) :
    Calls Try.prog 49 #[.agg #[.int .i64 a, .int .i64 b], .agg #[.int .i64 c, .int .i64 d]] w fun e w' =>
      e = .returned (.tuple #[.agg #[.int .i64 (rN (a * d - c * b) (b * d)), .int .i64 (rD (a * d - c * b) (b * d))], .bool (mok (a * d - c * b) (b * d))]) ∧ Below w.heap.size w w' := by
  obtain ⟨b1, b2, a1, a2, g1⟩ := good_iff.1 (two_good hg).1
  obtain ⟨d1, d2, c1, c2, g2⟩ := good_iff.1 (two_good hg).2
  exact raSub_bd a b c d w a1 a2 (by omega) b2 c1 c2 (by omega) d2
set_option maxHeartbeats 400000 in
theorem raMul_bd (a b c d : Int) (w : World) (a1 : -1000000000 ≤ a) (a2 : a ≤ 1000000000) (b1 : 0 ≤ b) (b2 : b ≤ 1000000000) (c1 : -1000000000 ≤ c) (c2 : c ≤ 1000000000) (d1 : 0 ≤ d) (d2 : d ≤ 1000000000) :
    Calls Try.prog 52 #[.agg #[.int .i64 a, .int .i64 b], .agg #[.int .i64 c, .int .i64 d]] w fun e w' =>
      e = .returned (.tuple #[.agg #[.int .i64 (rN (a * c) (b * d)), .int .i64 (rD (a * c) (b * d))], .bool (mok (a * c) (b * d))]) ∧ Below w.heap.size w w' := by
  obtain ⟨e1, e2⟩ := prod_bd (a := a) (d := d) (by omega) (by omega) (by omega) (by omega)
  obtain ⟨e3, e4⟩ := prod_bd (a := c) (d := b) (by omega) (by omega) (by omega) (by omega)
  obtain ⟨e5, e6⟩ := prod_bd (a := b) (d := d) (by omega) (by omega) (by omega) (by omega)
  obtain ⟨e7, e8⟩ := prod_bd (a := a) (d := c) (by omega) (by omega) (by omega) (by omega)
  have e11 : -4000000000000000000 ≤ 2 * b * d ∧ 2 * b * d ≤ 4000000000000000000 := by rw [Int.mul_assoc]; omega
  obtain ⟨e11, e12⟩ := e11
  go_enter Try.func52, Try.ntmps52
  go_wp2_with ((go_at_call 58; (with_reducible refine (raMake_any (a * c) (b * d) _ (by omega) (by omega) (by omega) (by omega)).mono ?_); rintro e w1 ⟨rfl, hbw1⟩; obtain ⟨hcw1, hfw1⟩ := bcell hbw1; have hzw1 := hbw1.size; (try simp at hzw1); (try ((have kw1w0 := (bnew hbw1) (w.heap.size) ?pf); (case pf => (first | omega | (simp; done) | (simp; omega))); obtain ⟨kcw1w0, kfw1w0, klw1w0⟩ := kw1w0)); (try ((have kw1w1 := (bnew hbw1) (w.heap.size + 1) ?pf); (case pf => (first | omega | (simp; done) | (simp; omega))); obtain ⟨kcw1w1, kfw1w1, klw1w1⟩ := kw1w1)); (try ((have kw1w2 := (bnew hbw1) (w.heap.size + 1 + 1) ?pf); (case pf => (first | omega | (simp; done) | (simp; omega))); obtain ⟨kcw1w2, kfw1w2, klw1w2⟩ := kw1w2))))
  exact bodyPost_ret (v := .tuple #[.agg #[.int .i64 (rN (a * c) (b * d)), .int .i64 (rD (a * c) (b * d))], .bool (mok (a * c) (b * d))]) (by simp [results, Try.results52, go_sem, *]) rfl ⟨rfl, (by repeat (first | with_reducible exact Below.refl _ _ | with_reducible assumption | (with_reducible refine Below.trans ?_ (Below.mono (by assumption) (by first | omega | (simp <;> omega)))) | with_reducible apply Below.drew | with_reducible apply below_drewN | (with_reducible refine Below.alloc ?_ (by first | omega | (simp <;> omega)) _) | (with_reducible refine Below.setCell ?_ (by first | omega | (simp <;> omega)) _)))⟩
theorem raMul_any (a b c d : Int) (w : World) (hg : two a b c d = true) :
    Calls Try.prog 52 #[.agg #[.int .i64 a, .int .i64 b], .agg #[.int .i64 c, .int .i64 d]] w fun e w' =>
      e = .returned (.tuple #[.agg #[.int .i64 (rN (a * c) (b * d)), .int .i64 (rD (a * c) (b * d))], .bool (mok (a * c) (b * d))]) ∧ Below w.heap.size w w' := by
  obtain ⟨b1, b2, a1, a2, g1⟩ := good_iff.1 (two_good hg).1
  obtain ⟨d1, d2, c1, c2, g2⟩ := good_iff.1 (two_good hg).2
  exact raMul_bd a b c d w a1 a2 (by omega) b2 c1 c2 (by omega) d2
set_option maxHeartbeats 400000 in
theorem raDiv_bd (a b c d : Int) (w : World) (a1 : -1000000000 ≤ a) (a2 : a ≤ 1000000000) (b1 : 0 ≤ b) (b2 : b ≤ 1000000000) (c1 : -1000000000 ≤ c) (c2 : c ≤ 1000000000) (d1 : 0 ≤ d) (d2 : d ≤ 1000000000) :
    Calls Try.prog 50 #[.agg #[.int .i64 a, .int .i64 b], .agg #[.int .i64 c, .int .i64 d]] w fun e w' =>
      e = .returned (.tuple #[.agg #[.int .i64 (rN (a * d) (b * c)), .int .i64 (rD (a * d) (b * c))], .bool (mok (a * d) (b * c))]) ∧ Below w.heap.size w w' := by
  obtain ⟨e1, e2⟩ := prod_bd (a := a) (d := d) (by omega) (by omega) (by omega) (by omega)
  obtain ⟨e3, e4⟩ := prod_bd (a := b) (d := c) (by omega) (by omega) (by omega) (by omega)
  by_cases h0 : c = 0
  · subst h0
    simp only [Int.mul_zero, rN, rD, mok_zero, Bool.false_eq_true, if_false]
    go_enter Try.func50, Try.ntmps50
    go_wp2_with fail
    exact bodyPost_ret (v := .tuple #[.agg #[.int .i64 0, .int .i64 0], .bool false]) (by simp [results, Try.results50, go_sem]) rfl ⟨rfl, (by repeat (first | with_reducible exact Below.refl _ _ | with_reducible assumption | (with_reducible refine Below.trans ?_ (Below.mono (by assumption) (by first | omega | (simp <;> omega)))) | with_reducible apply Below.drew | with_reducible apply below_drewN | (with_reducible refine Below.alloc ?_ (by first | omega | (simp <;> omega)) _) | (with_reducible refine Below.setCell ?_ (by first | omega | (simp <;> omega)) _)))⟩
  · have h5 : (c == 0) = false := by simpa using h0
    go_enter Try.func50, Try.ntmps50
    go_wp2_with ((go_at_call 58; (with_reducible refine (raMake_any (a * d) (b * c) _ (by omega) (by omega) (by omega) (by omega)).mono ?_); rintro e w1 ⟨rfl, hbw1⟩; obtain ⟨hcw1, hfw1⟩ := bcell hbw1; have hzw1 := hbw1.size; (try simp at hzw1); (try ((have kw1w0 := (bnew hbw1) (w.heap.size) ?pf); (case pf => (first | omega | (simp; done) | (simp; omega))); obtain ⟨kcw1w0, kfw1w0, klw1w0⟩ := kw1w0)); (try ((have kw1w1 := (bnew hbw1) (w.heap.size + 1) ?pf); (case pf => (first | omega | (simp; done) | (simp; omega))); obtain ⟨kcw1w1, kfw1w1, klw1w1⟩ := kw1w1)); (try ((have kw1w2 := (bnew hbw1) (w.heap.size + 1 + 1) ?pf); (case pf => (first | omega | (simp; done) | (simp; omega))); obtain ⟨kcw1w2, kfw1w2, klw1w2⟩ := kw1w2))))
    exact bodyPost_ret (v := .tuple #[.agg #[.int .i64 (rN (a * d) (b * c)), .int .i64 (rD (a * d) (b * c))], .bool (mok (a * d) (b * c))]) (by simp [results, Try.results50, go_sem, *]) rfl ⟨rfl, (by repeat (first | with_reducible exact Below.refl _ _ | with_reducible assumption | (with_reducible refine Below.trans ?_ (Below.mono (by assumption) (by first | omega | (simp <;> omega)))) | with_reducible apply Below.drew | with_reducible apply below_drewN | (with_reducible refine Below.alloc ?_ (by first | omega | (simp <;> omega)) _) | (with_reducible refine Below.setCell ?_ (by first | omega | (simp <;> omega)) _)))⟩
theorem raDiv_any (a b c d : Int) (w : World) (hg : two a b c d = true) :
    Calls Try.prog 50 #[.agg #[.int .i64 a, .int .i64 b], .agg #[.int .i64 c, .int .i64 d]] w fun e w' =>
      e = .returned (.tuple #[.agg #[.int .i64 (rN (a * d) (b * c)), .int .i64 (rD (a * d) (b * c))], .bool (mok (a * d) (b * c))]) ∧ Below w.heap.size w w' := by
  obtain ⟨b1, b2, a1, a2, g1⟩ := good_iff.1 (two_good hg).1
  obtain ⟨d1, d2, c1, c2, g2⟩ := good_iff.1 (two_good hg).2
  exact raDiv_bd a b c d w a1 a2 (by omega) b2 c1 c2 (by omega) d2
set_option maxHeartbeats 400000 in
theorem l1Sign_any (n : Int) (w : World) :
    Calls Try.prog 45 #[.int .i64 n] w fun e w' => e = .returned (.int .i64 n.sign) ∧ w = w' := by
  rcases Int.lt_trichotomy n 0 with hd | hd | hd
  · rw [Int.sign_eq_neg_one_of_neg hd]
    go_enter Try.func45, Try.ntmps45
    go_wp2
    go_ret
    exact ⟨rfl, rfl⟩
  · subst hd
    go_enter Try.func45, Try.ntmps45
    go_wp2
    go_ret
    exact ⟨rfl, rfl⟩
  · rw [Int.sign_eq_one_of_pos hd]
    go_enter Try.func45, Try.ntmps45
    go_wp2
    go_ret
    exact ⟨rfl, rfl⟩

set_option maxHeartbeats 400000 in
theorem raCmp_any (a b c d : Int) (w : World) (hg : two a b c d = true) :
    Calls Try.prog 30 #[.agg #[.int .i64 a, .int .i64 b], .agg #[.int .i64 c, .int .i64 d]] w fun e w' =>
      e = .returned (.int .i64 (cmpR a b c d)) ∧ Below w.heap.size w w' := by
  rw [show cmpR a b c d = (a * d - c * b).sign by simp [cmpR, hg]]
  obtain ⟨b1, b2, a1, a2, g1⟩ := good_iff.1 (two_good hg).1
  obtain ⟨d1, d2, c1, c2, g2⟩ := good_iff.1 (two_good hg).2
  clear g1 g2 hg
  obtain ⟨e1, e2⟩ := prod_bd (a := a) (d := d) (by omega) (by omega) (by omega) (by omega)
  obtain ⟨e3, e4⟩ := prod_bd (a := c) (d := b) (by omega) (by omega) (by omega) (by omega)
  go_enter Try.func30, Try.ntmps30
  go_wp2_with (go_at_call 45; refine (l1Sign_any _ _).mono ?_; rintro e w' ⟨rfl, rfl⟩)
  go_ret
  exact ⟨rfl, (by repeat (first | with_reducible exact Below.refl _ _ | with_reducible assumption | (with_reducible refine Below.trans ?_ (Below.mono (by assumption) (by first | omega | (simp <;> omega)))) | with_reducible apply Below.drew | with_reducible apply below_drewN | (with_reducible refine Below.alloc ?_ (by first | omega | (simp <;> omega)) _) | (with_reducible refine Below.setCell ?_ (by first | omega | (simp <;> omega)) _)))⟩

end Go.Proofs.Ythccdooacbablab

/-
  Chapter 1: contracts of the operations on fractions, of the program and of the model.
-/
import Derived.Test.YthccdooacbablabRat
namespace Go.Proofs.Ythccdooacbablab
open Go.RowKit Rm

/-! The closures: each reads the two fractions that it captured. -/
set_option maxHeartbeats 400000 in
theorem addC_any (p q : Nat) (a b c d : Int) (w : World) (ha : w.cell? ⟨p, 0, none⟩ = some (.int .i64 a)) (hb : w.cell? ⟨p, 1, none⟩ = some (.int .i64 b)) (hc : w.cell? ⟨q, 0, none⟩ = some (.int .i64 c)) (hd : w.cell? ⟨q, 1, none⟩ = some (.int .i64 d))
    (a1 : -1000000000 ≤ a) (a2 : a ≤ 1000000000) (b1 : 1 ≤ b) (b2 : b ≤ 1000000000) (c1 : -1000000000 ≤ c) (c2 : c ≤ 1000000000) (d1 : 1 ≤ d) (d2 : d ≤ 1000000000) :
    Calls Try.prog 71 #[.pointer (some ⟨p, 0, none⟩), .pointer (some ⟨q, 0, none⟩)] w fun e w' => e = .returned (.tuple #[.int .i64 (a * d + c * b), .int .i64 (b * d)]) ∧ ∃ n, w.drewN n = w' := by
  obtain ⟨e1, e2⟩ := prod_bd (a := a) (d := d) (by omega) (by omega) (by omega) (by omega)
  obtain ⟨e3, e4⟩ := prod_bd (a := c) (d := b) (by omega) (by omega) (by omega) (by omega)
  obtain ⟨e5, e6⟩ := prod_bd (a := b) (d := d) (by omega) (by omega) (by omega) (by omega)
  obtain ⟨e7, e8⟩ := prod_bd (a := a) (d := c) (by omega) (by omega) (by omega) (by omega)
  obtain ⟨e9, e10⟩ := prod_bd (a := b) (d := c) (by omega) (by omega) (by omega) (by omega)
  have e11 : -4000000000000000000 ≤ 2 * b * d ∧ 2 * b * d ≤ 4000000000000000000 := by rw [Int.mul_assoc]; omega
  obtain ⟨e11, e12⟩ := e11
  go_enter Try.func71, Try.ntmps71
  go_wp2_with fail
  go_quiet (fail)
  go_wp2
  go_ret2
  exact ⟨rfl, _, rfl⟩
set_option maxHeartbeats 400000 in
theorem subC_any (p q : Nat) (a b c d : Int) (w : World) (ha : w.cell? ⟨p, 0, none⟩ = some (.int .i64 a)) (hb : w.cell? ⟨p, 1, none⟩ = some (.int .i64 b)) (hc : w.cell? ⟨q, 0, none⟩ = some (.int .i64 c)) (hd : w.cell? ⟨q, 1, none⟩ = some (.int .i64 d))
    (a1 : -1000000000 ≤ a) (a2 : a ≤ 1000000000) (b1 : 1 ≤ b) (b2 : b ≤ 1000000000) (c1 : -1000000000 ≤ c) (c2 : c ≤ 1000000000) (d1 : 1 ≤ d) (d2 : d ≤ 1000000000) :
    Calls Try.prog 68 #[.pointer (some ⟨p, 0, none⟩), .pointer (some ⟨q, 0, none⟩)] w fun e w' => e = .returned (.tuple #[.int .i64 (a * d - c * b), .int .i64 (b * d)]) ∧ ∃ n, w.drewN n = w' := by
  obtain ⟨e1, e2⟩ := prod_bd (a := a) (d := d) (by omega) (by omega) (by omega) (by omega)
  obtain ⟨e3, e4⟩ := prod_bd (a := c) (d := b) (by omega) (by omega) (by omega) (by omega)
  obtain ⟨e5, e6⟩ := prod_bd (a := b) (d := d) (by omega) (by omega) (by omega) (by omega)
  obtain ⟨e7, e8⟩ := prod_bd (a := a) (d := c) (by omega) (by omega) (by omega) (by omega)
  obtain ⟨e9, e10⟩ := prod_bd (a := b) (d := c) (by omega) (by omega) (by omega) (by omega)
  have e11 : -4000000000000000000 ≤ 2 * b * d ∧ 2 * b * d ≤ 4000000000000000000 := by rw [Int.mul_assoc]; omega
  obtain ⟨e11, e12⟩ := e11
  go_enter Try.func68, Try.ntmps68
  go_wp2_with fail
  go_quiet (fail)
  go_wp2
  go_ret2
  exact ⟨rfl, _, rfl⟩
set_option maxHeartbeats 400000 in
theorem mulC_any (p q : Nat) (a b c d : Int) (w : World) (ha : w.cell? ⟨p, 0, none⟩ = some (.int .i64 a)) (hb : w.cell? ⟨p, 1, none⟩ = some (.int .i64 b)) (hc : w.cell? ⟨q, 0, none⟩ = some (.int .i64 c)) (hd : w.cell? ⟨q, 1, none⟩ = some (.int .i64 d))
    (a1 : -1000000000 ≤ a) (a2 : a ≤ 1000000000) (b1 : 1 ≤ b) (b2 : b ≤ 1000000000) (c1 : -1000000000 ≤ c) (c2 : c ≤ 1000000000) (d1 : 1 ≤ d) (d2 : d ≤ 1000000000) :
    Calls Try.prog 69 #[.pointer (some ⟨p, 0, none⟩), .pointer (some ⟨q, 0, none⟩)] w fun e w' => e = .returned (.tuple #[.int .i64 (a * c), .int .i64 (b * d)]) ∧ ∃ n, w.drewN n = w' := by
  obtain ⟨e1, e2⟩ := prod_bd (a := a) (d := d) (by omega) (by omega) (by omega) (by omega)
  obtain ⟨e3, e4⟩ := prod_bd (a := c) (d := b) (by omega) (by omega) (by omega) (by omega)
  obtain ⟨e5, e6⟩ := prod_bd (a := b) (d := d) (by omega) (by omega) (by omega) (by omega)
  obtain ⟨e7, e8⟩ := prod_bd (a := a) (d := c) (by omega) (by omega) (by omega) (by omega)
  obtain ⟨e9, e10⟩ := prod_bd (a := b) (d := c) (by omega) (by omega) (by omega) (by omega)
  have e11 : -4000000000000000000 ≤ 2 * b * d ∧ 2 * b * d ≤ 4000000000000000000 := by rw [Int.mul_assoc]; omega
  obtain ⟨e11, e12⟩ := e11
  go_enter Try.func69, Try.ntmps69
  go_wp2_with fail
  go_quiet (fail)
  go_wp2
  go_ret2
  exact ⟨rfl, _, rfl⟩
set_option maxHeartbeats 400000 in
theorem divC_any (p q : Nat) (a b c d : Int) (w : World) (ha : w.cell? ⟨p, 0, none⟩ = some (.int .i64 a)) (hb : w.cell? ⟨p, 1, none⟩ = some (.int .i64 b)) (hc : w.cell? ⟨q, 0, none⟩ = some (.int .i64 c)) (hd : w.cell? ⟨q, 1, none⟩ = some (.int .i64 d))
    (a1 : -1000000000 ≤ a) (a2 : a ≤ 1000000000) (b1 : 1 ≤ b) (b2 : b ≤ 1000000000) (c1 : -1000000000 ≤ c) (c2 : c ≤ 1000000000) (d1 : 1 ≤ d) (d2 : d ≤ 1000000000) :
    Calls Try.prog 73 #[.pointer (some ⟨p, 0, none⟩), .pointer (some ⟨q, 0, none⟩)] w fun e w' => e = .returned (.tuple #[.int .i64 (a * d), .int .i64 (b * c)]) ∧ ∃ n, w.drewN n = w' := by
  obtain ⟨e1, e2⟩ := prod_bd (a := a) (d := d) (by omega) (by omega) (by omega) (by omega)
  obtain ⟨e3, e4⟩ := prod_bd (a := c) (d := b) (by omega) (by omega) (by omega) (by omega)
  obtain ⟨e5, e6⟩ := prod_bd (a := b) (d := d) (by omega) (by omega) (by omega) (by omega)
  obtain ⟨e7, e8⟩ := prod_bd (a := a) (d := c) (by omega) (by omega) (by omega) (by omega)
  obtain ⟨e9, e10⟩ := prod_bd (a := b) (d := c) (by omega) (by omega) (by omega) (by omega)
  have e11 : -4000000000000000000 ≤ 2 * b * d ∧ 2 * b * d ≤ 4000000000000000000 := by rw [Int.mul_assoc]; omega
  obtain ⟨e11, e12⟩ := e11
  go_enter Try.func73, Try.ntmps73
  go_wp2_with fail
  go_quiet (fail)
  go_wp2
  go_ret2
  exact ⟨rfl, _, rfl⟩
set_option maxHeartbeats 400000 in
theorem combine_addC (p q : Nat) (a b c d : Int) (w : World) (ha : w.cell? ⟨p, 0, none⟩ = some (.int .i64 a)) (hb : w.cell? ⟨p, 1, none⟩ = some (.int .i64 b)) (hc : w.cell? ⟨q, 0, none⟩ = some (.int .i64 c)) (hd : w.cell? ⟨q, 1, none⟩ = some (.int .i64 d)) (hp : p < w.heap.size) (hq : q < w.heap.size) :
    Calls Try.prog 67 #[.agg #[.int .i64 a, .int .i64 b], .agg #[.int .i64 c, .int .i64 d], .func (Fn.func 71) #[] #[.pointer (some ⟨p, 0, none⟩), .pointer (some ⟨q, 0, none⟩)]] w fun e w' =>
      e = .returned (.tuple #[.agg #[.int .i64 (tN (two a b c d) (a * d + c * b) (b * d)), .int .i64 (tD (two a b c d) (a * d + c * b) (b * d))], .bool (two a b c d && mok (a * d + c * b) (b * d))]) ∧ Below w.heap.size w w' := by
  cases hg : good a b with
  | false =>
    have e0 : two a b c d = false := by simp [two, hg]
    simp only [e0, tN, tD, Bool.false_and, Bool.false_eq_true, if_false]
    clear e0
    go_enter Try.func67, Try.ntmps67
    go_wp2_with ((go_at_call 59; (with_reducible refine (isRat_any _ _ _).mono ?_); rintro e w1 ⟨rfl, hbw1⟩; obtain ⟨hcw1, hfw1⟩ := bcell hbw1; have hzw1 := hbw1.size; (try simp at hzw1); (try ((have kw1w0 := (bnew hbw1) (w.heap.size) ?pf); (case pf => (first | omega | (simp; done) | (simp; omega))); obtain ⟨kcw1w0, kfw1w0, klw1w0⟩ := kw1w0)); (try ((have kw1w1 := (bnew hbw1) (w.heap.size + 1) ?pf); (case pf => (first | omega | (simp; done) | (simp; omega))); obtain ⟨kcw1w1, kfw1w1, klw1w1⟩ := kw1w1)); (try ((have kw1w2 := (bnew hbw1) (w.heap.size + 1 + 1) ?pf); (case pf => (first | omega | (simp; done) | (simp; omega))); obtain ⟨kcw1w2, kfw1w2, klw1w2⟩ := kw1w2))))
    exact bodyPost_ret (v := .tuple #[.agg #[.int .i64 0, .int .i64 0], .bool false]) (by simp [results, Try.results67, go_sem, *]) rfl ⟨rfl, (by repeat (first | with_reducible exact Below.refl _ _ | with_reducible assumption | (with_reducible refine Below.trans ?_ (Below.mono (by assumption) (by first | omega | (simp <;> omega)))) | with_reducible apply Below.drew | with_reducible apply below_drewN | (with_reducible refine Below.alloc ?_ (by first | omega | (simp <;> omega)) _) | (with_reducible refine Below.setCell ?_ (by first | omega | (simp <;> omega)) _)))⟩
  | true =>
    cases hg' : good c d with
    | false =>
      have e0 : two a b c d = false := by simp [two, hg']
      simp only [e0, tN, tD, Bool.false_and, Bool.false_eq_true, if_false]
      clear e0
      go_enter Try.func67, Try.ntmps67
      go_wp2_with ((go_at_call 59; (with_reducible refine (isRat_any _ _ _).mono ?_); rintro e w1 ⟨rfl, hbw1⟩; obtain ⟨hcw1, hfw1⟩ := bcell hbw1; have hzw1 := hbw1.size; (try simp at hzw1); (try ((have kw1w0 := (bnew hbw1) (w.heap.size) ?pf); (case pf => (first | omega | (simp; done) | (simp; omega))); obtain ⟨kcw1w0, kfw1w0, klw1w0⟩ := kw1w0)); (try ((have kw1w1 := (bnew hbw1) (w.heap.size + 1) ?pf); (case pf => (first | omega | (simp; done) | (simp; omega))); obtain ⟨kcw1w1, kfw1w1, klw1w1⟩ := kw1w1)); (try ((have kw1w2 := (bnew hbw1) (w.heap.size + 1 + 1) ?pf); (case pf => (first | omega | (simp; done) | (simp; omega))); obtain ⟨kcw1w2, kfw1w2, klw1w2⟩ := kw1w2))))
      exact bodyPost_ret (v := .tuple #[.agg #[.int .i64 0, .int .i64 0], .bool false]) (by simp [results, Try.results67, go_sem, *]) rfl ⟨rfl, (by repeat (first | with_reducible exact Below.refl _ _ | with_reducible assumption | (with_reducible refine Below.trans ?_ (Below.mono (by assumption) (by first | omega | (simp <;> omega)))) | with_reducible apply Below.drew | with_reducible apply below_drewN | (with_reducible refine Below.alloc ?_ (by first | omega | (simp <;> omega)) _) | (with_reducible refine Below.setCell ?_ (by first | omega | (simp <;> omega)) _)))⟩
    | true =>
      obtain ⟨b1, b2, a1, a2, g1⟩ := good_iff.1 hg
      obtain ⟨d1, d2, c1, c2, g2⟩ := good_iff.1 hg'
      have G1 := Lib.hid g1; have G2 := Lib.hid g2; clear g1 g2
      have e0 : two a b c d = true := by simp [two, hg, hg']
      simp only [e0, tN, tD, Bool.true_and, if_true]
      clear e0
      obtain ⟨e1, e2⟩ := prod_bd (a := a) (d := d) (by omega) (by omega) (by omega) (by omega)
      obtain ⟨e3, e4⟩ := prod_bd (a := c) (d := b) (by omega) (by omega) (by omega) (by omega)
      obtain ⟨e5, e6⟩ := prod_bd (a := b) (d := d) (by omega) (by omega) (by omega) (by omega)
      obtain ⟨e7, e8⟩ := prod_bd (a := a) (d := c) (by omega) (by omega) (by omega) (by omega)
      obtain ⟨e9, e10⟩ := prod_bd (a := b) (d := c) (by omega) (by omega) (by omega) (by omega)
      have e11 : -4000000000000000000 ≤ 2 * b * d ∧ 2 * b * d ≤ 4000000000000000000 := by rw [Int.mul_assoc]; omega
      obtain ⟨e11, e12⟩ := e11
      have bx : -9223372036854775807 ≤ a * d + c * b ∧ a * d + c * b ≤ 9223372036854775807 := by omega
      have bys : -9223372036854775807 ≤ b * d ∧ b * d ≤ 9223372036854775807 := by omega
      obtain ⟨x1, x2⟩ := bx
      obtain ⟨y1, y2⟩ := bys
      have hcl : ∀ W : World, Below w.heap.size w W → Calls Try.prog 71 #[.pointer (some ⟨p, 0, none⟩), .pointer (some ⟨q, 0, none⟩)] W fun e w' => e = .returned (.tuple #[.int .i64 (a * d + c * b), .int .i64 (b * d)]) ∧ ∃ n, W.drewN n = w' := fun W hB =>
        addC_any p q a b c d W ((Below.cell (p := ⟨p, 0, none⟩) hB hp).trans ha) ((Below.cell (p := ⟨p, 1, none⟩) hB hp).trans hb) ((Below.cell (p := ⟨q, 0, none⟩) hB hq).trans hc) ((Below.cell (p := ⟨q, 1, none⟩) hB hq).trans hd) a1 a2 b1 b2 c1 c2 d1 d2
      clear e1 e2 e3 e4 e5 e6 e7 e8 e9 e10 e11 e12
      generalize a * d + c * b = x at *
      generalize b * d = y at *
      have HCL := hide hcl; clear hcl
      by_cases hy0 : y = 0
      · subst hy0
        simp only [rN, rD, mok_zero, Bool.false_eq_true, if_false]
        go_enter Try.func67, Try.ntmps67
        go_wp2_with (first | (go_at_call 59; (with_reducible refine (isRat_any _ _ _).mono ?_); rintro e w1 ⟨rfl, hbw1⟩; obtain ⟨hcw1, hfw1⟩ := bcell hbw1; have hzw1 := hbw1.size; (try simp at hzw1); (try ((have kw1w0 := (bnew hbw1) (w.heap.size) ?pf); (case pf => (first | omega | (simp; done) | (simp; omega))); obtain ⟨kcw1w0, kfw1w0, klw1w0⟩ := kw1w0)); (try ((have kw1w1 := (bnew hbw1) (w.heap.size + 1) ?pf); (case pf => (first | omega | (simp; done) | (simp; omega))); obtain ⟨kcw1w1, kfw1w1, klw1w1⟩ := kw1w1)); (try ((have kw1w2 := (bnew hbw1) (w.heap.size + 1 + 1) ?pf); (case pf => (first | omega | (simp; done) | (simp; omega))); obtain ⟨kcw1w2, kfw1w2, klw1w2⟩ := kw1w2))) | (go_at_call 71; refine ((unhide HCL) _ (by repeat (first | with_reducible exact Below.refl _ _ | with_reducible assumption | (with_reducible refine Below.trans ?_ (Below.mono (by assumption) (by first | omega | (simp <;> omega)))) | with_reducible apply Below.drew | with_reducible apply below_drewN | (with_reducible refine Below.alloc ?_ (by first | omega | (simp <;> omega)) _) | (with_reducible refine Below.setCell ?_ (by first | omega | (simp <;> omega)) _)))).mono ?_; rintro e w' ⟨rfl, n, rfl⟩))
        exact bodyPost_ret (v := .tuple #[.agg #[.int .i64 0, .int .i64 0], .bool false]) (by simp [results, Try.results67, go_sem, *]) rfl ⟨rfl, (by repeat (first | with_reducible exact Below.refl _ _ | with_reducible assumption | (with_reducible refine Below.trans ?_ (Below.mono (by assumption) (by first | omega | (simp <;> omega)))) | with_reducible apply Below.drew | with_reducible apply below_drewN | (with_reducible refine Below.alloc ?_ (by first | omega | (simp <;> omega)) _) | (with_reducible refine Below.setCell ?_ (by first | omega | (simp <;> omega)) _)))⟩
      · have hy1 : (y == 0) = false := by simpa using hy0
        go_enter Try.func67, Try.ntmps67
        go_wp2_with (first | (go_at_call 59; (with_reducible refine (isRat_any _ _ _).mono ?_); rintro e w1 ⟨rfl, hbw1⟩; obtain ⟨hcw1, hfw1⟩ := bcell hbw1; have hzw1 := hbw1.size; (try simp at hzw1); (try ((have kw1w0 := (bnew hbw1) (w.heap.size) ?pf); (case pf => (first | omega | (simp; done) | (simp; omega))); obtain ⟨kcw1w0, kfw1w0, klw1w0⟩ := kw1w0)); (try ((have kw1w1 := (bnew hbw1) (w.heap.size + 1) ?pf); (case pf => (first | omega | (simp; done) | (simp; omega))); obtain ⟨kcw1w1, kfw1w1, klw1w1⟩ := kw1w1)); (try ((have kw1w2 := (bnew hbw1) (w.heap.size + 1 + 1) ?pf); (case pf => (first | omega | (simp; done) | (simp; omega))); obtain ⟨kcw1w2, kfw1w2, klw1w2⟩ := kw1w2))) | (go_at_call 71; refine ((unhide HCL) _ (by repeat (first | with_reducible exact Below.refl _ _ | with_reducible assumption | (with_reducible refine Below.trans ?_ (Below.mono (by assumption) (by first | omega | (simp <;> omega)))) | with_reducible apply Below.drew | with_reducible apply below_drewN | (with_reducible refine Below.alloc ?_ (by first | omega | (simp <;> omega)) _) | (with_reducible refine Below.setCell ?_ (by first | omega | (simp <;> omega)) _)))).mono ?_; rintro e w' ⟨rfl, n, rfl⟩) | (go_at_call 72; (with_reducible refine (reduceRat_any x y _ x1 x2 y1 y2 hy0).mono ?_); rintro e w2 ⟨rfl, hbw2⟩; obtain ⟨hcw2, hfw2⟩ := bcell hbw2; have hzw2 := hbw2.size; (try simp at hzw2); (try ((have kw2w0 := (bnew hbw2) (w.heap.size) ?pf); (case pf => (first | omega | (simp; done) | (simp; omega))); obtain ⟨kcw2w0, kfw2w0, klw2w0⟩ := kw2w0)); (try ((have kw2w1 := (bnew hbw2) (w.heap.size + 1) ?pf); (case pf => (first | omega | (simp; done) | (simp; omega))); obtain ⟨kcw2w1, kfw2w1, klw2w1⟩ := kw2w1)); (try ((have kw2w2 := (bnew hbw2) (w.heap.size + 1 + 1) ?pf); (case pf => (first | omega | (simp; done) | (simp; omega))); obtain ⟨kcw2w2, kfw2w2, klw2w2⟩ := kw2w2))))
        exact bodyPost_ret (v := .tuple #[.agg #[.int .i64 (rN x y), .int .i64 (rD x y)], .bool (mok x y)]) (by simp [results, Try.results67, go_sem, *]) rfl ⟨rfl, (by repeat (first | with_reducible exact Below.refl _ _ | with_reducible assumption | (with_reducible refine Below.trans ?_ (Below.mono (by assumption) (by first | omega | (simp <;> omega)))) | with_reducible apply Below.drew | with_reducible apply below_drewN | (with_reducible refine Below.alloc ?_ (by first | omega | (simp <;> omega)) _) | (with_reducible refine Below.setCell ?_ (by first | omega | (simp <;> omega)) _)))⟩
set_option maxHeartbeats 400000 in
theorem combine_subC (p q : Nat) (a b c d : Int) (w : World) (ha : w.cell? ⟨p, 0, none⟩ = some (.int .i64 a)) (hb : w.cell? ⟨p, 1, none⟩ = some (.int .i64 b)) (hc : w.cell? ⟨q, 0, none⟩ = some (.int .i64 c)) (hd : w.cell? ⟨q, 1, none⟩ = some (.int .i64 d)) (hp : p < w.heap.size) (hq : q < w.heap.size) :
    Calls Try.prog 67 #[.agg #[.int .i64 a, .int .i64 b], .agg #[.int .i64 c, .int .i64 d], .func (Fn.func 68) #[] #[.pointer (some ⟨p, 0, none⟩), .pointer (some ⟨q, 0, none⟩)]] w fun e w' =>
      e = .returned (.tuple #[.agg #[.int .i64 (tN (two a b c d) (a * d - c * b) (b * d)), .int .i64 (tD (two a b c d) (a * d - c * b) (b * d))], .bool (two a b c d && mok (a * d - c * b) (b * d))]) ∧ Below w.heap.size w w' := by
  cases hg : good a b with
  | false =>
    have e0 : two a b c d = false := by simp [two, hg]
    simp only [e0, tN, tD, Bool.false_and, Bool.false_eq_true, if_false]
    clear e0
    go_enter Try.func67, Try.ntmps67
    go_wp2_with ((go_at_call 59; (with_reducible refine (isRat_any _ _ _).mono ?_); rintro e w1 ⟨rfl, hbw1⟩; obtain ⟨hcw1, hfw1⟩ := bcell hbw1; have hzw1 := hbw1.size; (try simp at hzw1); (try ((have kw1w0 := (bnew hbw1) (w.heap.size) ?pf); (case pf => (first | omega | (simp; done) | (simp; omega))); obtain ⟨kcw1w0, kfw1w0, klw1w0⟩ := kw1w0)); (try ((have kw1w1 := (bnew hbw1) (w.heap.size + 1) ?pf); (case pf => (first | omega | (simp; done) | (simp; omega))); obtain ⟨kcw1w1, kfw1w1, klw1w1⟩ := kw1w1)); (try ((have kw1w2 := (bnew hbw1) (w.heap.size + 1 + 1) ?pf); (case pf => (first | omega | (simp; done) | (simp; omega))); obtain ⟨kcw1w2, kfw1w2, klw1w2⟩ := kw1w2))))
    exact bodyPost_ret (v := .tuple #[.agg #[.int .i64 0, .int .i64 0], .bool false]) (by simp [results, Try.results67, go_sem, *]) rfl ⟨rfl, (by repeat (first | with_reducible exact Below.refl _ _ | with_reducible assumption | (with_reducible refine Below.trans ?_ (Below.mono (by assumption) (by first | omega | (simp <;> omega)))) | with_reducible apply Below.drew | with_reducible apply below_drewN | (with_reducible refine Below.alloc ?_ (by first | omega | (simp <;> omega)) _) | (with_reducible refine Below.setCell ?_ (by first | omega | (simp <;> omega)) _)))⟩
  | true =>
    cases hg' : good c d with
    | false =>
      have e0 : two a b c d = false := by simp [two, hg']
      simp only [e0, tN, tD, Bool.false_and, Bool.false_eq_true, if_false]
      clear e0
      go_enter Try.func67, Try.ntmps67
      go_wp2_with ((go_at_call 59; (with_reducible refine (isRat_any _ _ _).mono ?_); rintro e w1 ⟨rfl, hbw1⟩; obtain ⟨hcw1, hfw1⟩ := bcell hbw1; have hzw1 := hbw1.size; (try simp at hzw1); (try ((have kw1w0 := (bnew hbw1) (w.heap.size) ?pf); (case pf => (first | omega | (simp; done) | (simp; omega))); obtain ⟨kcw1w0, kfw1w0, klw1w0⟩ := kw1w0)); (try ((have kw1w1 := (bnew hbw1) (w.heap.size + 1) ?pf); (case pf => (first | omega | (simp; done) | (simp; omega))); obtain ⟨kcw1w1, kfw1w1, klw1w1⟩ := kw1w1)); (try ((have kw1w2 := (bnew hbw1) (w.heap.size + 1 + 1) ?pf); (case pf => (first | omega | (simp; done) | (simp; omega))); obtain ⟨kcw1w2, kfw1w2, klw1w2⟩ := kw1w2))))
      exact bodyPost_ret (v := .tuple #[.agg #[.int .i64 0, .int .i64 0], .bool false]) (by simp [results, Try.results67, go_sem, *]) rfl ⟨rfl, (by repeat (first | with_reducible exact Below.refl _ _ | with_reducible assumption | (with_reducible refine Below.trans ?_ (Below.mono (by assumption) (by first | omega | (simp <;> omega)))) | with_reducible apply Below.drew | with_reducible apply below_drewN | (with_reducible refine Below.alloc ?_ (by first | omega | (simp <;> omega)) _) | (with_reducible refine Below.setCell ?_ (by first | omega | (simp <;> omega)) _)))⟩
    | true =>
      obtain ⟨b1, b2, a1, a2, g1⟩ := good_iff.1 hg
      obtain ⟨d1, d2, c1, c2, g2⟩ := good_iff.1 hg'
      have G1 := Lib.hid g1; have G2 := Lib.hid g2; clear g1 g2
      have e0 : two a b c d = true := by simp [two, hg, hg']
      simp only [e0, tN, tD, Bool.true_and, if_true]
      clear e0
      obtain ⟨e1, e2⟩ := prod_bd (a := a) (d := d) (by omega) (by omega) (by omega) (by omega)
      obtain ⟨e3, e4⟩ := prod_bd (a := c) (d := b) (by omega) (by omega) (by omega) (by omega)
      obtain ⟨e5, e6⟩ := prod_bd (a := b) (d := d) (by omega) (by omega) (by omega) (by omega)
      obtain ⟨e7, e8⟩ := prod_bd (a := a) (d := c) (by omega) (by omega) (by omega) (by omega)
      obtain ⟨e9, e10⟩ := prod_bd (a := b) (d := c) (by omega) (by omega) (by omega) (by omega)
      have e11 : -4000000000000000000 ≤ 2 * b * d ∧ 2 * b * d ≤ 4000000000000000000 := by rw [Int.mul_assoc]; omega
      obtain ⟨e11, e12⟩ := e11
      have bx : -9223372036854775807 ≤ a * d - c * b ∧ a * d - c * b ≤ 9223372036854775807 := by omega
      have bys : -9223372036854775807 ≤ b * d ∧ b * d ≤ 9223372036854775807 := by omega
      obtain ⟨x1, x2⟩ := bx
      obtain ⟨y1, y2⟩ := bys
      have hcl : ∀ W : World, Below w.heap.size w W → Calls Try.prog 68 #[.pointer (some ⟨p, 0, none⟩), .pointer (some ⟨q, 0, none⟩)] W fun e w' => e = .returned (.tuple #[.int .i64 (a * d - c * b), .int .i64 (b * d)]) ∧ ∃ n, W.drewN n = w' := fun W hB =>
        subC_any p q a b c d W ((Below.cell (p := ⟨p, 0, none⟩) hB hp).trans ha) ((Below.cell (p := ⟨p, 1, none⟩) hB hp).trans hb) ((Below.cell (p := ⟨q, 0, none⟩) hB hq).trans hc) ((Below.cell (p := ⟨q, 1, none⟩) hB hq).trans hd) a1 a2 b1 b2 c1 c2 d1 d2
      clear e1 e2 e3 e4 e5 e6 e7 e8 e9 e10 e11 e12
      generalize a * d - c * b = x at *
      generalize b * d = y at *
      have HCL := hide hcl; clear hcl
      by_cases hy0 : y = 0
      · subst hy0
        simp only [rN, rD, mok_zero, Bool.false_eq_true, if_false]
        go_enter Try.func67, Try.ntmps67
        go_wp2_with (first | (go_at_call 59; (with_reducible refine (isRat_any _ _ _).mono ?_); rintro e w1 ⟨rfl, hbw1⟩; obtain ⟨hcw1, hfw1⟩ := bcell hbw1; have hzw1 := hbw1.size; (try simp at hzw1); (try ((have kw1w0 := (bnew hbw1) (w.heap.size) ?pf); (case pf => (first | omega | (simp; done) | (simp; omega))); obtain ⟨kcw1w0, kfw1w0, klw1w0⟩ := kw1w0)); (try ((have kw1w1 := (bnew hbw1) (w.heap.size + 1) ?pf); (case pf => (first | omega | (simp; done) | (simp; omega))); obtain ⟨kcw1w1, kfw1w1, klw1w1⟩ := kw1w1)); (try ((have kw1w2 := (bnew hbw1) (w.heap.size + 1 + 1) ?pf); (case pf => (first | omega | (simp; done) | (simp; omega))); obtain ⟨kcw1w2, kfw1w2, klw1w2⟩ := kw1w2))) | (go_at_call 68; refine ((unhide HCL) _ (by repeat (first | with_reducible exact Below.refl _ _ | with_reducible assumption | (with_reducible refine Below.trans ?_ (Below.mono (by assumption) (by first | omega | (simp <;> omega)))) | with_reducible apply Below.drew | with_reducible apply below_drewN | (with_reducible refine Below.alloc ?_ (by first | omega | (simp <;> omega)) _) | (with_reducible refine Below.setCell ?_ (by first | omega | (simp <;> omega)) _)))).mono ?_; rintro e w' ⟨rfl, n, rfl⟩))
        exact bodyPost_ret (v := .tuple #[.agg #[.int .i64 0, .int .i64 0], .bool false]) (by simp [results, Try.results67, go_sem, *]) rfl ⟨rfl, (by repeat (first | with_reducible exact Below.refl _ _ | with_reducible assumption | (with_reducible refine Below.trans ?_ (Below.mono (by assumption) (by first | omega | (simp <;> omega)))) | with_reducible apply Below.drew | with_reducible apply below_drewN | (with_reducible refine Below.alloc ?_ (by first | omega | (simp <;> omega)) _) | (with_reducible refine Below.setCell ?_ (by first | omega | (simp <;> omega)) _)))⟩
      · have hy1 : (y == 0) = false := by simpa using hy0
        go_enter Try.func67, Try.ntmps67
        go_wp2_with (first | (go_at_call 59; (with_reducible refine (isRat_any _ _ _).mono ?_); rintro e w1 ⟨rfl, hbw1⟩; obtain ⟨hcw1, hfw1⟩ := bcell hbw1; have hzw1 := hbw1.size; (try simp at hzw1); (try ((have kw1w0 := (bnew hbw1) (w.heap.size) ?pf); (case pf => (first | omega | (simp; done) | (simp; omega))); obtain ⟨kcw1w0, kfw1w0, klw1w0⟩ := kw1w0)); (try ((have kw1w1 := (bnew hbw1) (w.heap.size + 1) ?pf); (case pf => (first | omega | (simp; done) | (simp; omega))); obtain ⟨kcw1w1, kfw1w1, klw1w1⟩ := kw1w1)); (try ((have kw1w2 := (bnew hbw1) (w.heap.size + 1 + 1) ?pf); (case pf => (first | omega | (simp; done) | (simp; omega))); obtain ⟨kcw1w2, kfw1w2, klw1w2⟩ := kw1w2))) | (go_at_call 68; refine ((unhide HCL) _ (by repeat (first | with_reducible exact Below.refl _ _ | with_reducible assumption | (with_reducible refine Below.trans ?_ (Below.mono (by assumption) (by first | omega | (simp <;> omega)))) | with_reducible apply Below.drew | with_reducible apply below_drewN | (with_reducible refine Below.alloc ?_ (by first | omega | (simp <;> omega)) _) | (with_reducible refine Below.setCell ?_ (by first | omega | (simp <;> omega)) _)))).mono ?_; rintro e w' ⟨rfl, n, rfl⟩) | (go_at_call 72; (with_reducible refine (reduceRat_any x y _ x1 x2 y1 y2 hy0).mono ?_); rintro e w2 ⟨rfl, hbw2⟩; obtain ⟨hcw2, hfw2⟩ := bcell hbw2; have hzw2 := hbw2.size; (try simp at hzw2); (try ((have kw2w0 := (bnew hbw2) (w.heap.size) ?pf); (case pf => (first | omega | (simp; done) | (simp; omega))); obtain ⟨kcw2w0, kfw2w0, klw2w0⟩ := kw2w0)); (try ((have kw2w1 := (bnew hbw2) (w.heap.size + 1) ?pf); (case pf => (first | omega | (simp; done) | (simp; omega))); obtain ⟨kcw2w1, kfw2w1, klw2w1⟩ := kw2w1)); (try ((have kw2w2 := (bnew hbw2) (w.heap.size + 1 + 1) ?pf); (case pf => (first | omega | (simp; done) | (simp; omega))); obtain ⟨kcw2w2, kfw2w2, klw2w2⟩ := kw2w2))))
        exact bodyPost_ret (v := .tuple #[.agg #[.int .i64 (rN x y), .int .i64 (rD x y)], .bool (mok x y)]) (by simp [results, Try.results67, go_sem, *]) rfl ⟨rfl, (by repeat (first | with_reducible exact Below.refl _ _ | with_reducible assumption | (with_reducible refine Below.trans ?_ (Below.mono (by assumption) (by first | omega | (simp <;> omega)))) | with_reducible apply Below.drew | with_reducible apply below_drewN | (with_reducible refine Below.alloc ?_ (by first | omega | (simp <;> omega)) _) | (with_reducible refine Below.setCell ?_ (by first | omega | (simp <;> omega)) _)))⟩
set_option maxHeartbeats 400000 in
theorem combine_mulC (p q : Nat) (a b c d : Int) (w : World) (ha : w.cell? ⟨p, 0, none⟩ = some (.int .i64 a)) (hb : w.cell? ⟨p, 1, none⟩ = some (.int .i64 b)) (hc : w.cell? ⟨q, 0, none⟩ = some (.int .i64 c)) (hd : w.cell? ⟨q, 1, none⟩ = some (.int .i64 d)) (hp : p < w.heap.size) (hq : q < w.heap.size) :
    Calls Try.prog 67 #[.agg #[.int .i64 a, .int .i64 b], .agg #[.int .i64 c, .int .i64 d], .func (Fn.func 69) #[] #[.pointer (some ⟨p, 0, none⟩), .pointer (some ⟨q, 0, none⟩)]] w fun e w' =>
      e = .returned (.tuple #[.agg #[.int .i64 (tN (two a b c d) (a * c) (b * d)), .int .i64 (tD (two a b c d) (a * c) (b * d))], .bool (two a b c d && mok (a * c) (b * d))]) ∧ Below w.heap.size w w' := by
  cases hg : good a b with
  | false =>
    have e0 : two a b c d = false := by simp [two, hg]
    simp only [e0, tN, tD, Bool.false_and, Bool.false_eq_true, if_false]
    clear e0
    go_enter Try.func67, Try.ntmps67
    go_wp2_with ((go_at_call 59; (with_reducible refine (isRat_any _ _ _).mono ?_); rintro e w1 ⟨rfl, hbw1⟩; obtain ⟨hcw1, hfw1⟩ := bcell hbw1; have hzw1 := hbw1.size; (try simp at hzw1); (try ((have kw1w0 := (bnew hbw1) (w.heap.size) ?pf); (case pf => (first | omega | (simp; done) | (simp; omega))); obtain ⟨kcw1w0, kfw1w0, klw1w0⟩ := kw1w0)); (try ((have kw1w1 := (bnew hbw1) (w.heap.size + 1) ?pf); (case pf => (first | omega | (simp; done) | (simp; omega))); obtain ⟨kcw1w1, kfw1w1, klw1w1⟩ := kw1w1)); (try ((have kw1w2 := (bnew hbw1) (w.heap.size + 1 + 1) ?pf); (case pf => (first | omega | (simp; done) | (simp; omega))); obtain ⟨kcw1w2, kfw1w2, klw1w2⟩ := kw1w2))))
    exact bodyPost_ret (v := .tuple #[.agg #[.int .i64 0, .int .i64 0], .bool false]) (by simp [results, Try.results67, go_sem, *]) rfl ⟨rfl, (by repeat (first | with_reducible exact Below.refl _ _ | with_reducible assumption | (with_reducible refine Below.trans ?_ (Below.mono (by assumption) (by first | omega | (simp <;> omega)))) | with_reducible apply Below.drew | with_reducible apply below_drewN | (with_reducible refine Below.alloc ?_ (by first | omega | (simp <;> omega)) _) | (with_reducible refine Below.setCell ?_ (by first | omega | (simp <;> omega)) _)))⟩
  | true =>
    cases hg' : good c d with
    | false =>
      have e0 : two a b c d = false := by simp [two, hg']
      simp only [e0, tN, tD, Bool.false_and, Bool.false_eq_true, if_false]
      clear e0
      go_enter Try.func67, Try.ntmps67
      go_wp2_with ((go_at_call 59; (with_reducible refine (isRat_any _ _ _).mono ?_); rintro e w1 ⟨rfl, hbw1⟩; obtain ⟨hcw1, hfw1⟩ := bcell hbw1; have hzw1 := hbw1.size; (try simp at hzw1); (try ((have kw1w0 := (bnew hbw1) (w.heap.size) ?pf); (case pf => (first | omega | (simp; done) | (simp; omega))); obtain ⟨kcw1w0, kfw1w0, klw1w0⟩ := kw1w0)); (try ((have kw1w1 := (bnew hbw1) (w.heap.size + 1) ?pf); (case pf => (first | omega | (simp; done) | (simp; omega))); obtain ⟨kcw1w1, kfw1w1, klw1w1⟩ := kw1w1)); (try ((have kw1w2 := (bnew hbw1) (w.heap.size + 1 + 1) ?pf); (case pf => (first | omega | (simp; done) | (simp; omega))); obtain ⟨kcw1w2, kfw1w2, klw1w2⟩ := kw1w2))))
      exact bodyPost_ret (v := .tuple #[.agg #[.int .i64 0, .int .i64 0], .bool false]) (by simp [results, Try.results67, go_sem, *]) rfl ⟨rfl, (by repeat (first | with_reducible exact Below.refl _ _ | with_reducible assumption | (with_reducible refine Below.trans ?_ (Below.mono (by assumption) (by first | omega | (simp <;> omega)))) | with_reducible apply Below.drew | with_reducible apply below_drewN | (with_reducible refine Below.alloc ?_ (by first | omega | (simp <;> omega)) _) | (with_reducible refine Below.setCell ?_ (by first | omega | (simp <;> omega)) _)))⟩
    | true =>
      obtain ⟨b1, b2, a1, a2, g1⟩ := good_iff.1 hg
      obtain ⟨d1, d2, c1, c2, g2⟩ := good_iff.1 hg'
      have G1 := Lib.hid g1; have G2 := Lib.hid g2; clear g1 g2
      have e0 : two a b c d = true := by simp [two, hg, hg']
      simp only [e0, tN, tD, Bool.true_and, if_true]
      clear e0
      obtain ⟨e1, e2⟩ := prod_bd (a := a) (d := d) (by omega) (by omega) (by omega) (by omega)
      obtain ⟨e3, e4⟩ := prod_bd (a := c) (d := b) (by omega) (by omega) (by omega) (by omega)
      obtain ⟨e5, e6⟩ := prod_bd (a := b) (d := d) (by omega) (by omega) (by omega) (by omega)
      obtain ⟨e7, e8⟩ := prod_bd (a := a) (d := c) (by omega) (by omega) (by omega) (by omega)
      obtain ⟨e9, e10⟩ := prod_bd (a := b) (d := c) (by omega) (by omega) (by omega) (by omega)
      have e11 : -4000000000000000000 ≤ 2 * b * d ∧ 2 * b * d ≤ 4000000000000000000 := by rw [Int.mul_assoc]; omega
      obtain ⟨e11, e12⟩ := e11
      have bx : -9223372036854775807 ≤ a * c ∧ a * c ≤ 9223372036854775807 := by omega
      have bys : -9223372036854775807 ≤ b * d ∧ b * d ≤ 9223372036854775807 := by omega
      obtain ⟨x1, x2⟩ := bx
      obtain ⟨y1, y2⟩ := bys
      have hcl : ∀ W : World, Below w.heap.size w W → Calls Try.prog 69 #[.pointer (some ⟨p, 0, none⟩), .pointer (some ⟨q, 0, none⟩)] W fun e w' => e = .returned (.tuple #[.int .i64 (a * c), .int .i64 (b * d)]) ∧ ∃ n, W.drewN n = w' := fun W hB =>
        mulC_any p q a b c d W ((Below.cell (p := ⟨p, 0, none⟩) hB hp).trans ha) ((Below.cell (p := ⟨p, 1, none⟩) hB hp).trans hb) ((Below.cell (p := ⟨q, 0, none⟩) hB hq).trans hc) ((Below.cell (p := ⟨q, 1, none⟩) hB hq).trans hd) a1 a2 b1 b2 c1 c2 d1 d2
      clear e1 e2 e3 e4 e5 e6 e7 e8 e9 e10 e11 e12
      generalize a * c = x at *
      generalize b * d = y at *
      have HCL := hide hcl; clear hcl
      by_cases hy0 : y = 0
      · subst hy0
        simp only [rN, rD, mok_zero, Bool.false_eq_true, if_false]
        go_enter Try.func67, Try.ntmps67
        go_wp2_with (first | (go_at_call 59; (with_reducible refine (isRat_any _ _ _).mono ?_); rintro e w1 ⟨rfl, hbw1⟩; obtain ⟨hcw1, hfw1⟩ := bcell hbw1; have hzw1 := hbw1.size; (try simp at hzw1); (try ((have kw1w0 := (bnew hbw1) (w.heap.size) ?pf); (case pf => (first | omega | (simp; done) | (simp; omega))); obtain ⟨kcw1w0, kfw1w0, klw1w0⟩ := kw1w0)); (try ((have kw1w1 := (bnew hbw1) (w.heap.size + 1) ?pf); (case pf => (first | omega | (simp; done) | (simp; omega))); obtain ⟨kcw1w1, kfw1w1, klw1w1⟩ := kw1w1)); (try ((have kw1w2 := (bnew hbw1) (w.heap.size + 1 + 1) ?pf); (case pf => (first | omega | (simp; done) | (simp; omega))); obtain ⟨kcw1w2, kfw1w2, klw1w2⟩ := kw1w2))) | (go_at_call 69; refine ((unhide HCL) _ (by repeat (first | with_reducible exact Below.refl _ _ | with_reducible assumption | (with_reducible refine Below.trans ?_ (Below.mono (by assumption) (by first | omega | (simp <;> omega)))) | with_reducible apply Below.drew | with_reducible apply below_drewN | (with_reducible refine Below.alloc ?_ (by first | omega | (simp <;> omega)) _) | (with_reducible refine Below.setCell ?_ (by first | omega | (simp <;> omega)) _)))).mono ?_; rintro e w' ⟨rfl, n, rfl⟩))
        exact bodyPost_ret (v := .tuple #[.agg #[.int .i64 0, .int .i64 0], .bool false]) (by simp [results, Try.results67, go_sem, *]) rfl ⟨rfl, (by repeat (first | with_reducible exact Below.refl _ _ | with_reducible assumption | (with_reducible refine Below.trans ?_ (Below.mono (by assumption) (by first | omega | (simp <;> omega)))) | with_reducible apply Below.drew | with_reducible apply below_drewN | (with_reducible refine Below.alloc ?_ (by first | omega | (simp <;> omega)) _) | (with_reducible refine Below.setCell ?_ (by first | omega | (simp <;> omega)) _)))⟩
      · have hy1 : (y == 0) = false := by simpa using hy0
        go_enter Try.func67, Try.ntmps67
        go_wp2_with (first | (go_at_call 59; (with_reducible refine (isRat_any _ _ _).mono ?_); rintro e w1 ⟨rfl, hbw1⟩; obtain ⟨hcw1, hfw1⟩ := bcell hbw1; have hzw1 := hbw1.size; (try simp at hzw1); (try ((have kw1w0 := (bnew hbw1) (w.heap.size) ?pf); (case pf => (first | omega | (simp; done) | (simp; omega))); obtain ⟨kcw1w0, kfw1w0, klw1w0⟩ := kw1w0)); (try ((have kw1w1 := (bnew hbw1) (w.heap.size + 1) ?pf); (case pf => (first | omega | (simp; done) | (simp; omega))); obtain ⟨kcw1w1, kfw1w1, klw1w1⟩ := kw1w1)); (try ((have kw1w2 := (bnew hbw1) (w.heap.size + 1 + 1) ?pf); (case pf => (first | omega | (simp; done) | (simp; omega))); obtain ⟨kcw1w2, kfw1w2, klw1w2⟩ := kw1w2))) | (go_at_call 69; refine ((unhide HCL) _ (by repeat (first | with_reducible exact Below.refl _ _ | with_reducible assumption | (with_reducible refine Below.trans ?_ (Below.mono (by assumption) (by first | omega | (simp <;> omega)))) | with_reducible apply Below.drew | with_reducible apply below_drewN | (with_reducible refine Below.alloc ?_ (by first | omega | (simp <;> omega)) _) | (with_reducible refine Below.setCell ?_ (by first | omega | (simp <;> omega)) _)))).mono ?_; rintro e w' ⟨rfl, n, rfl⟩) | (go_at_call 72; (with_reducible refine (reduceRat_any x y _ x1 x2 y1 y2 hy0).mono ?_); rintro e w2 ⟨rfl, hbw2⟩; obtain ⟨hcw2, hfw2⟩ := bcell hbw2; have hzw2 := hbw2.size; (try simp at hzw2); (try ((have kw2w0 := (bnew hbw2) (w.heap.size) ?pf); (case pf => (first | omega | (simp; done) | (simp; omega))); obtain ⟨kcw2w0, kfw2w0, klw2w0⟩ := kw2w0)); (try ((have kw2w1 := (bnew hbw2) (w.heap.size + 1) ?pf); (case pf => (first | omega | (simp; done) | (simp; omega))); obtain ⟨kcw2w1, kfw2w1, klw2w1⟩ := kw2w1)); (try ((have kw2w2 := (bnew hbw2) (w.heap.size + 1 + 1) ?pf); (case pf => (first | omega | (simp; done) | (simp; omega))); obtain ⟨kcw2w2, kfw2w2, klw2w2⟩ := kw2w2))))
        exact bodyPost_ret (v := .tuple #[.agg #[.int .i64 (rN x y), .int .i64 (rD x y)], .bool (mok x y)]) (by simp [results, Try.results67, go_sem, *]) rfl ⟨rfl, (by repeat (first | with_reducible exact Below.refl _ _ | with_reducible assumption | (with_reducible refine Below.trans ?_ (Below.mono (by assumption) (by first | omega | (simp <;> omega)))) | with_reducible apply Below.drew | with_reducible apply below_drewN | (with_reducible refine Below.alloc ?_ (by first | omega | (simp <;> omega)) _) | (with_reducible refine Below.setCell ?_ (by first | omega | (simp <;> omega)) _)))⟩
set_option maxHeartbeats 400000 in
theorem combine_divC (p q : Nat) (a b c d : Int) (w : World) (ha : w.cell? ⟨p, 0, none⟩ = some (.int .i64 a)) (hb : w.cell? ⟨p, 1, none⟩ = some (.int .i64 b)) (hc : w.cell? ⟨q, 0, none⟩ = some (.int .i64 c)) (hd : w.cell? ⟨q, 1, none⟩ = some (.int .i64 d)) (hp : p < w.heap.size) (hq : q < w.heap.size) :
    Calls Try.prog 67 #[.agg #[.int .i64 a, .int .i64 b], .agg #[.int .i64 c, .int .i64 d], .func (Fn.func 73) #[] #[.pointer (some ⟨p, 0, none⟩), .pointer (some ⟨q, 0, none⟩)]] w fun e w' =>
      e = .returned (.tuple #[.agg #[.int .i64 (tN (two a b c d) (a * d) (b * c)), .int .i64 (tD (two a b c d) (a * d) (b * c))], .bool (two a b c d && mok (a * d) (b * c))]) ∧ Below w.heap.size w w' := by
  cases hg : good a b with
  | false =>
    have e0 : two a b c d = false := by simp [two, hg]
    simp only [e0, tN, tD, Bool.false_and, Bool.false_eq_true, if_false]
    clear e0
    go_enter Try.func67, Try.ntmps67
    go_wp2_with ((go_at_call 59; (with_reducible refine (isRat_any _ _ _).mono ?_); rintro e w1 ⟨rfl, hbw1⟩; obtain ⟨hcw1, hfw1⟩ := bcell hbw1; have hzw1 := hbw1.size; (try simp at hzw1); (try ((have kw1w0 := (bnew hbw1) (w.heap.size) ?pf); (case pf => (first | omega | (simp; done) | (simp; omega))); obtain ⟨kcw1w0, kfw1w0, klw1w0⟩ := kw1w0)); (try ((have kw1w1 := (bnew hbw1) (w.heap.size + 1) ?pf); (case pf => (first | omega | (simp; done) | (simp; omega))); obtain ⟨kcw1w1, kfw1w1, klw1w1⟩ := kw1w1)); (try ((have kw1w2 := (bnew hbw1) (w.heap.size + 1 + 1) ?pf); (case pf => (first | omega | (simp; done) | (simp; omega))); obtain ⟨kcw1w2, kfw1w2, klw1w2⟩ := kw1w2))))
    exact bodyPost_ret (v := .tuple #[.agg #[.int .i64 0, .int .i64 0], .bool false]) (by simp [results, Try.results67, go_sem, *]) rfl ⟨rfl, (by repeat (first | with_reducible exact Below.refl _ _ | with_reducible assumption | (with_reducible refine Below.trans ?_ (Below.mono (by assumption) (by first | omega | (simp <;> omega)))) | with_reducible apply Below.drew | with_reducible apply below_drewN | (with_reducible refine Below.alloc ?_ (by first | omega | (simp <;> omega)) _) | (with_reducible refine Below.setCell ?_ (by first | omega | (simp <;> omega)) _)))⟩
  | true =>
    cases hg' : good c d with
    | false =>
      have e0 : two a b c d = false := by simp [two, hg']
      simp only [e0, tN, tD, Bool.false_and, Bool.false_eq_true, if_false]
      clear e0
      go_enter Try.func67, Try.ntmps67
      go_wp2_with ((go_at_call 59; (with_reducible refine (isRat_any _ _ _).mono ?_); rintro e w1 ⟨rfl, hbw1⟩; obtain ⟨hcw1, hfw1⟩ := bcell hbw1; have hzw1 := hbw1.size; (try simp at hzw1); (try ((have kw1w0 := (bnew hbw1) (w.heap.size) ?pf); (case pf => (first | omega | (simp; done) | (simp; omega))); obtain ⟨kcw1w0, kfw1w0, klw1w0⟩ := kw1w0)); (try ((have kw1w1 := (bnew hbw1) (w.heap.size + 1) ?pf); (case pf => (first | omega | (simp; done) | (simp; omega))); obtain ⟨kcw1w1, kfw1w1, klw1w1⟩ := kw1w1)); (try ((have kw1w2 := (bnew hbw1) (w.heap.size + 1 + 1) ?pf); (case pf => (first | omega | (simp; done) | (simp; omega))); obtain ⟨kcw1w2, kfw1w2, klw1w2⟩ := kw1w2))))
      exact bodyPost_ret (v := .tuple #[.agg #[.int .i64 0, .int .i64 0], .bool false]) (by simp [results, Try.results67, go_sem, *]) rfl ⟨rfl, (by repeat (first | with_reducible exact Below.refl _ _ | with_reducible assumption | (with_reducible refine Below.trans ?_ (Below.mono (by assumption) (by first | omega | (simp <;> omega)))) | with_reducible apply Below.drew | with_reducible apply below_drewN | (with_reducible refine Below.alloc ?_ (by first | omega | (simp <;> omega)) _) | (with_reducible refine Below.setCell ?_ (by first | omega | (simp <;> omega)) _)))⟩
    | true =>
      obtain ⟨b1, b2, a1, a2, g1⟩ := good_iff.1 hg
      obtain ⟨d1, d2, c1, c2, g2⟩ := good_iff.1 hg'
      have G1 := Lib.hid g1; have G2 := Lib.hid g2; clear g1 g2
      have e0 : two a b c d = true := by simp [two, hg, hg']
      simp only [e0, tN, tD, Bool.true_and, if_true]
      clear e0
      obtain ⟨e1, e2⟩ := prod_bd (a := a) (d := d) (by omega) (by omega) (by omega) (by omega)
      obtain ⟨e3, e4⟩ := prod_bd (a := c) (d := b) (by omega) (by omega) (by omega) (by omega)
      obtain ⟨e5, e6⟩ := prod_bd (a := b) (d := d) (by omega) (by omega) (by omega) (by omega)
      obtain ⟨e7, e8⟩ := prod_bd (a := a) (d := c) (by omega) (by omega) (by omega) (by omega)
      obtain ⟨e9, e10⟩ := prod_bd (a := b) (d := c) (by omega) (by omega) (by omega) (by omega)
      have e11 : -4000000000000000000 ≤ 2 * b * d ∧ 2 * b * d ≤ 4000000000000000000 := by rw [Int.mul_assoc]; omega
      obtain ⟨e11, e12⟩ := e11
      have bx : -9223372036854775807 ≤ a * d ∧ a * d ≤ 9223372036854775807 := by omega
      have bys : -9223372036854775807 ≤ b * c ∧ b * c ≤ 9223372036854775807 := by omega
      obtain ⟨x1, x2⟩ := bx
      obtain ⟨y1, y2⟩ := bys
      have hcl : ∀ W : World, Below w.heap.size w W → Calls Try.prog 73 #[.pointer (some ⟨p, 0, none⟩), .pointer (some ⟨q, 0, none⟩)] W fun e w' => e = .returned (.tuple #[.int .i64 (a * d), .int .i64 (b * c)]) ∧ ∃ n, W.drewN n = w' := fun W hB =>
        divC_any p q a b c d W ((Below.cell (p := ⟨p, 0, none⟩) hB hp).trans ha) ((Below.cell (p := ⟨p, 1, none⟩) hB hp).trans hb) ((Below.cell (p := ⟨q, 0, none⟩) hB hq).trans hc) ((Below.cell (p := ⟨q, 1, none⟩) hB hq).trans hd) a1 a2 b1 b2 c1 c2 d1 d2
      clear e1 e2 e3 e4 e5 e6 e7 e8 e9 e10 e11 e12
      generalize a * d = x at *
      generalize b * c = y at *
      have HCL := hide hcl; clear hcl
      by_cases hy0 : y = 0
      · subst hy0
        simp only [rN, rD, mok_zero, Bool.false_eq_true, if_false]
        go_enter Try.func67, Try.ntmps67
        go_wp2_with (first | (go_at_call 59; (with_reducible refine (isRat_any _ _ _).mono ?_); rintro e w1 ⟨rfl, hbw1⟩; obtain ⟨hcw1, hfw1⟩ := bcell hbw1; have hzw1 := hbw1.size; (try simp at hzw1); (try ((have kw1w0 := (bnew hbw1) (w.heap.size) ?pf); (case pf => (first | omega | (simp; done) | (simp; omega))); obtain ⟨kcw1w0, kfw1w0, klw1w0⟩ := kw1w0)); (try ((have kw1w1 := (bnew hbw1) (w.heap.size + 1) ?pf); (case pf => (first | omega | (simp; done) | (simp; omega))); obtain ⟨kcw1w1, kfw1w1, klw1w1⟩ := kw1w1)); (try ((have kw1w2 := (bnew hbw1) (w.heap.size + 1 + 1) ?pf); (case pf => (first | omega | (simp; done) | (simp; omega))); obtain ⟨kcw1w2, kfw1w2, klw1w2⟩ := kw1w2))) | (go_at_call 73; refine ((unhide HCL) _ (by repeat (first | with_reducible exact Below.refl _ _ | with_reducible assumption | (with_reducible refine Below.trans ?_ (Below.mono (by assumption) (by first | omega | (simp <;> omega)))) | with_reducible apply Below.drew | with_reducible apply below_drewN | (with_reducible refine Below.alloc ?_ (by first | omega | (simp <;> omega)) _) | (with_reducible refine Below.setCell ?_ (by first | omega | (simp <;> omega)) _)))).mono ?_; rintro e w' ⟨rfl, n, rfl⟩))
        exact bodyPost_ret (v := .tuple #[.agg #[.int .i64 0, .int .i64 0], .bool false]) (by simp [results, Try.results67, go_sem, *]) rfl ⟨rfl, (by repeat (first | with_reducible exact Below.refl _ _ | with_reducible assumption | (with_reducible refine Below.trans ?_ (Below.mono (by assumption) (by first | omega | (simp <;> omega)))) | with_reducible apply Below.drew | with_reducible apply below_drewN | (with_reducible refine Below.alloc ?_ (by first | omega | (simp <;> omega)) _) | (with_reducible refine Below.setCell ?_ (by first | omega | (simp <;> omega)) _)))⟩
      · have hy1 : (y == 0) = false := by simpa using hy0
        go_enter Try.func67, Try.ntmps67
        go_wp2_with (first | (go_at_call 59; (with_reducible refine (isRat_any _ _ _).mono ?_); rintro e w1 ⟨rfl, hbw1⟩; obtain ⟨hcw1, hfw1⟩ := bcell hbw1; have hzw1 := hbw1.size; (try simp at hzw1); (try ((have kw1w0 := (bnew hbw1) (w.heap.size) ?pf); (case pf => (first | omega | (simp; done) | (simp; omega))); obtain ⟨kcw1w0, kfw1w0, klw1w0⟩ := kw1w0)); (try ((have kw1w1 := (bnew hbw1) (w.heap.size + 1) ?pf); (case pf => (first | omega | (simp; done) | (simp; omega))); obtain ⟨kcw1w1, kfw1w1, klw1w1⟩ := kw1w1)); (try ((have kw1w2 := (bnew hbw1) (w.heap.size + 1 + 1) ?pf); (case pf => (first | omega | (simp; done) | (simp; omega))); obtain ⟨kcw1w2, kfw1w2, klw1w2⟩ := kw1w2))) | (go_at_call 73; refine ((unhide HCL) _ (by repeat (first | with_reducible exact Below.refl _ _ | with_reducible assumption | (with_reducible refine Below.trans ?_ (Below.mono (by assumption) (by first | omega | (simp <;> omega)))) | with_reducible apply Below.drew | with_reducible apply below_drewN | (with_reducible refine Below.alloc ?_ (by first | omega | (simp <;> omega)) _) | (with_reducible refine Below.setCell ?_ (by first | omega | (simp <;> omega)) _)))).mono ?_; rintro e w' ⟨rfl, n, rfl⟩) | (go_at_call 72; (with_reducible refine (reduceRat_any x y _ x1 x2 y1 y2 hy0).mono ?_); rintro e w2 ⟨rfl, hbw2⟩; obtain ⟨hcw2, hfw2⟩ := bcell hbw2; have hzw2 := hbw2.size; (try simp at hzw2); (try ((have kw2w0 := (bnew hbw2) (w.heap.size) ?pf); (case pf => (first | omega | (simp; done) | (simp; omega))); obtain ⟨kcw2w0, kfw2w0, klw2w0⟩ := kw2w0)); (try ((have kw2w1 := (bnew hbw2) (w.heap.size + 1) ?pf); (case pf => (first | omega | (simp; done) | (simp; omega))); obtain ⟨kcw2w1, kfw2w1, klw2w1⟩ := kw2w1)); (try ((have kw2w2 := (bnew hbw2) (w.heap.size + 1 + 1) ?pf); (case pf => (first | omega | (simp; done) | (simp; omega))); obtain ⟨kcw2w2, kfw2w2, klw2w2⟩ := kw2w2))))
        exact bodyPost_ret (v := .tuple #[.agg #[.int .i64 (rN x y), .int .i64 (rD x y)], .bool (mok x y)]) (by simp [results, Try.results67, go_sem, *]) rfl ⟨rfl, (by repeat (first | with_reducible exact Below.refl _ _ | with_reducible assumption | (with_reducible refine Below.trans ?_ (Below.mono (by assumption) (by first | omega | (simp <;> omega)))) | with_reducible apply Below.drew | with_reducible apply below_drewN | (with_reducible refine Below.alloc ?_ (by first | omega | (simp <;> omega)) _) | (with_reducible refine Below.setCell ?_ (by first | omega | (simp <;> omega)) _)))⟩
set_option maxHeartbeats 400000 in
theorem iAddRats_any (a b c d : Int) (w : World) :
    Calls Try.prog 66 #[.agg #[.int .i64 a, .int .i64 b], .agg #[.int .i64 c, .int .i64 d]] w fun e w' =>
      e = .returned (.tuple #[.agg #[.int .i64 (tN (two a b c d) (a * d + c * b) (b * d)), .int .i64 (tD (two a b c d) (a * d + c * b) (b * d))], .bool (two a b c d && mok (a * d + c * b) (b * d))]) ∧ Below w.heap.size w w' := by
  have hcm := fun (p q : Nat) (W : World) => combine_addC p q a b c d W
  generalize tN (two a b c d) (a * d + c * b) (b * d) = x at *
  generalize tD (two a b c d) (a * d + c * b) (b * d) = y at *
  generalize (two a b c d && mok (a * d + c * b) (b * d)) = z at *
  have HCM := hide hcm; clear hcm
  go_enter Try.func66, Try.ntmps66
  go_wp2_with ((go_at_call 67; (with_reducible refine ((unhide HCM) w.heap.size (w.heap.size + 1) _ (by go_simp) (by go_simp) (by go_simp) (by go_simp) (by simp <;> omega) (by simp)).mono ?_); rintro e w1 ⟨rfl, hbw1⟩; obtain ⟨hcw1, hfw1⟩ := bcell hbw1; have hzw1 := hbw1.size; (try simp at hzw1); (try ((have kw1w0 := (bnew hbw1) (w.heap.size) ?pf); (case pf => (first | omega | (simp; done) | (simp; omega))); obtain ⟨kcw1w0, kfw1w0, klw1w0⟩ := kw1w0)); (try ((have kw1w1 := (bnew hbw1) (w.heap.size + 1) ?pf); (case pf => (first | omega | (simp; done) | (simp; omega))); obtain ⟨kcw1w1, kfw1w1, klw1w1⟩ := kw1w1)); (try ((have kw1w2 := (bnew hbw1) (w.heap.size + 1 + 1) ?pf); (case pf => (first | omega | (simp; done) | (simp; omega))); obtain ⟨kcw1w2, kfw1w2, klw1w2⟩ := kw1w2))))
  exact bodyPost_ret (v := .tuple #[.agg #[.int .i64 x, .int .i64 y], .bool z]) (by simp [results, Try.results66, go_sem, *]) rfl ⟨rfl, (by repeat (first | with_reducible exact Below.refl _ _ | with_reducible assumption | (with_reducible refine Below.trans ?_ (Below.mono (by assumption) (by first | omega | (simp <;> omega)))) | with_reducible apply Below.drew | with_reducible apply below_drewN | (with_reducible refine Below.alloc ?_ (by first | omega | (simp <;> omega)) _) | (with_reducible refine Below.setCell ?_ (by first | omega | (simp <;> omega)) _)))⟩
set_option maxHeartbeats 400000 in
theorem iSubtractRats_any (a b c d : Int) (w : World) :
    Calls Try.prog 63 #[.agg #[.int .i64 a, .int .i64 b], .agg #[.int .i64 c, .int .i64 d]] w fun e w' =>
      e = .returned (.tuple #[.agg #[.int .i64 (tN (two a b c d) (a * d - c * b) (b * d)), .int .i64 (tD (two a b c d) (a * d - c * b) (b * d))], .bool (two a b c d && mok (a * d - c * b) (b * d))]) ∧ Below w.heap.size w w' := by
  have hcm := fun (p q : Nat) (W : World) => combine_subC p q a b c d W
  generalize tN (two a b c d) (a * d - c * b) (b * d) = x at *
  generalize tD (two a b c d) (a * d - c * b) (b * d) = y at *
  generalize (two a b c d && mok (a * d - c * b) (b * d)) = z at *
  have HCM := hide hcm; clear hcm
  go_enter Try.func63, Try.ntmps63
  go_wp2_with ((go_at_call 67; (with_reducible refine ((unhide HCM) w.heap.size (w.heap.size + 1) _ (by go_simp) (by go_simp) (by go_simp) (by go_simp) (by simp <;> omega) (by simp)).mono ?_); rintro e w1 ⟨rfl, hbw1⟩; obtain ⟨hcw1, hfw1⟩ := bcell hbw1; have hzw1 := hbw1.size; (try simp at hzw1); (try ((have kw1w0 := (bnew hbw1) (w.heap.size) ?pf); (case pf => (first | omega | (simp; done) | (simp; omega))); obtain ⟨kcw1w0, kfw1w0, klw1w0⟩ := kw1w0)); (try ((have kw1w1 := (bnew hbw1) (w.heap.size + 1) ?pf); (case pf => (first | omega | (simp; done) | (simp; omega))); obtain ⟨kcw1w1, kfw1w1, klw1w1⟩ := kw1w1)); (try ((have kw1w2 := (bnew hbw1) (w.heap.size + 1 + 1) ?pf); (case pf => (first | omega | (simp; done) | (simp; omega))); obtain ⟨kcw1w2, kfw1w2, klw1w2⟩ := kw1w2))))
  exact bodyPost_ret (v := .tuple #[.agg #[.int .i64 x, .int .i64 y], .bool z]) (by simp [results, Try.results63, go_sem, *]) rfl ⟨rfl, (by repeat (first | with_reducible exact Below.refl _ _ | with_reducible assumption | (with_reducible refine Below.trans ?_ (Below.mono (by assumption) (by first | omega | (simp <;> omega)))) | with_reducible apply Below.drew | with_reducible apply below_drewN | (with_reducible refine Below.alloc ?_ (by first | omega | (simp <;> omega)) _) | (with_reducible refine Below.setCell ?_ (by first | omega | (simp <;> omega)) _)))⟩
set_option maxHeartbeats 400000 in
theorem iMultiplyRats_any (a b c d : Int) (w : World) :
    Calls Try.prog 64 #[.agg #[.int .i64 a, .int .i64 b], .agg #[.int .i64 c, .int .i64 d]] w fun e w' =>
      e = .returned (.tuple #[.agg #[.int .i64 (tN (two a b c d) (a * c) (b * d)), .int .i64 (tD (two a b c d) (a * c) (b * d))], .bool (two a b c d && mok (a * c) (b * d))]) ∧ Below w.heap.size w w' := by
  have hcm := fun (p q : Nat) (W : World) => combine_mulC p q a b c d W
  generalize tN (two a b c d) (a * c) (b * d) = x at *
  generalize tD (two a b c d) (a * c) (b * d) = y at *
  generalize (two a b c d && mok (a * c) (b * d)) = z at *
  have HCM := hide hcm; clear hcm
  go_enter Try.func64, Try.ntmps64
  go_wp2_with ((go_at_call 67; (with_reducible refine ((unhide HCM) w.heap.size (w.heap.size + 1) _ (by go_simp) (by go_simp) (by go_simp) (by go_simp) (by simp <;> omega) (by simp)).mono ?_); rintro e w1 ⟨rfl, hbw1⟩; obtain ⟨hcw1, hfw1⟩ := bcell hbw1; have hzw1 := hbw1.size; (try simp at hzw1); (try ((have kw1w0 := (bnew hbw1) (w.heap.size) ?pf); (case pf => (first | omega | (simp; done) | (simp; omega))); obtain ⟨kcw1w0, kfw1w0, klw1w0⟩ := kw1w0)); (try ((have kw1w1 := (bnew hbw1) (w.heap.size + 1) ?pf); (case pf => (first | omega | (simp; done) | (simp; omega))); obtain ⟨kcw1w1, kfw1w1, klw1w1⟩ := kw1w1)); (try ((have kw1w2 := (bnew hbw1) (w.heap.size + 1 + 1) ?pf); (case pf => (first | omega | (simp; done) | (simp; omega))); obtain ⟨kcw1w2, kfw1w2, klw1w2⟩ := kw1w2))))
  exact bodyPost_ret (v := .tuple #[.agg #[.int .i64 x, .int .i64 y], .bool z]) (by simp [results, Try.results64, go_sem, *]) rfl ⟨rfl, (by repeat (first | with_reducible exact Below.refl _ _ | with_reducible assumption | (with_reducible refine Below.trans ?_ (Below.mono (by assumption) (by first | omega | (simp <;> omega)))) | with_reducible apply Below.drew | with_reducible apply below_drewN | (with_reducible refine Below.alloc ?_ (by first | omega | (simp <;> omega)) _) | (with_reducible refine Below.setCell ?_ (by first | omega | (simp <;> omega)) _)))⟩
set_option maxHeartbeats 400000 in
theorem iDivideRats_any (a b c d : Int) (w : World) :
    Calls Try.prog 70 #[.agg #[.int .i64 a, .int .i64 b], .agg #[.int .i64 c, .int .i64 d]] w fun e w' =>
      e = .returned (.tuple #[.agg #[.int .i64 (tN (two a b c d) (a * d) (b * c)), .int .i64 (tD (two a b c d) (a * d) (b * c))], .bool (two a b c d && mok (a * d) (b * c))]) ∧ Below w.heap.size w w' := by
  have hcm := fun (p q : Nat) (W : World) => combine_divC p q a b c d W
  generalize tN (two a b c d) (a * d) (b * c) = x at *
  generalize tD (two a b c d) (a * d) (b * c) = y at *
  generalize (two a b c d && mok (a * d) (b * c)) = z at *
  have HCM := hide hcm; clear hcm
  go_enter Try.func70, Try.ntmps70
  go_wp2_with ((go_at_call 67; (with_reducible refine ((unhide HCM) w.heap.size (w.heap.size + 1) _ (by go_simp) (by go_simp) (by go_simp) (by go_simp) (by simp <;> omega) (by simp)).mono ?_); rintro e w1 ⟨rfl, hbw1⟩; obtain ⟨hcw1, hfw1⟩ := bcell hbw1; have hzw1 := hbw1.size; (try simp at hzw1); (try ((have kw1w0 := (bnew hbw1) (w.heap.size) ?pf); (case pf => (first | omega | (simp; done) | (simp; omega))); obtain ⟨kcw1w0, kfw1w0, klw1w0⟩ := kw1w0)); (try ((have kw1w1 := (bnew hbw1) (w.heap.size + 1) ?pf); (case pf => (first | omega | (simp; done) | (simp; omega))); obtain ⟨kcw1w1, kfw1w1, klw1w1⟩ := kw1w1)); (try ((have kw1w2 := (bnew hbw1) (w.heap.size + 1 + 1) ?pf); (case pf => (first | omega | (simp; done) | (simp; omega))); obtain ⟨kcw1w2, kfw1w2, klw1w2⟩ := kw1w2))))
  exact bodyPost_ret (v := .tuple #[.agg #[.int .i64 x, .int .i64 y], .bool z]) (by simp [results, Try.results70, go_sem, *]) rfl ⟨rfl, (by repeat (first | with_reducible exact Below.refl _ _ | with_reducible assumption | (with_reducible refine Below.trans ?_ (Below.mono (by assumption) (by first | omega | (simp <;> omega)))) | with_reducible apply Below.drew | with_reducible apply below_drewN | (with_reducible refine Below.alloc ?_ (by first | omega | (simp <;> omega)) _) | (with_reducible refine Below.setCell ?_ (by first | omega | (simp <;> omega)) _)))⟩
end Go.Proofs.Ythccdooacbablab

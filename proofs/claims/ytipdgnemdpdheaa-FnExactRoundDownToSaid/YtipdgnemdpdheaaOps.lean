/-
  Chapter 1: contracts of the operations on fractions, of the program and of the model.
-/
import Derived.Test.YtipdgnemdpdheaaRat
namespace Go.Proofs.Ytipdgnemdpdheaa
open Go.RowKit Rm

set_option maxHeartbeats 400000 in
theorem combine_addC (p q : Nat) (a b c d : Int) (w : World) (ha : w.cell? ⟨p, 0, none⟩ = some (.int .i64 a)) (hb : w.cell? ⟨p, 1, none⟩ = some (.int .i64 b)) (hc : w.cell? ⟨q, 0, none⟩ = some (.int .i64 c)) (hd : w.cell? ⟨q, 1, none⟩ = some (.int .i64 d)) (hp : p < w.heap.size) (hq : q < w.heap.size) :
    Calls Try.prog 41 #[.agg #[.int .i64 a, .int .i64 b], .agg #[.int .i64 c, .int .i64 d], .func (Fn.func 42) #[] #[.pointer (some ⟨p, 0, none⟩), .pointer (some ⟨q, 0, none⟩)]] w fun e w' =>
      e = .returned (.tuple #[.agg #[.int .i64 (tN (two a b c d) (a * d + c * b) (b * d)), .int .i64 (tD (two a b c d) (a * d + c * b) (b * d))], .bool (two a b c d && mok (a * d + c * b) (b * d))]) ∧ Below w.heap.size w w' := by
  cases hg : good a b with
  | false =>
    have e0 : two a b c d = false := by simp [two, hg]
    simp only [e0, tN, tD, Bool.false_and, Bool.false_eq_true, if_false]
    clear e0
    go_enter Try.func41, Try.ntmps41
    go_wp2_with ((go_at_call 26; refine (isRat_any _ _ _).mono ?_; rintro e w1 ⟨rfl, hbw1⟩; obtain ⟨hcw1, hfw1⟩ := bcell hbw1; have hzw1 := hbw1.size; (try simp at hzw1); (try ((have kw1w0 := (bnew hbw1) (w.heap.size) ?pf); (case pf => (first | omega | (simp; done) | (simp; omega))); obtain ⟨kcw1w0, kfw1w0, klw1w0⟩ := kw1w0)); (try ((have kw1w1 := (bnew hbw1) (w.heap.size + 1) ?pf); (case pf => (first | omega | (simp; done) | (simp; omega))); obtain ⟨kcw1w1, kfw1w1, klw1w1⟩ := kw1w1)); (try ((have kw1w2 := (bnew hbw1) (w.heap.size + 1 + 1) ?pf); (case pf => (first | omega | (simp; done) | (simp; omega))); obtain ⟨kcw1w2, kfw1w2, klw1w2⟩ := kw1w2))))
    exact bodyPost_ret (v := .tuple #[.agg #[.int .i64 0, .int .i64 0], .bool false]) (by simp [results, Try.results41, go_sem, *]) rfl ⟨rfl, (by repeat (first | exact Below.refl _ _ | assumption | refine Below.trans ?_ (Below.mono (by assumption) (by first | omega | (simp <;> omega))) | apply Below.drew | apply below_drewN | refine Below.alloc ?_ (by first | omega | (simp <;> omega)) _ | refine Below.setCell ?_ (by first | omega | (simp <;> omega)) _))⟩
  | true =>
    cases hg' : good c d with
    | false =>
      have e0 : two a b c d = false := by simp [two, hg']
      simp only [e0, tN, tD, Bool.false_and, Bool.false_eq_true, if_false]
      clear e0
      go_enter Try.func41, Try.ntmps41
      go_wp2_with ((go_at_call 26; refine (isRat_any _ _ _).mono ?_; rintro e w1 ⟨rfl, hbw1⟩; obtain ⟨hcw1, hfw1⟩ := bcell hbw1; have hzw1 := hbw1.size; (try simp at hzw1); (try ((have kw1w0 := (bnew hbw1) (w.heap.size) ?pf); (case pf => (first | omega | (simp; done) | (simp; omega))); obtain ⟨kcw1w0, kfw1w0, klw1w0⟩ := kw1w0)); (try ((have kw1w1 := (bnew hbw1) (w.heap.size + 1) ?pf); (case pf => (first | omega | (simp; done) | (simp; omega))); obtain ⟨kcw1w1, kfw1w1, klw1w1⟩ := kw1w1)); (try ((have kw1w2 := (bnew hbw1) (w.heap.size + 1 + 1) ?pf); (case pf => (first | omega | (simp; done) | (simp; omega))); obtain ⟨kcw1w2, kfw1w2, klw1w2⟩ := kw1w2))))
      exact bodyPost_ret (v := .tuple #[.agg #[.int .i64 0, .int .i64 0], .bool false]) (by simp [results, Try.results41, go_sem, *]) rfl ⟨rfl, (by repeat (first | exact Below.refl _ _ | assumption | refine Below.trans ?_ (Below.mono (by assumption) (by first | omega | (simp <;> omega))) | apply Below.drew | apply below_drewN | refine Below.alloc ?_ (by first | omega | (simp <;> omega)) _ | refine Below.setCell ?_ (by first | omega | (simp <;> omega)) _))⟩
    | true =>
      obtain ⟨b1, b2, a1, a2, g1⟩ := good_iff.1 hg
      obtain ⟨d1, d2, c1, c2, g2⟩ := good_iff.1 hg'
      have G1 := Lib.hid g1; have G2 := Lib.hid g2; clear g1 g2
      have e0 : two a b c d = true := by simp [two, hg, hg']
      simp only [e0, tN, tD, Bool.true_and, if_true]
      clear e0
      obtain ⟨e1, e2⟩ := prod_bd (a := a) (d := d) (by omega) (by omega) (by omega) (by omega)
      obtain ⟨e3, e4⟩ := prod_bd (a := c) (d := b) (by omega) (by omega) (by omega) (by omega)
      obtain ⟨e5, e6⟩ := prod_bd (a := b) (d := d) (by omega) (by omega) (by omega) (by omega)
      obtain ⟨e7, e8⟩ := prod_bd (a := a) (d := c) (by omega) (by omega) (by omega) (by omega)
      obtain ⟨e9, e10⟩ := prod_bd (a := b) (d := c) (by omega) (by omega) (by omega) (by omega)
      have e11 : -4000000000000000000 ≤ 2 * b * d ∧ 2 * b * d ≤ 4000000000000000000 := by rw [Int.mul_assoc]; omega
      obtain ⟨e11, e12⟩ := e11
      have bx : -9223372036854775807 ≤ a * d + c * b ∧ a * d + c * b ≤ 9223372036854775807 := by omega
      have bys : -9223372036854775807 ≤ b * d ∧ b * d ≤ 9223372036854775807 := by omega
      obtain ⟨x1, x2⟩ := bx
      obtain ⟨y1, y2⟩ := bys
      have hcl : ∀ W : World, Below w.heap.size w W → Calls Try.prog 42 #[.pointer (some ⟨p, 0, none⟩), .pointer (some ⟨q, 0, none⟩)] W fun e w' => e = .returned (.tuple #[.int .i64 (a * d + c * b), .int .i64 (b * d)]) ∧ ∃ n, W.drewN n = w' := fun W hB =>
        addC_any p q a b c d W ((Below.cell (p := ⟨p, 0, none⟩) hB hp).trans ha) ((Below.cell (p := ⟨p, 1, none⟩) hB hp).trans hb) ((Below.cell (p := ⟨q, 0, none⟩) hB hq).trans hc) ((Below.cell (p := ⟨q, 1, none⟩) hB hq).trans hd) a1 a2 b1 b2 c1 c2 d1 d2
      clear e1 e2 e3 e4 e5 e6 e7 e8 e9 e10 e11 e12
      generalize a * d + c * b = x at *
      generalize b * d = y at *
      have HCL := hide hcl; clear hcl
      by_cases hy0 : y = 0
      · subst hy0
        simp only [rN, rD, mok_zero, Bool.false_eq_true, if_false]
        go_enter Try.func41, Try.ntmps41
        go_wp2_with (first | (go_at_call 26; refine (isRat_any _ _ _).mono ?_; rintro e w1 ⟨rfl, hbw1⟩; obtain ⟨hcw1, hfw1⟩ := bcell hbw1; have hzw1 := hbw1.size; (try simp at hzw1); (try ((have kw1w0 := (bnew hbw1) (w.heap.size) ?pf); (case pf => (first | omega | (simp; done) | (simp; omega))); obtain ⟨kcw1w0, kfw1w0, klw1w0⟩ := kw1w0)); (try ((have kw1w1 := (bnew hbw1) (w.heap.size + 1) ?pf); (case pf => (first | omega | (simp; done) | (simp; omega))); obtain ⟨kcw1w1, kfw1w1, klw1w1⟩ := kw1w1)); (try ((have kw1w2 := (bnew hbw1) (w.heap.size + 1 + 1) ?pf); (case pf => (first | omega | (simp; done) | (simp; omega))); obtain ⟨kcw1w2, kfw1w2, klw1w2⟩ := kw1w2))) | (go_at_call 42; refine ((unhide HCL) _ (by repeat (first | exact Below.refl _ _ | assumption | refine Below.trans ?_ (Below.mono (by assumption) (by first | omega | (simp <;> omega))) | apply Below.drew | apply below_drewN | refine Below.alloc ?_ (by first | omega | (simp <;> omega)) _ | refine Below.setCell ?_ (by first | omega | (simp <;> omega)) _))).mono ?_; rintro e w' ⟨rfl, n, rfl⟩))
        exact bodyPost_ret (v := .tuple #[.agg #[.int .i64 0, .int .i64 0], .bool false]) (by simp [results, Try.results41, go_sem, *]) rfl ⟨rfl, (by repeat (first | exact Below.refl _ _ | assumption | refine Below.trans ?_ (Below.mono (by assumption) (by first | omega | (simp <;> omega))) | apply Below.drew | apply below_drewN | refine Below.alloc ?_ (by first | omega | (simp <;> omega)) _ | refine Below.setCell ?_ (by first | omega | (simp <;> omega)) _))⟩
      · have hy1 : (y == 0) = false := by simpa using hy0
        go_enter Try.func41, Try.ntmps41
        go_wp2_with (first | (go_at_call 26; refine (isRat_any _ _ _).mono ?_; rintro e w1 ⟨rfl, hbw1⟩; obtain ⟨hcw1, hfw1⟩ := bcell hbw1; have hzw1 := hbw1.size; (try simp at hzw1); (try ((have kw1w0 := (bnew hbw1) (w.heap.size) ?pf); (case pf => (first | omega | (simp; done) | (simp; omega))); obtain ⟨kcw1w0, kfw1w0, klw1w0⟩ := kw1w0)); (try ((have kw1w1 := (bnew hbw1) (w.heap.size + 1) ?pf); (case pf => (first | omega | (simp; done) | (simp; omega))); obtain ⟨kcw1w1, kfw1w1, klw1w1⟩ := kw1w1)); (try ((have kw1w2 := (bnew hbw1) (w.heap.size + 1 + 1) ?pf); (case pf => (first | omega | (simp; done) | (simp; omega))); obtain ⟨kcw1w2, kfw1w2, klw1w2⟩ := kw1w2))) | (go_at_call 42; refine ((unhide HCL) _ (by repeat (first | exact Below.refl _ _ | assumption | refine Below.trans ?_ (Below.mono (by assumption) (by first | omega | (simp <;> omega))) | apply Below.drew | apply below_drewN | refine Below.alloc ?_ (by first | omega | (simp <;> omega)) _ | refine Below.setCell ?_ (by first | omega | (simp <;> omega)) _))).mono ?_; rintro e w' ⟨rfl, n, rfl⟩) | (go_at_call 58; refine (reduceRat_any x y _ x1 x2 y1 y2 hy0).mono ?_; rintro e w2 ⟨rfl, hbw2⟩; obtain ⟨hcw2, hfw2⟩ := bcell hbw2; have hzw2 := hbw2.size; (try simp at hzw2); (try ((have kw2w0 := (bnew hbw2) (w.heap.size) ?pf); (case pf => (first | omega | (simp; done) | (simp; omega))); obtain ⟨kcw2w0, kfw2w0, klw2w0⟩ := kw2w0)); (try ((have kw2w1 := (bnew hbw2) (w.heap.size + 1) ?pf); (case pf => (first | omega | (simp; done) | (simp; omega))); obtain ⟨kcw2w1, kfw2w1, klw2w1⟩ := kw2w1)); (try ((have kw2w2 := (bnew hbw2) (w.heap.size + 1 + 1) ?pf); (case pf => (first | omega | (simp; done) | (simp; omega))); obtain ⟨kcw2w2, kfw2w2, klw2w2⟩ := kw2w2))))
        exact bodyPost_ret (v := .tuple #[.agg #[.int .i64 (rN x y), .int .i64 (rD x y)], .bool (mok x y)]) (by simp [results, Try.results41, go_sem, *]) rfl ⟨rfl, (by repeat (first | exact Below.refl _ _ | assumption | refine Below.trans ?_ (Below.mono (by assumption) (by first | omega | (simp <;> omega))) | apply Below.drew | apply below_drewN | refine Below.alloc ?_ (by first | omega | (simp <;> omega)) _ | refine Below.setCell ?_ (by first | omega | (simp <;> omega)) _))⟩
set_option maxHeartbeats 400000 in
theorem combine_subC (p q : Nat) (a b c d : Int) (w : World) (ha : w.cell? ⟨p, 0, none⟩ = some (.int .i64 a)) (hb : w.cell? ⟨p, 1, none⟩ = some (.int .i64 b)) (hc : w.cell? ⟨q, 0, none⟩ = some (.int .i64 c)) (hd : w.cell? ⟨q, 1, none⟩ = some (.int .i64 d)) (hp : p < w.heap.size) (hq : q < w.heap.size) :
    Calls Try.prog 41 #[.agg #[.int .i64 a, .int .i64 b], .agg #[.int .i64 c, .int .i64 d], .func (Fn.func 45) #[] #[.pointer (some ⟨p, 0, none⟩), .pointer (some ⟨q, 0, none⟩)]] w fun e w' =>
      e = .returned (.tuple #[.agg #[.int .i64 (tN (two a b c d) (a * d - c * b) (b * d)), .int .i64 (tD (two a b c d) (a * d - c * b) (b * d))], .bool (two a b c d && mok (a * d - c * b) (b * d))]) ∧ Below w.heap.size w w' := by
  cases hg : good a b with
  | false =>
    have e0 : two a b c d = false := by simp [two, hg]
    simp only [e0, tN, tD, Bool.false_and, Bool.false_eq_true, if_false]
    clear e0
    go_enter Try.func41, Try.ntmps41
    go_wp2_with ((go_at_call 26; refine (isRat_any _ _ _).mono ?_; rintro e w1 ⟨rfl, hbw1⟩; obtain ⟨hcw1, hfw1⟩ := bcell hbw1; have hzw1 := hbw1.size; (try simp at hzw1); (try ((have kw1w0 := (bnew hbw1) (w.heap.size) ?pf); (case pf => (first | omega | (simp; done) | (simp; omega))); obtain ⟨kcw1w0, kfw1w0, klw1w0⟩ := kw1w0)); (try ((have kw1w1 := (bnew hbw1) (w.heap.size + 1) ?pf); (case pf => (first | omega | (simp; done) | (simp; omega))); obtain ⟨kcw1w1, kfw1w1, klw1w1⟩ := kw1w1)); (try ((have kw1w2 := (bnew hbw1) (w.heap.size + 1 + 1) ?pf); (case pf => (first | omega | (simp; done) | (simp; omega))); obtain ⟨kcw1w2, kfw1w2, klw1w2⟩ := kw1w2))))
    exact bodyPost_ret (v := .tuple #[.agg #[.int .i64 0, .int .i64 0], .bool false]) (by simp [results, Try.results41, go_sem, *]) rfl ⟨rfl, (by repeat (first | exact Below.refl _ _ | assumption | refine Below.trans ?_ (Below.mono (by assumption) (by first | omega | (simp <;> omega))) | apply Below.drew | apply below_drewN | refine Below.alloc ?_ (by first | omega | (simp <;> omega)) _ | refine Below.setCell ?_ (by first | omega | (simp <;> omega)) _))⟩
  | true =>
    cases hg' : good c d with
    | false =>
      have e0 : two a b c d = false := by simp [two, hg']
      simp only [e0, tN, tD, Bool.false_and, Bool.false_eq_true, if_false]
      clear e0
      go_enter Try.func41, Try.ntmps41
      go_wp2_with ((go_at_call 26; refine (isRat_any _ _ _).mono ?_; rintro e w1 ⟨rfl, hbw1⟩; obtain ⟨hcw1, hfw1⟩ := bcell hbw1; have hzw1 := hbw1.size; (try simp at hzw1); (try ((have kw1w0 := (bnew hbw1) (w.heap.size) ?pf); (case pf => (first | omega | (simp; done) | (simp; omega))); obtain ⟨kcw1w0, kfw1w0, klw1w0⟩ := kw1w0)); (try ((have kw1w1 := (bnew hbw1) (w.heap.size + 1) ?pf); (case pf => (first | omega | (simp; done) | (simp; omega))); obtain ⟨kcw1w1, kfw1w1, klw1w1⟩ := kw1w1)); (try ((have kw1w2 := (bnew hbw1) (w.heap.size + 1 + 1) ?pf); (case pf => (first | omega | (simp; done) | (simp; omega))); obtain ⟨kcw1w2, kfw1w2, klw1w2⟩ := kw1w2))))
      exact bodyPost_ret (v := .tuple #[.agg #[.int .i64 0, .int .i64 0], .bool false]) (by simp [results, Try.results41, go_sem, *]) rfl ⟨rfl, (by repeat (first | exact Below.refl _ _ | assumption | refine Below.trans ?_ (Below.mono (by assumption) (by first | omega | (simp <;> omega))) | apply Below.drew | apply below_drewN | refine Below.alloc ?_ (by first | omega | (simp <;> omega)) _ | refine Below.setCell ?_ (by first | omega | (simp <;> omega)) _))⟩
    | true =>
      obtain ⟨b1, b2, a1, a2, g1⟩ := good_iff.1 hg
      obtain ⟨d1, d2, c1, c2, g2⟩ := good_iff.1 hg'
      have G1 := Lib.hid g1; have G2 := Lib.hid g2; clear g1 g2
      have e0 : two a b c d = true := by simp [two, hg, hg']
      simp only [e0, tN, tD, Bool.true_and, if_true]
      clear e0
      obtain ⟨e1, e2⟩ := prod_bd (a := a) (d := d) (by omega) (by omega) (by omega) (by omega)
      obtain ⟨e3, e4⟩ := prod_bd (a := c) (d := b) (by omega) (by omega) (by omega) (by omega)
      obtain ⟨e5, e6⟩ := prod_bd (a := b) (d := d) (by omega) (by omega) (by omega) (by omega)
      obtain ⟨e7, e8⟩ := prod_bd (a := a) (d := c) (by omega) (by omega) (by omega) (by omega)
      obtain ⟨e9, e10⟩ := prod_bd (a := b) (d := c) (by omega) (by omega) (by omega) (by omega)
      have e11 : -4000000000000000000 ≤ 2 * b * d ∧ 2 * b * d ≤ 4000000000000000000 := by rw [Int.mul_assoc]; omega
      obtain ⟨e11, e12⟩ := e11
      have bx : -9223372036854775807 ≤ a * d - c * b ∧ a * d - c * b ≤ 9223372036854775807 := by omega
      have bys : -9223372036854775807 ≤ b * d ∧ b * d ≤ 9223372036854775807 := by omega
      obtain ⟨x1, x2⟩ := bx
      obtain ⟨y1, y2⟩ := bys
      have hcl : ∀ W : World, Below w.heap.size w W → Calls Try.prog 45 #[.pointer (some ⟨p, 0, none⟩), .pointer (some ⟨q, 0, none⟩)] W fun e w' => e = .returned (.tuple #[.int .i64 (a * d - c * b), .int .i64 (b * d)]) ∧ ∃ n, W.drewN n = w' := fun W hB =>
        subC_any p q a b c d W ((Below.cell (p := ⟨p, 0, none⟩) hB hp).trans ha) ((Below.cell (p := ⟨p, 1, none⟩) hB hp).trans hb) ((Below.cell (p := ⟨q, 0, none⟩) hB hq).trans hc) ((Below.cell (p := ⟨q, 1, none⟩) hB hq).trans hd) a1 a2 b1 b2 c1 c2 d1 d2
      clear e1 e2 e3 e4 e5 e6 e7 e8 e9 e10 e11 e12
      generalize a * d - c * b = x at *
      generalize b * d = y at *
      have HCL := hide hcl; clear hcl
      by_cases hy0 : y = 0
      · subst hy0
        simp only [rN, rD, mok_zero, Bool.false_eq_true, if_false]
        go_enter Try.func41, Try.ntmps41
        go_wp2_with (first | (go_at_call 26; refine (isRat_any _ _ _).mono ?_; rintro e w1 ⟨rfl, hbw1⟩; obtain ⟨hcw1, hfw1⟩ := bcell hbw1; have hzw1 := hbw1.size; (try simp at hzw1); (try ((have kw1w0 := (bnew hbw1) (w.heap.size) ?pf); (case pf => (first | omega | (simp; done) | (simp; omega))); obtain ⟨kcw1w0, kfw1w0, klw1w0⟩ := kw1w0)); (try ((have kw1w1 := (bnew hbw1) (w.heap.size + 1) ?pf); (case pf => (first | omega | (simp; done) | (simp; omega))); obtain ⟨kcw1w1, kfw1w1, klw1w1⟩ := kw1w1)); (try ((have kw1w2 := (bnew hbw1) (w.heap.size + 1 + 1) ?pf); (case pf => (first | omega | (simp; done) | (simp; omega))); obtain ⟨kcw1w2, kfw1w2, klw1w2⟩ := kw1w2))) | (go_at_call 45; refine ((unhide HCL) _ (by repeat (first | exact Below.refl _ _ | assumption | refine Below.trans ?_ (Below.mono (by assumption) (by first | omega | (simp <;> omega))) | apply Below.drew | apply below_drewN | refine Below.alloc ?_ (by first | omega | (simp <;> omega)) _ | refine Below.setCell ?_ (by first | omega | (simp <;> omega)) _))).mono ?_; rintro e w' ⟨rfl, n, rfl⟩))
        exact bodyPost_ret (v := .tuple #[.agg #[.int .i64 0, .int .i64 0], .bool false]) (by simp [results, Try.results41, go_sem, *]) rfl ⟨rfl, (by repeat (first | exact Below.refl _ _ | assumption | refine Below.trans ?_ (Below.mono (by assumption) (by first | omega | (simp <;> omega))) | apply Below.drew | apply below_drewN | refine Below.alloc ?_ (by first | omega | (simp <;> omega)) _ | refine Below.setCell ?_ (by first | omega | (simp <;> omega)) _))⟩
      · have hy1 : (y == 0) = false := by simpa using hy0
        go_enter Try.func41, Try.ntmps41
        go_wp2_with (first | (go_at_call 26; refine (isRat_any _ _ _).mono ?_; rintro e w1 ⟨rfl, hbw1⟩; obtain ⟨hcw1, hfw1⟩ := bcell hbw1; have hzw1 := hbw1.size; (try simp at hzw1); (try ((have kw1w0 := (bnew hbw1) (w.heap.size) ?pf); (case pf => (first | omega | (simp; done) | (simp; omega))); obtain ⟨kcw1w0, kfw1w0, klw1w0⟩ := kw1w0)); (try ((have kw1w1 := (bnew hbw1) (w.heap.size + 1) ?pf); (case pf => (first | omega | (simp; done) | (simp; omega))); obtain ⟨kcw1w1, kfw1w1, klw1w1⟩ := kw1w1)); (try ((have kw1w2 := (bnew hbw1) (w.heap.size + 1 + 1) ?pf); (case pf => (first | omega | (simp; done) | (simp; omega))); obtain ⟨kcw1w2, kfw1w2, klw1w2⟩ := kw1w2))) | (go_at_call 45; refine ((unhide HCL) _ (by repeat (first | exact Below.refl _ _ | assumption | refine Below.trans ?_ (Below.mono (by assumption) (by first | omega | (simp <;> omega))) | apply Below.drew | apply below_drewN | refine Below.alloc ?_ (by first | omega | (simp <;> omega)) _ | refine Below.setCell ?_ (by first | omega | (simp <;> omega)) _))).mono ?_; rintro e w' ⟨rfl, n, rfl⟩) | (go_at_call 58; refine (reduceRat_any x y _ x1 x2 y1 y2 hy0).mono ?_; rintro e w2 ⟨rfl, hbw2⟩; obtain ⟨hcw2, hfw2⟩ := bcell hbw2; have hzw2 := hbw2.size; (try simp at hzw2); (try ((have kw2w0 := (bnew hbw2) (w.heap.size) ?pf); (case pf => (first | omega | (simp; done) | (simp; omega))); obtain ⟨kcw2w0, kfw2w0, klw2w0⟩ := kw2w0)); (try ((have kw2w1 := (bnew hbw2) (w.heap.size + 1) ?pf); (case pf => (first | omega | (simp; done) | (simp; omega))); obtain ⟨kcw2w1, kfw2w1, klw2w1⟩ := kw2w1)); (try ((have kw2w2 := (bnew hbw2) (w.heap.size + 1 + 1) ?pf); (case pf => (first | omega | (simp; done) | (simp; omega))); obtain ⟨kcw2w2, kfw2w2, klw2w2⟩ := kw2w2))))
        exact bodyPost_ret (v := .tuple #[.agg #[.int .i64 (rN x y), .int .i64 (rD x y)], .bool (mok x y)]) (by simp [results, Try.results41, go_sem, *]) rfl ⟨rfl, (by repeat (first | exact Below.refl _ _ | assumption | refine Below.trans ?_ (Below.mono (by assumption) (by first | omega | (simp <;> omega))) | apply Below.drew | apply below_drewN | refine Below.alloc ?_ (by first | omega | (simp <;> omega)) _ | refine Below.setCell ?_ (by first | omega | (simp <;> omega)) _))⟩
set_option maxHeartbeats 400000 in
theorem combine_mulC (p q : Nat) (a b c d : Int) (w : World) (ha : w.cell? ⟨p, 0, none⟩ = some (.int .i64 a)) (hb : w.cell? ⟨p, 1, none⟩ = some (.int .i64 b)) (hc : w.cell? ⟨q, 0, none⟩ = some (.int .i64 c)) (hd : w.cell? ⟨q, 1, none⟩ = some (.int .i64 d)) (hp : p < w.heap.size) (hq : q < w.heap.size) :
    Calls Try.prog 41 #[.agg #[.int .i64 a, .int .i64 b], .agg #[.int .i64 c, .int .i64 d], .func (Fn.func 47) #[] #[.pointer (some ⟨p, 0, none⟩), .pointer (some ⟨q, 0, none⟩)]] w fun e w' =>
      e = .returned (.tuple #[.agg #[.int .i64 (tN (two a b c d) (a * c) (b * d)), .int .i64 (tD (two a b c d) (a * c) (b * d))], .bool (two a b c d && mok (a * c) (b * d))]) ∧ Below w.heap.size w w' := by
  cases hg : good a b with
  | false =>
    have e0 : two a b c d = false := by simp [two, hg]
    simp only [e0, tN, tD, Bool.false_and, Bool.false_eq_true, if_false]
    clear e0
    go_enter Try.func41, Try.ntmps41
    go_wp2_with ((go_at_call 26; refine (isRat_any _ _ _).mono ?_; rintro e w1 ⟨rfl, hbw1⟩; obtain ⟨hcw1, hfw1⟩ := bcell hbw1; have hzw1 := hbw1.size; (try simp at hzw1); (try ((have kw1w0 := (bnew hbw1) (w.heap.size) ?pf); (case pf => (first | omega | (simp; done) | (simp; omega))); obtain ⟨kcw1w0, kfw1w0, klw1w0⟩ := kw1w0)); (try ((have kw1w1 := (bnew hbw1) (w.heap.size + 1) ?pf); (case pf => (first | omega | (simp; done) | (simp; omega))); obtain ⟨kcw1w1, kfw1w1, klw1w1⟩ := kw1w1)); (try ((have kw1w2 := (bnew hbw1) (w.heap.size + 1 + 1) ?pf); (case pf => (first | omega | (simp; done) | (simp; omega))); obtain ⟨kcw1w2, kfw1w2, klw1w2⟩ := kw1w2))))
    exact bodyPost_ret (v := .tuple #[.agg #[.int .i64 0, .int .i64 0], .bool false]) (by simp [results, Try.results41, go_sem, *]) rfl ⟨rfl, (by repeat (first | exact Below.refl _ _ | assumption | refine Below.trans ?_ (Below.mono (by assumption) (by first | omega | (simp <;> omega))) | apply Below.drew | apply below_drewN | refine Below.alloc ?_ (by first | omega | (simp <;> omega)) _ | refine Below.setCell ?_ (by first | omega | (simp <;> omega)) _))⟩
  | true =>
    cases hg' : good c d with
    | false =>
      have e0 : two a b c d = false := by simp [two, hg']
      simp only [e0, tN, tD, Bool.false_and, Bool.false_eq_true, if_false]
      clear e0
      go_enter Try.func41, Try.ntmps41
      go_wp2_with ((go_at_call 26; refine (isRat_any _ _ _).mono ?_; rintro e w1 ⟨rfl, hbw1⟩; obtain ⟨hcw1, hfw1⟩ := bcell hbw1; have hzw1 := hbw1.size; (try simp at hzw1); (try ((have kw1w0 := (bnew hbw1) (w.heap.size) ?pf); (case pf => (first | omega | (simp; done) | (simp; omega))); obtain ⟨kcw1w0, kfw1w0, klw1w0⟩ := kw1w0)); (try ((have kw1w1 := (bnew hbw1) (w.heap.size + 1) ?pf); (case pf => (first | omega | (simp; done) | (simp; omega))); obtain ⟨kcw1w1, kfw1w1, klw1w1⟩ := kw1w1)); (try ((have kw1w2 := (bnew hbw1) (w.heap.size + 1 + 1) ?pf); (case pf => (first | omega | (simp; done) | (simp; omega))); obtain ⟨kcw1w2, kfw1w2, klw1w2⟩ := kw1w2))))
      exact bodyPost_ret (v := .tuple #[.agg #[.int .i64 0, .int .i64 0], .bool false]) (by simp [results, Try.results41, go_sem, *]) rfl ⟨rfl, (by repeat (first | exact Below.refl _ _ | assumption | refine Below.trans ?_ (Below.mono (by assumption) (by first | omega | (simp <;> omega))) | apply Below.drew | apply below_drewN | refine Below.alloc ?_ (by first | omega | (simp <;> omega)) _ | refine Below.setCell ?_ (by first | omega | (simp <;> omega)) _))⟩
    | true =>
      obtain ⟨b1, b2, a1, a2, g1⟩ := good_iff.1 hg
      obtain ⟨d1, d2, c1, c2, g2⟩ := good_iff.1 hg'
      have G1 := Lib.hid g1; have G2 := Lib.hid g2; clear g1 g2
      have e0 : two a b c d = true := by simp [two, hg, hg']
      simp only [e0, tN, tD, Bool.true_and, if_true]
      clear e0
      obtain ⟨e1, e2⟩ := prod_bd (a := a) (d := d) (by omega) (by omega) (by omega) (by omega)
      obtain ⟨e3, e4⟩ := prod_bd (a := c) (d := b) (by omega) (by omega) (by omega) (by omega)
      obtain ⟨e5, e6⟩ := prod_bd (a := b) (d := d) (by omega) (by omega) (by omega) (by omega)
      obtain ⟨e7, e8⟩ := prod_bd (a := a) (d := c) (by omega) (by omega) (by omega) (by omega)
      obtain ⟨e9, e10⟩ := prod_bd (a := b) (d := c) (by omega) (by omega) (by omega) (by omega)
      have e11 : -4000000000000000000 ≤ 2 * b * d ∧ 2 * b * d ≤ 4000000000000000000 := by rw [Int.mul_assoc]; omega
      obtain ⟨e11, e12⟩ := e11
      have bx : -9223372036854775807 ≤ a * c ∧ a * c ≤ 9223372036854775807 := by omega
      have bys : -9223372036854775807 ≤ b * d ∧ b * d ≤ 9223372036854775807 := by omega
      obtain ⟨x1, x2⟩ := bx
      obtain ⟨y1, y2⟩ := bys
      have hcl : ∀ W : World, Below w.heap.size w W → Calls Try.prog 47 #[.pointer (some ⟨p, 0, none⟩), .pointer (some ⟨q, 0, none⟩)] W fun e w' => e = .returned (.tuple #[.int .i64 (a * c), .int .i64 (b * d)]) ∧ ∃ n, W.drewN n = w' := fun W hB =>
        mulC_any p q a b c d W ((Below.cell (p := ⟨p, 0, none⟩) hB hp).trans ha) ((Below.cell (p := ⟨p, 1, none⟩) hB hp).trans hb) ((Below.cell (p := ⟨q, 0, none⟩) hB hq).trans hc) ((Below.cell (p := ⟨q, 1, none⟩) hB hq).trans hd) a1 a2 b1 b2 c1 c2 d1 d2
      clear e1 e2 e3 e4 e5 e6 e7 e8 e9 e10 e11 e12
      generalize a * c = x at *
      generalize b * d = y at *
      have HCL := hide hcl; clear hcl
      by_cases hy0 : y = 0
      · subst hy0
        simp only [rN, rD, mok_zero, Bool.false_eq_true, if_false]
        go_enter Try.func41, Try.ntmps41
        go_wp2_with (first | (go_at_call 26; refine (isRat_any _ _ _).mono ?_; rintro e w1 ⟨rfl, hbw1⟩; obtain ⟨hcw1, hfw1⟩ := bcell hbw1; have hzw1 := hbw1.size; (try simp at hzw1); (try ((have kw1w0 := (bnew hbw1) (w.heap.size) ?pf); (case pf => (first | omega | (simp; done) | (simp; omega))); obtain ⟨kcw1w0, kfw1w0, klw1w0⟩ := kw1w0)); (try ((have kw1w1 := (bnew hbw1) (w.heap.size + 1) ?pf); (case pf => (first | omega | (simp; done) | (simp; omega))); obtain ⟨kcw1w1, kfw1w1, klw1w1⟩ := kw1w1)); (try ((have kw1w2 := (bnew hbw1) (w.heap.size + 1 + 1) ?pf); (case pf => (first | omega | (simp; done) | (simp; omega))); obtain ⟨kcw1w2, kfw1w2, klw1w2⟩ := kw1w2))) | (go_at_call 47; refine ((unhide HCL) _ (by repeat (first | exact Below.refl _ _ | assumption | refine Below.trans ?_ (Below.mono (by assumption) (by first | omega | (simp <;> omega))) | apply Below.drew | apply below_drewN | refine Below.alloc ?_ (by first | omega | (simp <;> omega)) _ | refine Below.setCell ?_ (by first | omega | (simp <;> omega)) _))).mono ?_; rintro e w' ⟨rfl, n, rfl⟩))
        exact bodyPost_ret (v := .tuple #[.agg #[.int .i64 0, .int .i64 0], .bool false]) (by simp [results, Try.results41, go_sem, *]) rfl ⟨rfl, (by repeat (first | exact Below.refl _ _ | assumption | refine Below.trans ?_ (Below.mono (by assumption) (by first | omega | (simp <;> omega))) | apply Below.drew | apply below_drewN | refine Below.alloc ?_ (by first | omega | (simp <;> omega)) _ | refine Below.setCell ?_ (by first | omega | (simp <;> omega)) _))⟩
      · have hy1 : (y == 0) = false := by simpa using hy0
        go_enter Try.func41, Try.ntmps41
        go_wp2_with (first | (go_at_call 26; refine (isRat_any _ _ _).mono ?_; rintro e w1 ⟨rfl, hbw1⟩; obtain ⟨hcw1, hfw1⟩ := bcell hbw1; have hzw1 := hbw1.size; (try simp at hzw1); (try ((have kw1w0 := (bnew hbw1) (w.heap.size) ?pf); (case pf => (first | omega | (simp; done) | (simp; omega))); obtain ⟨kcw1w0, kfw1w0, klw1w0⟩ := kw1w0)); (try ((have kw1w1 := (bnew hbw1) (w.heap.size + 1) ?pf); (case pf => (first | omega | (simp; done) | (simp; omega))); obtain ⟨kcw1w1, kfw1w1, klw1w1⟩ := kw1w1)); (try ((have kw1w2 := (bnew hbw1) (w.heap.size + 1 + 1) ?pf); (case pf => (first | omega | (simp; done) | (simp; omega))); obtain ⟨kcw1w2, kfw1w2, klw1w2⟩ := kw1w2))) | (go_at_call 47; refine ((unhide HCL) _ (by repeat (first | exact Below.refl _ _ | assumption | refine Below.trans ?_ (Below.mono (by assumption) (by first | omega | (simp <;> omega))) | apply Below.drew | apply below_drewN | refine Below.alloc ?_ (by first | omega | (simp <;> omega)) _ | refine Below.setCell ?_ (by first | omega | (simp <;> omega)) _))).mono ?_; rintro e w' ⟨rfl, n, rfl⟩) | (go_at_call 58; refine (reduceRat_any x y _ x1 x2 y1 y2 hy0).mono ?_; rintro e w2 ⟨rfl, hbw2⟩; obtain ⟨hcw2, hfw2⟩ := bcell hbw2; have hzw2 := hbw2.size; (try simp at hzw2); (try ((have kw2w0 := (bnew hbw2) (w.heap.size) ?pf); (case pf => (first | omega | (simp; done) | (simp; omega))); obtain ⟨kcw2w0, kfw2w0, klw2w0⟩ := kw2w0)); (try ((have kw2w1 := (bnew hbw2) (w.heap.size + 1) ?pf); (case pf => (first | omega | (simp; done) | (simp; omega))); obtain ⟨kcw2w1, kfw2w1, klw2w1⟩ := kw2w1)); (try ((have kw2w2 := (bnew hbw2) (w.heap.size + 1 + 1) ?pf); (case pf => (first | omega | (simp; done) | (simp; omega))); obtain ⟨kcw2w2, kfw2w2, klw2w2⟩ := kw2w2))))
        exact bodyPost_ret (v := .tuple #[.agg #[.int .i64 (rN x y), .int .i64 (rD x y)], .bool (mok x y)]) (by simp [results, Try.results41, go_sem, *]) rfl ⟨rfl, (by repeat (first | exact Below.refl _ _ | assumption | refine Below.trans ?_ (Below.mono (by assumption) (by first | omega | (simp <;> omega))) | apply Below.drew | apply below_drewN | refine Below.alloc ?_ (by first | omega | (simp <;> omega)) _ | refine Below.setCell ?_ (by first | omega | (simp <;> omega)) _))⟩
set_option maxHeartbeats 400000 in
theorem combine_divC (p q : Nat) (a b c d : Int) (w : World) (ha : w.cell? ⟨p, 0, none⟩ = some (.int .i64 a)) (hb : w.cell? ⟨p, 1, none⟩ = some (.int .i64 b)) (hc : w.cell? ⟨q, 0, none⟩ = some (.int .i64 c)) (hd : w.cell? ⟨q, 1, none⟩ = some (.int .i64 d)) (hp : p < w.heap.size) (hq : q < w.heap.size) :
    Calls Try.prog 41 #[.agg #[.int .i64 a, .int .i64 b], .agg #[.int .i64 c, .int .i64 d], .func (Fn.func 49) #[] #[.pointer (some ⟨p, 0, none⟩), .pointer (some ⟨q, 0, none⟩)]] w fun e w' =>
      e = .returned (.tuple #[.agg #[.int .i64 (tN (two a b c d) (a * d) (b * c)), .int .i64 (tD (two a b c d) (a * d) (b * c))], .bool (two a b c d && mok (a * d) (b * c))]) ∧ Below w.heap.size w w' := by
  cases hg : good a b with
  | false =>
    have e0 : two a b c d = false := by simp [two, hg]
    simp only [e0, tN, tD, Bool.false_and, Bool.false_eq_true, if_false]
    clear e0
    go_enter Try.func41, Try.ntmps41
    go_wp2_with ((go_at_call 26; refine (isRat_any _ _ _).mono ?_; rintro e w1 ⟨rfl, hbw1⟩; obtain ⟨hcw1, hfw1⟩ := bcell hbw1; have hzw1 := hbw1.size; (try simp at hzw1); (try ((have kw1w0 := (bnew hbw1) (w.heap.size) ?pf); (case pf => (first | omega | (simp; done) | (simp; omega))); obtain ⟨kcw1w0, kfw1w0, klw1w0⟩ := kw1w0)); (try ((have kw1w1 := (bnew hbw1) (w.heap.size + 1) ?pf); (case pf => (first | omega | (simp; done) | (simp; omega))); obtain ⟨kcw1w1, kfw1w1, klw1w1⟩ := kw1w1)); (try ((have kw1w2 := (bnew hbw1) (w.heap.size + 1 + 1) ?pf); (case pf => (first | omega | (simp; done) | (simp; omega))); obtain ⟨kcw1w2, kfw1w2, klw1w2⟩ := kw1w2))))
    exact bodyPost_ret (v := .tuple #[.agg #[.int .i64 0, .int .i64 0], .bool false]) (by simp [results, Try.results41, go_sem, *]) rfl ⟨rfl, (by repeat (first | exact Below.refl _ _ | assumption | refine Below.trans ?_ (Below.mono (by assumption) (by first | omega | (simp <;> omega))) | apply Below.drew | apply below_drewN | refine Below.alloc ?_ (by first | omega | (simp <;> omega)) _ | refine Below.setCell ?_ (by first | omega | (simp <;> omega)) _))⟩
  | true =>
    cases hg' : good c d with
    | false =>
      have e0 : two a b c d = false := by simp [two, hg']
      simp only [e0, tN, tD, Bool.false_and, Bool.false_eq_true, if_false]
      clear e0
      go_enter Try.func41, Try.ntmps41
      go_wp2_with ((go_at_call 26; refine (isRat_any _ _ _).mono ?_; rintro e w1 ⟨rfl, hbw1⟩; obtain ⟨hcw1, hfw1⟩ := bcell hbw1; have hzw1 := hbw1.size; (try simp at hzw1); (try ((have kw1w0 := (bnew hbw1) (w.heap.size) ?pf); (case pf => (first | omega | (simp; done) | (simp; omega))); obtain ⟨kcw1w0, kfw1w0, klw1w0⟩ := kw1w0)); (try ((have kw1w1 := (bnew hbw1) (w.heap.size + 1) ?pf); (case pf => (first | omega | (simp; done) | (simp; omega))); obtain ⟨kcw1w1, kfw1w1, klw1w1⟩ := kw1w1)); (try ((have kw1w2 := (bnew hbw1) (w.heap.size + 1 + 1) ?pf); (case pf => (first | omega | (simp; done) | (simp; omega))); obtain ⟨kcw1w2, kfw1w2, klw1w2⟩ := kw1w2))))
      exact bodyPost_ret (v := .tuple #[.agg #[.int .i64 0, .int .i64 0], .bool false]) (by simp [results, Try.results41, go_sem, *]) rfl ⟨rfl, (by repeat (first | exact Below.refl _ _ | assumption | refine Below.trans ?_ (Below.mono (by assumption) (by first | omega | (simp <;> omega))) | apply Below.drew | apply below_drewN | refine Below.alloc ?_ (by first | omega | (simp <;> omega)) _ | refine Below.setCell ?_ (by first | omega | (simp <;> omega)) _))⟩
    | true =>
      obtain ⟨b1, b2, a1, a2, g1⟩ := good_iff.1 hg
      obtain ⟨d1, d2, c1, c2, g2⟩ := good_iff.1 hg'
      have G1 := Lib.hid g1; have G2 := Lib.hid g2; clear g1 g2
      have e0 : two a b c d = true := by simp [two, hg, hg']
      simp only [e0, tN, tD, Bool.true_and, if_true]
      clear e0
      obtain ⟨e1, e2⟩ := prod_bd (a := a) (d := d) (by omega) (by omega) (by omega) (by omega)
      obtain ⟨e3, e4⟩ := prod_bd (a := c) (d := b) (by omega) (by omega) (by omega) (by omega)
      obtain ⟨e5, e6⟩ := prod_bd (a := b) (d := d) (by omega) (by omega) (by omega) (by omega)
      obtain ⟨e7, e8⟩ := prod_bd (a := a) (d := c) (by omega) (by omega) (by omega) (by omega)
      obtain ⟨e9, e10⟩ := prod_bd (a := b) (d := c) (by omega) (by omega) (by omega) (by omega)
      have e11 : -4000000000000000000 ≤ 2 * b * d ∧ 2 * b * d ≤ 4000000000000000000 := by rw [Int.mul_assoc]; omega
      obtain ⟨e11, e12⟩ := e11
      have bx : -9223372036854775807 ≤ a * d ∧ a * d ≤ 9223372036854775807 := by omega
      have bys : -9223372036854775807 ≤ b * c ∧ b * c ≤ 9223372036854775807 := by omega
      obtain ⟨x1, x2⟩ := bx
      obtain ⟨y1, y2⟩ := bys
      have hcl : ∀ W : World, Below w.heap.size w W → Calls Try.prog 49 #[.pointer (some ⟨p, 0, none⟩), .pointer (some ⟨q, 0, none⟩)] W fun e w' => e = .returned (.tuple #[.int .i64 (a * d), .int .i64 (b * c)]) ∧ ∃ n, W.drewN n = w' := fun W hB =>
        divC_any p q a b c d W ((Below.cell (p := ⟨p, 0, none⟩) hB hp).trans ha) ((Below.cell (p := ⟨p, 1, none⟩) hB hp).trans hb) ((Below.cell (p := ⟨q, 0, none⟩) hB hq).trans hc) ((Below.cell (p := ⟨q, 1, none⟩) hB hq).trans hd) a1 a2 b1 b2 c1 c2 d1 d2
      clear e1 e2 e3 e4 e5 e6 e7 e8 e9 e10 e11 e12
      generalize a * d = x at *
      generalize b * c = y at *
      have HCL := hide hcl; clear hcl
      by_cases hy0 : y = 0
      · subst hy0
        simp only [rN, rD, mok_zero, Bool.false_eq_true, if_false]
        go_enter Try.func41, Try.ntmps41
        go_wp2_with (first | (go_at_call 26; refine (isRat_any _ _ _).mono ?_; rintro e w1 ⟨rfl, hbw1⟩; obtain ⟨hcw1, hfw1⟩ := bcell hbw1; have hzw1 := hbw1.size; (try simp at hzw1); (try ((have kw1w0 := (bnew hbw1) (w.heap.size) ?pf); (case pf => (first | omega | (simp; done) | (simp; omega))); obtain ⟨kcw1w0, kfw1w0, klw1w0⟩ := kw1w0)); (try ((have kw1w1 := (bnew hbw1) (w.heap.size + 1) ?pf); (case pf => (first | omega | (simp; done) | (simp; omega))); obtain ⟨kcw1w1, kfw1w1, klw1w1⟩ := kw1w1)); (try ((have kw1w2 := (bnew hbw1) (w.heap.size + 1 + 1) ?pf); (case pf => (first | omega | (simp; done) | (simp; omega))); obtain ⟨kcw1w2, kfw1w2, klw1w2⟩ := kw1w2))) | (go_at_call 49; refine ((unhide HCL) _ (by repeat (first | exact Below.refl _ _ | assumption | refine Below.trans ?_ (Below.mono (by assumption) (by first | omega | (simp <;> omega))) | apply Below.drew | apply below_drewN | refine Below.alloc ?_ (by first | omega | (simp <;> omega)) _ | refine Below.setCell ?_ (by first | omega | (simp <;> omega)) _))).mono ?_; rintro e w' ⟨rfl, n, rfl⟩))
        exact bodyPost_ret (v := .tuple #[.agg #[.int .i64 0, .int .i64 0], .bool false]) (by simp [results, Try.results41, go_sem, *]) rfl ⟨rfl, (by repeat (first | exact Below.refl _ _ | assumption | refine Below.trans ?_ (Below.mono (by assumption) (by first | omega | (simp <;> omega))) | apply Below.drew | apply below_drewN | refine Below.alloc ?_ (by first | omega | (simp <;> omega)) _ | refine Below.setCell ?_ (by first | omega | (simp <;> omega)) _))⟩
      · have hy1 : (y == 0) = false := by simpa using hy0
        go_enter Try.func41, Try.ntmps41
        go_wp2_with (first | (go_at_call 26; refine (isRat_any _ _ _).mono ?_; rintro e w1 ⟨rfl, hbw1⟩; obtain ⟨hcw1, hfw1⟩ := bcell hbw1; have hzw1 := hbw1.size; (try simp at hzw1); (try ((have kw1w0 := (bnew hbw1) (w.heap.size) ?pf); (case pf => (first | omega | (simp; done) | (simp; omega))); obtain ⟨kcw1w0, kfw1w0, klw1w0⟩ := kw1w0)); (try ((have kw1w1 := (bnew hbw1) (w.heap.size + 1) ?pf); (case pf => (first | omega | (simp; done) | (simp; omega))); obtain ⟨kcw1w1, kfw1w1, klw1w1⟩ := kw1w1)); (try ((have kw1w2 := (bnew hbw1) (w.heap.size + 1 + 1) ?pf); (case pf => (first | omega | (simp; done) | (simp; omega))); obtain ⟨kcw1w2, kfw1w2, klw1w2⟩ := kw1w2))) | (go_at_call 49; refine ((unhide HCL) _ (by repeat (first | exact Below.refl _ _ | assumption | refine Below.trans ?_ (Below.mono (by assumption) (by first | omega | (simp <;> omega))) | apply Below.drew | apply below_drewN | refine Below.alloc ?_ (by first | omega | (simp <;> omega)) _ | refine Below.setCell ?_ (by first | omega | (simp <;> omega)) _))).mono ?_; rintro e w' ⟨rfl, n, rfl⟩) | (go_at_call 58; refine (reduceRat_any x y _ x1 x2 y1 y2 hy0).mono ?_; rintro e w2 ⟨rfl, hbw2⟩; obtain ⟨hcw2, hfw2⟩ := bcell hbw2; have hzw2 := hbw2.size; (try simp at hzw2); (try ((have kw2w0 := (bnew hbw2) (w.heap.size) ?pf); (case pf => (first | omega | (simp; done) | (simp; omega))); obtain ⟨kcw2w0, kfw2w0, klw2w0⟩ := kw2w0)); (try ((have kw2w1 := (bnew hbw2) (w.heap.size + 1) ?pf); (case pf => (first | omega | (simp; done) | (simp; omega))); obtain ⟨kcw2w1, kfw2w1, klw2w1⟩ := kw2w1)); (try ((have kw2w2 := (bnew hbw2) (w.heap.size + 1 + 1) ?pf); (case pf => (first | omega | (simp; done) | (simp; omega))); obtain ⟨kcw2w2, kfw2w2, klw2w2⟩ := kw2w2))))
        exact bodyPost_ret (v := .tuple #[.agg #[.int .i64 (rN x y), .int .i64 (rD x y)], .bool (mok x y)]) (by simp [results, Try.results41, go_sem, *]) rfl ⟨rfl, (by repeat (first | exact Below.refl _ _ | assumption | refine Below.trans ?_ (Below.mono (by assumption) (by first | omega | (simp <;> omega))) | apply Below.drew | apply below_drewN | refine Below.alloc ?_ (by first | omega | (simp <;> omega)) _ | refine Below.setCell ?_ (by first | omega | (simp <;> omega)) _))⟩
set_option maxHeartbeats 400000 in
theorem combine_midC (p q : Nat) (a b c d : Int) (w : World) (ha : w.cell? ⟨p, 0, none⟩ = some (.int .i64 a)) (hb : w.cell? ⟨p, 1, none⟩ = some (.int .i64 b)) (hc : w.cell? ⟨q, 0, none⟩ = some (.int .i64 c)) (hd : w.cell? ⟨q, 1, none⟩ = some (.int .i64 d)) (hp : p < w.heap.size) (hq : q < w.heap.size) :
    Calls Try.prog 41 #[.agg #[.int .i64 a, .int .i64 b], .agg #[.int .i64 c, .int .i64 d], .func (Fn.func 53) #[] #[.pointer (some ⟨p, 0, none⟩), .pointer (some ⟨q, 0, none⟩)]] w fun e w' =>
      e = .returned (.tuple #[.agg #[.int .i64 (tN (two a b c d) (a * d + c * b) (2 * b * d)), .int .i64 (tD (two a b c d) (a * d + c * b) (2 * b * d))], .bool (two a b c d && mok (a * d + c * b) (2 * b * d))]) ∧ Below w.heap.size w w' := by
  cases hg : good a b with
  | false =>
    have e0 : two a b c d = false := by simp [two, hg]
    simp only [e0, tN, tD, Bool.false_and, Bool.false_eq_true, if_false]
    clear e0
    go_enter Try.func41, Try.ntmps41
    go_wp2_with ((go_at_call 26; refine (isRat_any _ _ _).mono ?_; rintro e w1 ⟨rfl, hbw1⟩; obtain ⟨hcw1, hfw1⟩ := bcell hbw1; have hzw1 := hbw1.size; (try simp at hzw1); (try ((have kw1w0 := (bnew hbw1) (w.heap.size) ?pf); (case pf => (first | omega | (simp; done) | (simp; omega))); obtain ⟨kcw1w0, kfw1w0, klw1w0⟩ := kw1w0)); (try ((have kw1w1 := (bnew hbw1) (w.heap.size + 1) ?pf); (case pf => (first | omega | (simp; done) | (simp; omega))); obtain ⟨kcw1w1, kfw1w1, klw1w1⟩ := kw1w1)); (try ((have kw1w2 := (bnew hbw1) (w.heap.size + 1 + 1) ?pf); (case pf => (first | omega | (simp; done) | (simp; omega))); obtain ⟨kcw1w2, kfw1w2, klw1w2⟩ := kw1w2))))
    exact bodyPost_ret (v := .tuple #[.agg #[.int .i64 0, .int .i64 0], .bool false]) (by simp [results, Try.results41, go_sem, *]) rfl ⟨rfl, (by repeat (first | exact Below.refl _ _ | assumption | refine Below.trans ?_ (Below.mono (by assumption) (by first | omega | (simp <;> omega))) | apply Below.drew | apply below_drewN | refine Below.alloc ?_ (by first | omega | (simp <;> omega)) _ | refine Below.setCell ?_ (by first | omega | (simp <;> omega)) _))⟩
  | true =>
    cases hg' : good c d with
    | false =>
      have e0 : two a b c d = false := by simp [two, hg']
      simp only [e0, tN, tD, Bool.false_and, Bool.false_eq_true, if_false]
      clear e0
      go_enter Try.func41, Try.ntmps41
      go_wp2_with ((go_at_call 26; refine (isRat_any _ _ _).mono ?_; rintro e w1 ⟨rfl, hbw1⟩; obtain ⟨hcw1, hfw1⟩ := bcell hbw1; have hzw1 := hbw1.size; (try simp at hzw1); (try ((have kw1w0 := (bnew hbw1) (w.heap.size) ?pf); (case pf => (first | omega | (simp; done) | (simp; omega))); obtain ⟨kcw1w0, kfw1w0, klw1w0⟩ := kw1w0)); (try ((have kw1w1 := (bnew hbw1) (w.heap.size + 1) ?pf); (case pf => (first | omega | (simp; done) | (simp; omega))); obtain ⟨kcw1w1, kfw1w1, klw1w1⟩ := kw1w1)); (try ((have kw1w2 := (bnew hbw1) (w.heap.size + 1 + 1) ?pf); (case pf => (first | omega | (simp; done) | (simp; omega))); obtain ⟨kcw1w2, kfw1w2, klw1w2⟩ := kw1w2))))
      exact bodyPost_ret (v := .tuple #[.agg #[.int .i64 0, .int .i64 0], .bool false]) (by simp [results, Try.results41, go_sem, *]) rfl ⟨rfl, (by repeat (first | exact Below.refl _ _ | assumption | refine Below.trans ?_ (Below.mono (by assumption) (by first | omega | (simp <;> omega))) | apply Below.drew | apply below_drewN | refine Below.alloc ?_ (by first | omega | (simp <;> omega)) _ | refine Below.setCell ?_ (by first | omega | (simp <;> omega)) _))⟩
    | true =>
      obtain ⟨b1, b2, a1, a2, g1⟩ := good_iff.1 hg
      obtain ⟨d1, d2, c1, c2, g2⟩ := good_iff.1 hg'
      have G1 := Lib.hid g1; have G2 := Lib.hid g2; clear g1 g2
      have e0 : two a b c d = true := by simp [two, hg, hg']
      simp only [e0, tN, tD, Bool.true_and, if_true]
      clear e0
      obtain ⟨e1, e2⟩ := prod_bd (a := a) (d := d) (by omega) (by omega) (by omega) (by omega)
      obtain ⟨e3, e4⟩ := prod_bd (a := c) (d := b) (by omega) (by omega) (by omega) (by omega)
      obtain ⟨e5, e6⟩ := prod_bd (a := b) (d := d) (by omega) (by omega) (by omega) (by omega)
      obtain ⟨e7, e8⟩ := prod_bd (a := a) (d := c) (by omega) (by omega) (by omega) (by omega)
      obtain ⟨e9, e10⟩ := prod_bd (a := b) (d := c) (by omega) (by omega) (by omega) (by omega)
      have e11 : -4000000000000000000 ≤ 2 * b * d ∧ 2 * b * d ≤ 4000000000000000000 := by rw [Int.mul_assoc]; omega
      obtain ⟨e11, e12⟩ := e11
      have bx : -9223372036854775807 ≤ a * d + c * b ∧ a * d + c * b ≤ 9223372036854775807 := by omega
      have bys : -9223372036854775807 ≤ 2 * b * d ∧ 2 * b * d ≤ 9223372036854775807 := by omega
      obtain ⟨x1, x2⟩ := bx
      obtain ⟨y1, y2⟩ := bys
      have hcl : ∀ W : World, Below w.heap.size w W → Calls Try.prog 53 #[.pointer (some ⟨p, 0, none⟩), .pointer (some ⟨q, 0, none⟩)] W fun e w' => e = .returned (.tuple #[.int .i64 (a * d + c * b), .int .i64 (2 * b * d)]) ∧ ∃ n, W.drewN n = w' := fun W hB =>
        midC_any p q a b c d W ((Below.cell (p := ⟨p, 0, none⟩) hB hp).trans ha) ((Below.cell (p := ⟨p, 1, none⟩) hB hp).trans hb) ((Below.cell (p := ⟨q, 0, none⟩) hB hq).trans hc) ((Below.cell (p := ⟨q, 1, none⟩) hB hq).trans hd) a1 a2 b1 b2 c1 c2 d1 d2
      clear e1 e2 e3 e4 e5 e6 e7 e8 e9 e10 e11 e12
      generalize a * d + c * b = x at *
      generalize 2 * b * d = y at *
      have HCL := hide hcl; clear hcl
      by_cases hy0 : y = 0
      · subst hy0
        simp only [rN, rD, mok_zero, Bool.false_eq_true, if_false]
        go_enter Try.func41, Try.ntmps41
        go_wp2_with (first | (go_at_call 26; refine (isRat_any _ _ _).mono ?_; rintro e w1 ⟨rfl, hbw1⟩; obtain ⟨hcw1, hfw1⟩ := bcell hbw1; have hzw1 := hbw1.size; (try simp at hzw1); (try ((have kw1w0 := (bnew hbw1) (w.heap.size) ?pf); (case pf => (first | omega | (simp; done) | (simp; omega))); obtain ⟨kcw1w0, kfw1w0, klw1w0⟩ := kw1w0)); (try ((have kw1w1 := (bnew hbw1) (w.heap.size + 1) ?pf); (case pf => (first | omega | (simp; done) | (simp; omega))); obtain ⟨kcw1w1, kfw1w1, klw1w1⟩ := kw1w1)); (try ((have kw1w2 := (bnew hbw1) (w.heap.size + 1 + 1) ?pf); (case pf => (first | omega | (simp; done) | (simp; omega))); obtain ⟨kcw1w2, kfw1w2, klw1w2⟩ := kw1w2))) | (go_at_call 53; refine ((unhide HCL) _ (by repeat (first | exact Below.refl _ _ | assumption | refine Below.trans ?_ (Below.mono (by assumption) (by first | omega | (simp <;> omega))) | apply Below.drew | apply below_drewN | refine Below.alloc ?_ (by first | omega | (simp <;> omega)) _ | refine Below.setCell ?_ (by first | omega | (simp <;> omega)) _))).mono ?_; rintro e w' ⟨rfl, n, rfl⟩))
        exact bodyPost_ret (v := .tuple #[.agg #[.int .i64 0, .int .i64 0], .bool false]) (by simp [results, Try.results41, go_sem, *]) rfl ⟨rfl, (by repeat (first | exact Below.refl _ _ | assumption | refine Below.trans ?_ (Below.mono (by assumption) (by first | omega | (simp <;> omega))) | apply Below.drew | apply below_drewN | refine Below.alloc ?_ (by first | omega | (simp <;> omega)) _ | refine Below.setCell ?_ (by first | omega | (simp <;> omega)) _))⟩
      · have hy1 : (y == 0) = false := by simpa using hy0
        go_enter Try.func41, Try.ntmps41
        go_wp2_with (first | (go_at_call 26; refine (isRat_any _ _ _).mono ?_; rintro e w1 ⟨rfl, hbw1⟩; obtain ⟨hcw1, hfw1⟩ := bcell hbw1; have hzw1 := hbw1.size; (try simp at hzw1); (try ((have kw1w0 := (bnew hbw1) (w.heap.size) ?pf); (case pf => (first | omega | (simp; done) | (simp; omega))); obtain ⟨kcw1w0, kfw1w0, klw1w0⟩ := kw1w0)); (try ((have kw1w1 := (bnew hbw1) (w.heap.size + 1) ?pf); (case pf => (first | omega | (simp; done) | (simp; omega))); obtain ⟨kcw1w1, kfw1w1, klw1w1⟩ := kw1w1)); (try ((have kw1w2 := (bnew hbw1) (w.heap.size + 1 + 1) ?pf); (case pf => (first | omega | (simp; done) | (simp; omega))); obtain ⟨kcw1w2, kfw1w2, klw1w2⟩ := kw1w2))) | (go_at_call 53; refine ((unhide HCL) _ (by repeat (first | exact Below.refl _ _ | assumption | refine Below.trans ?_ (Below.mono (by assumption) (by first | omega | (simp <;> omega))) | apply Below.drew | apply below_drewN | refine Below.alloc ?_ (by first | omega | (simp <;> omega)) _ | refine Below.setCell ?_ (by first | omega | (simp <;> omega)) _))).mono ?_; rintro e w' ⟨rfl, n, rfl⟩) | (go_at_call 58; refine (reduceRat_any x y _ x1 x2 y1 y2 hy0).mono ?_; rintro e w2 ⟨rfl, hbw2⟩; obtain ⟨hcw2, hfw2⟩ := bcell hbw2; have hzw2 := hbw2.size; (try simp at hzw2); (try ((have kw2w0 := (bnew hbw2) (w.heap.size) ?pf); (case pf => (first | omega | (simp; done) | (simp; omega))); obtain ⟨kcw2w0, kfw2w0, klw2w0⟩ := kw2w0)); (try ((have kw2w1 := (bnew hbw2) (w.heap.size + 1) ?pf); (case pf => (first | omega | (simp; done) | (simp; omega))); obtain ⟨kcw2w1, kfw2w1, klw2w1⟩ := kw2w1)); (try ((have kw2w2 := (bnew hbw2) (w.heap.size + 1 + 1) ?pf); (case pf => (first | omega | (simp; done) | (simp; omega))); obtain ⟨kcw2w2, kfw2w2, klw2w2⟩ := kw2w2))))
        exact bodyPost_ret (v := .tuple #[.agg #[.int .i64 (rN x y), .int .i64 (rD x y)], .bool (mok x y)]) (by simp [results, Try.results41, go_sem, *]) rfl ⟨rfl, (by repeat (first | exact Below.refl _ _ | assumption | refine Below.trans ?_ (Below.mono (by assumption) (by first | omega | (simp <;> omega))) | apply Below.drew | apply below_drewN | refine Below.alloc ?_ (by first | omega | (simp <;> omega)) _ | refine Below.setCell ?_ (by first | omega | (simp <;> omega)) _))⟩

set_option maxHeartbeats 400000 in
theorem iAddRats_any (a b c d : Int) (w : World) :
    Calls Try.prog 16 #[.agg #[.int .i64 a, .int .i64 b], .agg #[.int .i64 c, .int .i64 d]] w fun e w' =>
      e = .returned (.tuple #[.agg #[.int .i64 (tN (two a b c d) (a * d + c * b) (b * d)), .int .i64 (tD (two a b c d) (a * d + c * b) (b * d))], .bool (two a b c d && mok (a * d + c * b) (b * d))]) ∧ Below w.heap.size w w' := by
  have hcm := fun (p q : Nat) (W : World) => combine_addC p q a b c d W
  generalize tN (two a b c d) (a * d + c * b) (b * d) = x at *
  generalize tD (two a b c d) (a * d + c * b) (b * d) = y at *
  generalize (two a b c d && mok (a * d + c * b) (b * d)) = z at *
  have HCM := hide hcm; clear hcm
  go_enter Try.func16, Try.ntmps16
  go_wp2_with ((go_at_call 41; refine ((unhide HCM) w.heap.size (w.heap.size + 1) _ (by go_simp) (by go_simp) (by go_simp) (by go_simp) (by simp <;> omega) (by simp)).mono ?_; rintro e w1 ⟨rfl, hbw1⟩; obtain ⟨hcw1, hfw1⟩ := bcell hbw1; have hzw1 := hbw1.size; (try simp at hzw1); (try ((have kw1w0 := (bnew hbw1) (w.heap.size) ?pf); (case pf => (first | omega | (simp; done) | (simp; omega))); obtain ⟨kcw1w0, kfw1w0, klw1w0⟩ := kw1w0)); (try ((have kw1w1 := (bnew hbw1) (w.heap.size + 1) ?pf); (case pf => (first | omega | (simp; done) | (simp; omega))); obtain ⟨kcw1w1, kfw1w1, klw1w1⟩ := kw1w1)); (try ((have kw1w2 := (bnew hbw1) (w.heap.size + 1 + 1) ?pf); (case pf => (first | omega | (simp; done) | (simp; omega))); obtain ⟨kcw1w2, kfw1w2, klw1w2⟩ := kw1w2))))
  exact bodyPost_ret (v := .tuple #[.agg #[.int .i64 x, .int .i64 y], .bool z]) (by simp [results, Try.results16, go_sem, *]) rfl ⟨rfl, (by repeat (first | exact Below.refl _ _ | assumption | refine Below.trans ?_ (Below.mono (by assumption) (by first | omega | (simp <;> omega))) | apply Below.drew | apply below_drewN | refine Below.alloc ?_ (by first | omega | (simp <;> omega)) _ | refine Below.setCell ?_ (by first | omega | (simp <;> omega)) _))⟩
set_option maxHeartbeats 400000 in
theorem iSubtractRats_any (a b c d : Int) (w : World) :
    Calls Try.prog 18 #[.agg #[.int .i64 a, .int .i64 b], .agg #[.int .i64 c, .int .i64 d]] w fun e w' =>
      e = .returned (.tuple #[.agg #[.int .i64 (tN (two a b c d) (a * d - c * b) (b * d)), .int .i64 (tD (two a b c d) (a * d - c * b) (b * d))], .bool (two a b c d && mok (a * d - c * b) (b * d))]) ∧ Below w.heap.size w w' := by
  have hcm := fun (p q : Nat) (W : World) => combine_subC p q a b c d W
  generalize tN (two a b c d) (a * d - c * b) (b * d) = x at *
  generalize tD (two a b c d) (a * d - c * b) (b * d) = y at *
  generalize (two a b c d && mok (a * d - c * b) (b * d)) = z at *
  have HCM := hide hcm; clear hcm
  go_enter Try.func18, Try.ntmps18
  go_wp2_with ((go_at_call 41; refine ((unhide HCM) w.heap.size (w.heap.size + 1) _ (by go_simp) (by go_simp) (by go_simp) (by go_simp) (by simp <;> omega) (by simp)).mono ?_; rintro e w1 ⟨rfl, hbw1⟩; obtain ⟨hcw1, hfw1⟩ := bcell hbw1; have hzw1 := hbw1.size; (try simp at hzw1); (try ((have kw1w0 := (bnew hbw1) (w.heap.size) ?pf); (case pf => (first | omega | (simp; done) | (simp; omega))); obtain ⟨kcw1w0, kfw1w0, klw1w0⟩ := kw1w0)); (try ((have kw1w1 := (bnew hbw1) (w.heap.size + 1) ?pf); (case pf => (first | omega | (simp; done) | (simp; omega))); obtain ⟨kcw1w1, kfw1w1, klw1w1⟩ := kw1w1)); (try ((have kw1w2 := (bnew hbw1) (w.heap.size + 1 + 1) ?pf); (case pf => (first | omega | (simp; done) | (simp; omega))); obtain ⟨kcw1w2, kfw1w2, klw1w2⟩ := kw1w2))))
  exact bodyPost_ret (v := .tuple #[.agg #[.int .i64 x, .int .i64 y], .bool z]) (by simp [results, Try.results18, go_sem, *]) rfl ⟨rfl, (by repeat (first | exact Below.refl _ _ | assumption | refine Below.trans ?_ (Below.mono (by assumption) (by first | omega | (simp <;> omega))) | apply Below.drew | apply below_drewN | refine Below.alloc ?_ (by first | omega | (simp <;> omega)) _ | refine Below.setCell ?_ (by first | omega | (simp <;> omega)) _))⟩
set_option maxHeartbeats 400000 in
theorem iMultiplyRats_any (a b c d : Int) (w : World) :
    Calls Try.prog 20 #[.agg #[.int .i64 a, .int .i64 b], .agg #[.int .i64 c, .int .i64 d]] w fun e w' =>
      e = .returned (.tuple #[.agg #[.int .i64 (tN (two a b c d) (a * c) (b * d)), .int .i64 (tD (two a b c d) (a * c) (b * d))], .bool (two a b c d && mok (a * c) (b * d))]) ∧ Below w.heap.size w w' := by
  have hcm := fun (p q : Nat) (W : World) => combine_mulC p q a b c d W
  generalize tN (two a b c d) (a * c) (b * d) = x at *
  generalize tD (two a b c d) (a * c) (b * d) = y at *
  generalize (two a b c d && mok (a * c) (b * d)) = z at *
  have HCM := hide hcm; clear hcm
  go_enter Try.func20, Try.ntmps20
  go_wp2_with ((go_at_call 41; refine ((unhide HCM) w.heap.size (w.heap.size + 1) _ (by go_simp) (by go_simp) (by go_simp) (by go_simp) (by simp <;> omega) (by simp)).mono ?_; rintro e w1 ⟨rfl, hbw1⟩; obtain ⟨hcw1, hfw1⟩ := bcell hbw1; have hzw1 := hbw1.size; (try simp at hzw1); (try ((have kw1w0 := (bnew hbw1) (w.heap.size) ?pf); (case pf => (first | omega | (simp; done) | (simp; omega))); obtain ⟨kcw1w0, kfw1w0, klw1w0⟩ := kw1w0)); (try ((have kw1w1 := (bnew hbw1) (w.heap.size + 1) ?pf); (case pf => (first | omega | (simp; done) | (simp; omega))); obtain ⟨kcw1w1, kfw1w1, klw1w1⟩ := kw1w1)); (try ((have kw1w2 := (bnew hbw1) (w.heap.size + 1 + 1) ?pf); (case pf => (first | omega | (simp; done) | (simp; omega))); obtain ⟨kcw1w2, kfw1w2, klw1w2⟩ := kw1w2))))
  exact bodyPost_ret (v := .tuple #[.agg #[.int .i64 x, .int .i64 y], .bool z]) (by simp [results, Try.results20, go_sem, *]) rfl ⟨rfl, (by repeat (first | exact Below.refl _ _ | assumption | refine Below.trans ?_ (Below.mono (by assumption) (by first | omega | (simp <;> omega))) | apply Below.drew | apply below_drewN | refine Below.alloc ?_ (by first | omega | (simp <;> omega)) _ | refine Below.setCell ?_ (by first | omega | (simp <;> omega)) _))⟩
set_option maxHeartbeats 400000 in
theorem iDivideRats_any (a b c d : Int) (w : World) :
    Calls Try.prog 22 #[.agg #[.int .i64 a, .int .i64 b], .agg #[.int .i64 c, .int .i64 d]] w fun e w' =>
      e = .returned (.tuple #[.agg #[.int .i64 (tN (two a b c d) (a * d) (b * c)), .int .i64 (tD (two a b c d) (a * d) (b * c))], .bool (two a b c d && mok (a * d) (b * c))]) ∧ Below w.heap.size w w' := by
  have hcm := fun (p q : Nat) (W : World) => combine_divC p q a b c d W
  generalize tN (two a b c d) (a * d) (b * c) = x at *
  generalize tD (two a b c d) (a * d) (b * c) = y at *
  generalize (two a b c d && mok (a * d) (b * c)) = z at *
  have HCM := hide hcm; clear hcm
  go_enter Try.func22, Try.ntmps22
  go_wp2_with ((go_at_call 41; refine ((unhide HCM) w.heap.size (w.heap.size + 1) _ (by go_simp) (by go_simp) (by go_simp) (by go_simp) (by simp <;> omega) (by simp)).mono ?_; rintro e w1 ⟨rfl, hbw1⟩; obtain ⟨hcw1, hfw1⟩ := bcell hbw1; have hzw1 := hbw1.size; (try simp at hzw1); (try ((have kw1w0 := (bnew hbw1) (w.heap.size) ?pf); (case pf => (first | omega | (simp; done) | (simp; omega))); obtain ⟨kcw1w0, kfw1w0, klw1w0⟩ := kw1w0)); (try ((have kw1w1 := (bnew hbw1) (w.heap.size + 1) ?pf); (case pf => (first | omega | (simp; done) | (simp; omega))); obtain ⟨kcw1w1, kfw1w1, klw1w1⟩ := kw1w1)); (try ((have kw1w2 := (bnew hbw1) (w.heap.size + 1 + 1) ?pf); (case pf => (first | omega | (simp; done) | (simp; omega))); obtain ⟨kcw1w2, kfw1w2, klw1w2⟩ := kw1w2))))
  exact bodyPost_ret (v := .tuple #[.agg #[.int .i64 x, .int .i64 y], .bool z]) (by simp [results, Try.results22, go_sem, *]) rfl ⟨rfl, (by repeat (first | exact Below.refl _ _ | assumption | refine Below.trans ?_ (Below.mono (by assumption) (by first | omega | (simp <;> omega))) | apply Below.drew | apply below_drewN | refine Below.alloc ?_ (by first | omega | (simp <;> omega)) _ | refine Below.setCell ?_ (by first | omega | (simp <;> omega)) _))⟩
set_option maxHeartbeats 400000 in
theorem iMiddleOf_any (a b c d : Int) (w : World) :
    Calls Try.prog 27 #[.agg #[.int .i64 a, .int .i64 b], .agg #[.int .i64 c, .int .i64 d]] w fun e w' =>
      e = .returned (.tuple #[.agg #[.int .i64 (tN (two a b c d) (a * d + c * b) (2 * b * d)), .int .i64 (tD (two a b c d) (a * d + c * b) (2 * b * d))], .bool (two a b c d && mok (a * d + c * b) (2 * b * d))]) ∧ Below w.heap.size w w' := by
  have hcm := fun (p q : Nat) (W : World) => combine_midC p q a b c d W
  generalize tN (two a b c d) (a * d + c * b) (2 * b * d) = x at *
  generalize tD (two a b c d) (a * d + c * b) (2 * b * d) = y at *
  generalize (two a b c d && mok (a * d + c * b) (2 * b * d)) = z at *
  have HCM := hide hcm; clear hcm
  go_enter Try.func27, Try.ntmps27
  go_wp2_with ((go_at_call 41; refine ((unhide HCM) w.heap.size (w.heap.size + 1) _ (by go_simp) (by go_simp) (by go_simp) (by go_simp) (by simp <;> omega) (by simp)).mono ?_; rintro e w1 ⟨rfl, hbw1⟩; obtain ⟨hcw1, hfw1⟩ := bcell hbw1; have hzw1 := hbw1.size; (try simp at hzw1); (try ((have kw1w0 := (bnew hbw1) (w.heap.size) ?pf); (case pf => (first | omega | (simp; done) | (simp; omega))); obtain ⟨kcw1w0, kfw1w0, klw1w0⟩ := kw1w0)); (try ((have kw1w1 := (bnew hbw1) (w.heap.size + 1) ?pf); (case pf => (first | omega | (simp; done) | (simp; omega))); obtain ⟨kcw1w1, kfw1w1, klw1w1⟩ := kw1w1)); (try ((have kw1w2 := (bnew hbw1) (w.heap.size + 1 + 1) ?pf); (case pf => (first | omega | (simp; done) | (simp; omega))); obtain ⟨kcw1w2, kfw1w2, klw1w2⟩ := kw1w2))))
  exact bodyPost_ret (v := .tuple #[.agg #[.int .i64 x, .int .i64 y], .bool z]) (by simp [results, Try.results27, go_sem, *]) rfl ⟨rfl, (by repeat (first | exact Below.refl _ _ | assumption | refine Below.trans ?_ (Below.mono (by assumption) (by first | omega | (simp <;> omega))) | apply Below.drew | apply below_drewN | refine Below.alloc ?_ (by first | omega | (simp <;> omega)) _ | refine Below.setCell ?_ (by first | omega | (simp <;> omega)) _))⟩

set_option maxHeartbeats 400000 in
theorem iMakeRat_any (n d : Int) (w : World) :
    Calls Try.prog 33 #[.int .i64 n, .int .i64 d] w fun e w' =>
      e = .returned (.tuple #[.agg #[.int .i64 (tN (inB (-1000000000000000000) 1000000000000000000 n && inB (-1000000000000000000) 1000000000000000000 d) n d), .int .i64 (tD (inB (-1000000000000000000) 1000000000000000000 n && inB (-1000000000000000000) 1000000000000000000 d) n d)],
        .bool (inB (-1000000000000000000) 1000000000000000000 n && inB (-1000000000000000000) 1000000000000000000 d && mok n d)]) ∧ Below w.heap.size w w' := by
  by_cases hr : (-1000000000000000000 ≤ n ∧ n ≤ 1000000000000000000) ∧ (-1000000000000000000 ≤ d ∧ d ≤ 1000000000000000000)
  · rw [inB_yes hr.1, inB_yes hr.2]
    simp only [tN, tD, Bool.true_and, if_true]
    obtain ⟨⟨h1, h2⟩, h3, h4⟩ := hr
    by_cases h0 : d = 0
    · subst h0
      simp only [rN, rD, mok_zero, Bool.false_eq_true, if_false]
      go_enter Try.func33, Try.ntmps33
      go_wp2_with fail
      all_goals exact bodyPost_ret (v := .tuple #[.agg #[.int .i64 0, .int .i64 0], .bool false]) (by simp [results, Try.results33, go_sem, *]) rfl ⟨rfl, (by repeat (first | exact Below.refl _ _ | assumption | refine Below.trans ?_ (Below.mono (by assumption) (by first | omega | (simp <;> omega))) | apply Below.drew | apply below_drewN | refine Below.alloc ?_ (by first | omega | (simp <;> omega)) _ | refine Below.setCell ?_ (by first | omega | (simp <;> omega)) _))⟩
    · have h5 : (d == 0) = false := by simpa using h0
      have hcl := fun W : World => reduceRat_any n d W (by omega) (by omega) (by omega) (by omega) h0
      generalize rN n d = x at *
      generalize rD n d = y at *
      generalize mok n d = z at *
      have HCL := hide hcl; clear hcl
      go_enter Try.func33, Try.ntmps33
      go_wp2_with ((go_at_call 58; refine ((unhide HCL) _).mono ?_; rintro e w1 ⟨rfl, hbw1⟩; obtain ⟨hcw1, hfw1⟩ := bcell hbw1; have hzw1 := hbw1.size; (try simp at hzw1); (try ((have kw1w0 := (bnew hbw1) (w.heap.size) ?pf); (case pf => (first | omega | (simp; done) | (simp; omega))); obtain ⟨kcw1w0, kfw1w0, klw1w0⟩ := kw1w0))))
      all_goals exact bodyPost_ret (v := .tuple #[.agg #[.int .i64 x, .int .i64 y], .bool z]) (by simp [results, Try.results33, go_sem, *]) rfl ⟨rfl, (by repeat (first | exact Below.refl _ _ | assumption | refine Below.trans ?_ (Below.mono (by assumption) (by first | omega | (simp <;> omega))) | apply Below.drew | apply below_drewN | refine Below.alloc ?_ (by first | omega | (simp <;> omega)) _ | refine Below.setCell ?_ (by first | omega | (simp <;> omega)) _))⟩
  · have e0 : (inB (-1000000000000000000) 1000000000000000000 n && inB (-1000000000000000000) 1000000000000000000 d) = false := by
      simp only [inB]; rw [← Bool.decide_and]; exact decide_eq_false hr
    simp only [e0, tN, tD, Bool.false_and, Bool.false_eq_true, if_false]
    clear e0
    go_enter Try.func33, Try.ntmps33
    go_wp2_with fail
    all_goals exact bodyPost_ret (v := .tuple #[.agg #[.int .i64 0, .int .i64 0], .bool false]) (by simp [results, Try.results33, go_sem]) rfl ⟨rfl, (by repeat (first | exact Below.refl _ _ | assumption | refine Below.trans ?_ (Below.mono (by assumption) (by first | omega | (simp <;> omega))) | apply Below.drew | apply below_drewN | refine Below.alloc ?_ (by first | omega | (simp <;> omega)) _ | refine Below.setCell ?_ (by first | omega | (simp <;> omega)) _))⟩

set_option maxHeartbeats 400000 in
theorem iCompareRats_any (a b c d : Int) (w : World) :
    Calls Try.prog 24 #[.agg #[.int .i64 a, .int .i64 b], .agg #[.int .i64 c, .int .i64 d]] w fun e w' =>
      e = .returned (.tuple #[.int .i64 (cmpR a b c d), .bool (two a b c d)]) ∧ Below w.heap.size w w' := by
  cases hg : good a b with
  | false =>
    have e0 : two a b c d = false := by simp [two, hg]
    simp only [e0, cmpR, Bool.false_eq_true, if_false]
    clear e0
    go_enter Try.func24, Try.ntmps24
    go_wp2_with ((go_at_call 26; refine (isRat_any _ _ _).mono ?_; rintro e w1 ⟨rfl, hbw1⟩; obtain ⟨hcw1, hfw1⟩ := bcell hbw1; have hzw1 := hbw1.size; (try simp at hzw1); (try ((have kw1w0 := (bnew hbw1) (w.heap.size) ?pf); (case pf => (first | omega | (simp; done) | (simp; omega))); obtain ⟨kcw1w0, kfw1w0, klw1w0⟩ := kw1w0)); (try ((have kw1w1 := (bnew hbw1) (w.heap.size + 1) ?pf); (case pf => (first | omega | (simp; done) | (simp; omega))); obtain ⟨kcw1w1, kfw1w1, klw1w1⟩ := kw1w1))))
    go_ret2
    exact ⟨rfl, (by repeat (first | exact Below.refl _ _ | assumption | refine Below.trans ?_ (Below.mono (by assumption) (by first | omega | (simp <;> omega))) | apply Below.drew | apply below_drewN | refine Below.alloc ?_ (by first | omega | (simp <;> omega)) _ | refine Below.setCell ?_ (by first | omega | (simp <;> omega)) _))⟩
  | true =>
    cases hg' : good c d with
    | false =>
      have e0 : two a b c d = false := by simp [two, hg']
      simp only [e0, cmpR, Bool.false_eq_true, if_false]
      clear e0
      go_enter Try.func24, Try.ntmps24
      go_wp2_with ((go_at_call 26; refine (isRat_any _ _ _).mono ?_; rintro e w1 ⟨rfl, hbw1⟩; obtain ⟨hcw1, hfw1⟩ := bcell hbw1; have hzw1 := hbw1.size; (try simp at hzw1); (try ((have kw1w0 := (bnew hbw1) (w.heap.size) ?pf); (case pf => (first | omega | (simp; done) | (simp; omega))); obtain ⟨kcw1w0, kfw1w0, klw1w0⟩ := kw1w0)); (try ((have kw1w1 := (bnew hbw1) (w.heap.size + 1) ?pf); (case pf => (first | omega | (simp; done) | (simp; omega))); obtain ⟨kcw1w1, kfw1w1, klw1w1⟩ := kw1w1))))
      go_ret2
      exact ⟨rfl, (by repeat (first | exact Below.refl _ _ | assumption | refine Below.trans ?_ (Below.mono (by assumption) (by first | omega | (simp <;> omega))) | apply Below.drew | apply below_drewN | refine Below.alloc ?_ (by first | omega | (simp <;> omega)) _ | refine Below.setCell ?_ (by first | omega | (simp <;> omega)) _))⟩
    | true =>
      obtain ⟨b1, b2, a1, a2, g1⟩ := good_iff.1 hg
      obtain ⟨d1, d2, c1, c2, g2⟩ := good_iff.1 hg'
      clear g1 g2
      have e0 : two a b c d = true := by simp [two, hg, hg']
      have es : cmpR a b c d = (a * d - c * b).sign := by simp [cmpR, e0]
      rw [e0, es]
      clear e0 es
      obtain ⟨e1, e2⟩ := prod_bd (a := a) (d := d) (by omega) (by omega) (by omega) (by omega)
      obtain ⟨e3, e4⟩ := prod_bd (a := c) (d := b) (by omega) (by omega) (by omega) (by omega)
      rcases Int.lt_trichotomy (a * d - c * b) 0 with ht | ht | ht
      · rw [Int.sign_eq_neg_one_of_neg ht]
        have ht' : a * d < c * b := by omega
        clear ht
        go_enter Try.func24, Try.ntmps24
        go_wp2_with ((go_at_call 26; refine (isRat_any _ _ _).mono ?_; rintro e w1 ⟨rfl, hbw1⟩; obtain ⟨hcw1, hfw1⟩ := bcell hbw1; have hzw1 := hbw1.size; (try simp at hzw1); (try ((have kw1w0 := (bnew hbw1) (w.heap.size) ?pf); (case pf => (first | omega | (simp; done) | (simp; omega))); obtain ⟨kcw1w0, kfw1w0, klw1w0⟩ := kw1w0)); (try ((have kw1w1 := (bnew hbw1) (w.heap.size + 1) ?pf); (case pf => (first | omega | (simp; done) | (simp; omega))); obtain ⟨kcw1w1, kfw1w1, klw1w1⟩ := kw1w1))))
        go_quiet (fail)
        go_wp2
        go_ret2
        exact ⟨rfl, (by repeat (first | exact Below.refl _ _ | assumption | refine Below.trans ?_ (Below.mono (by assumption) (by first | omega | (simp <;> omega))) | apply Below.drew | apply below_drewN | refine Below.alloc ?_ (by first | omega | (simp <;> omega)) _ | refine Below.setCell ?_ (by first | omega | (simp <;> omega)) _))⟩
      · rw [ht, Int.sign_zero]
        have ht' : ¬ a * d < c * b := by omega
        have ht'' : ¬ c * b < a * d := by omega
        clear ht
        go_enter Try.func24, Try.ntmps24
        go_wp2_with ((go_at_call 26; refine (isRat_any _ _ _).mono ?_; rintro e w1 ⟨rfl, hbw1⟩; obtain ⟨hcw1, hfw1⟩ := bcell hbw1; have hzw1 := hbw1.size; (try simp at hzw1); (try ((have kw1w0 := (bnew hbw1) (w.heap.size) ?pf); (case pf => (first | omega | (simp; done) | (simp; omega))); obtain ⟨kcw1w0, kfw1w0, klw1w0⟩ := kw1w0)); (try ((have kw1w1 := (bnew hbw1) (w.heap.size + 1) ?pf); (case pf => (first | omega | (simp; done) | (simp; omega))); obtain ⟨kcw1w1, kfw1w1, klw1w1⟩ := kw1w1))))
        go_quiet (fail)
        go_wp2
        go_ret2
        exact ⟨rfl, (by repeat (first | exact Below.refl _ _ | assumption | refine Below.trans ?_ (Below.mono (by assumption) (by first | omega | (simp <;> omega))) | apply Below.drew | apply below_drewN | refine Below.alloc ?_ (by first | omega | (simp <;> omega)) _ | refine Below.setCell ?_ (by first | omega | (simp <;> omega)) _))⟩
      · rw [Int.sign_eq_one_of_pos ht]
        have ht' : ¬ a * d < c * b := by omega
        have ht'' : c * b < a * d := by omega
        clear ht
        go_enter Try.func24, Try.ntmps24
        go_wp2_with ((go_at_call 26; refine (isRat_any _ _ _).mono ?_; rintro e w1 ⟨rfl, hbw1⟩; obtain ⟨hcw1, hfw1⟩ := bcell hbw1; have hzw1 := hbw1.size; (try simp at hzw1); (try ((have kw1w0 := (bnew hbw1) (w.heap.size) ?pf); (case pf => (first | omega | (simp; done) | (simp; omega))); obtain ⟨kcw1w0, kfw1w0, klw1w0⟩ := kw1w0)); (try ((have kw1w1 := (bnew hbw1) (w.heap.size + 1) ?pf); (case pf => (first | omega | (simp; done) | (simp; omega))); obtain ⟨kcw1w1, kfw1w1, klw1w1⟩ := kw1w1))))
        go_quiet (fail)
        go_wp2
        go_ret2
        exact ⟨rfl, (by repeat (first | exact Below.refl _ _ | assumption | refine Below.trans ?_ (Below.mono (by assumption) (by first | omega | (simp <;> omega))) | apply Below.drew | apply below_drewN | refine Below.alloc ?_ (by first | omega | (simp <;> omega)) _ | refine Below.setCell ?_ (by first | omega | (simp <;> omega)) _))⟩

set_option maxHeartbeats 400000 in
theorem floorQuotient_any (a b : Int) (w : World) (ha : -9223372036854775806 ≤ a) (ha' : a ≤ 9223372036854775806) (hb : 1 ≤ b) (hb' : b ≤ 9223372036854775807) :
    Calls Try.prog 60 #[.int .i64 a, .int .i64 b] w fun e w' => e = .returned (.int .i64 (a / b)) ∧ w = w' := by
  rw [tdiv_floor hb]
  obtain ⟨t1, t2⟩ := tdiv_bd hb 9223372036854775806 ha ha'
  by_cases hm : a.tmod b < 0
  · rw [if_pos hm]
    go_enter Try.func60, Try.ntmps60
    go_wp2
    go_ret
    exact ⟨rfl, rfl⟩
  · rw [if_neg hm]
    go_enter Try.func60, Try.ntmps60
    go_wp2
    go_ret
    exact ⟨rfl, rfl⟩

set_option maxHeartbeats 400000 in
theorem iFloorOf_any (a b : Int) (w : World) :
    Calls Try.prog 36 #[.agg #[.int .i64 a, .int .i64 b]] w fun e w' =>
      e = .returned (.tuple #[.int .i64 (if good a b then a / b else 0), .bool (good a b)]) ∧ Below w.heap.size w w' := by
  cases hg : good a b with
  | false =>
    simp only [Bool.false_eq_true, if_false]
    go_enter Try.func36, Try.ntmps36
    go_wp2_with ((go_at_call 26; refine (isRat_any _ _ _).mono ?_; rintro e w1 ⟨rfl, hbw1⟩; obtain ⟨hcw1, hfw1⟩ := bcell hbw1; have hzw1 := hbw1.size; (try simp at hzw1); (try ((have kw1w0 := (bnew hbw1) (w.heap.size) ?pf); (case pf => (first | omega | (simp; done) | (simp; omega))); obtain ⟨kcw1w0, kfw1w0, klw1w0⟩ := kw1w0))))
    go_ret2
    exact ⟨rfl, (by repeat (first | exact Below.refl _ _ | assumption | refine Below.trans ?_ (Below.mono (by assumption) (by first | omega | (simp <;> omega))) | apply Below.drew | apply below_drewN | refine Below.alloc ?_ (by first | omega | (simp <;> omega)) _ | refine Below.setCell ?_ (by first | omega | (simp <;> omega)) _))⟩
  | true =>
    simp only [if_true]
    obtain ⟨b1, b2, a1, a2, g1⟩ := good_iff.1 hg
    clear g1
    go_enter Try.func36, Try.ntmps36
    go_wp2_with (first | (go_at_call 26; refine (isRat_any _ _ _).mono ?_; rintro e w1 ⟨rfl, hbw1⟩; obtain ⟨hcw1, hfw1⟩ := bcell hbw1; have hzw1 := hbw1.size; (try simp at hzw1); (try ((have kw1w0 := (bnew hbw1) (w.heap.size) ?pf); (case pf => (first | omega | (simp; done) | (simp; omega))); obtain ⟨kcw1w0, kfw1w0, klw1w0⟩ := kw1w0))) | (go_at_call 60; refine (floorQuotient_any a b _ (by omega) (by omega) (by omega) (by omega)).mono ?_; rintro e w' ⟨rfl, rfl⟩))
    go_ret2
    exact ⟨rfl, (by repeat (first | exact Below.refl _ _ | assumption | refine Below.trans ?_ (Below.mono (by assumption) (by first | omega | (simp <;> omega))) | apply Below.drew | apply below_drewN | refine Below.alloc ?_ (by first | omega | (simp <;> omega)) _ | refine Below.setCell ?_ (by first | omega | (simp <;> omega)) _))⟩

set_option maxHeartbeats 400000 in
theorem iRoundDownTo_any (a b d : Int) (w : World) :
    Calls Try.prog 38 #[.agg #[.int .i64 a, .int .i64 b], .int .i64 d] w fun e w' =>
      e = .returned (.tuple #[.agg #[.int .i64 (tN (good a b && inB 1 1000000000 d) (a * d / b) d), .int .i64 (tD (good a b && inB 1 1000000000 d) (a * d / b) d)], .bool (good a b && inB 1 1000000000 d && mok (a * d / b) d)]) ∧ Below w.heap.size w w' := by
  cases hg : good a b with
  | false =>
    simp only [tN, tD, Bool.false_and, Bool.false_eq_true, if_false]
    go_enter Try.func38, Try.ntmps38
    go_wp2_with ((go_at_call 26; refine (isRat_any _ _ _).mono ?_; rintro e w1 ⟨rfl, hbw1⟩; obtain ⟨hcw1, hfw1⟩ := bcell hbw1; have hzw1 := hbw1.size; (try simp at hzw1); (try ((have kw1w0 := (bnew hbw1) (w.heap.size) ?pf); (case pf => (first | omega | (simp; done) | (simp; omega))); obtain ⟨kcw1w0, kfw1w0, klw1w0⟩ := kw1w0)); (try ((have kw1w1 := (bnew hbw1) (w.heap.size + 1) ?pf); (case pf => (first | omega | (simp; done) | (simp; omega))); obtain ⟨kcw1w1, kfw1w1, klw1w1⟩ := kw1w1))))
    exact bodyPost_ret (v := .tuple #[.agg #[.int .i64 0, .int .i64 0], .bool false]) (by simp [results, Try.results38, go_sem, *]) rfl ⟨rfl, (by repeat (first | exact Below.refl _ _ | assumption | refine Below.trans ?_ (Below.mono (by assumption) (by first | omega | (simp <;> omega))) | apply Below.drew | apply below_drewN | refine Below.alloc ?_ (by first | omega | (simp <;> omega)) _ | refine Below.setCell ?_ (by first | omega | (simp <;> omega)) _))⟩
  | true =>
    obtain ⟨b1, b2, a1, a2, g1⟩ := good_iff.1 hg
    clear g1
    by_cases hd : 1 ≤ d ∧ d ≤ 1000000000
    · rw [inB_yes hd]
      simp only [tN, tD, Bool.true_and, if_true]
      obtain ⟨d1, d2⟩ := hd
      obtain ⟨e1, e2⟩ := prod_bd (a := a) (d := d) (by omega) (by omega) (by omega) (by omega)
      have e3 := abs_ediv_le (a := a * d) b1 1000000000000000000 e1 e2
      obtain ⟨e3, e4⟩ := e3
      have hcl := fun W : World => reduceRat_any (a * d / b) d W (by omega) (by omega) (by omega) (by omega) (by omega)
      generalize rN (a * d / b) d = x at *
      generalize rD (a * d / b) d = y at *
      generalize mok (a * d / b) d = z at *
      have HCL := hide hcl; clear hcl
      go_enter Try.func38, Try.ntmps38
      go_wp2_with (first | (go_at_call 26; refine (isRat_any _ _ _).mono ?_; rintro e w1 ⟨rfl, hbw1⟩; obtain ⟨hcw1, hfw1⟩ := bcell hbw1; have hzw1 := hbw1.size; (try simp at hzw1); (try ((have kw1w0 := (bnew hbw1) (w.heap.size) ?pf); (case pf => (first | omega | (simp; done) | (simp; omega))); obtain ⟨kcw1w0, kfw1w0, klw1w0⟩ := kw1w0)); (try ((have kw1w1 := (bnew hbw1) (w.heap.size + 1) ?pf); (case pf => (first | omega | (simp; done) | (simp; omega))); obtain ⟨kcw1w1, kfw1w1, klw1w1⟩ := kw1w1))) | (go_at_call 60; refine (floorQuotient_any (a * d) b _ (by omega) (by omega) (by omega) (by omega)).mono ?_; rintro e w' ⟨rfl, rfl⟩) | (go_at_call 58; refine ((unhide HCL) _).mono ?_; rintro e w2 ⟨rfl, hbw2⟩; obtain ⟨hcw2, hfw2⟩ := bcell hbw2; have hzw2 := hbw2.size; (try simp at hzw2); (try ((have kw2w0 := (bnew hbw2) (w.heap.size) ?pf); (case pf => (first | omega | (simp; done) | (simp; omega))); obtain ⟨kcw2w0, kfw2w0, klw2w0⟩ := kw2w0)); (try ((have kw2w1 := (bnew hbw2) (w.heap.size + 1) ?pf); (case pf => (first | omega | (simp; done) | (simp; omega))); obtain ⟨kcw2w1, kfw2w1, klw2w1⟩ := kw2w1))))
      exact bodyPost_ret (v := .tuple #[.agg #[.int .i64 x, .int .i64 y], .bool z]) (by simp [results, Try.results38, go_sem, *]) rfl ⟨rfl, (by repeat (first | exact Below.refl _ _ | assumption | refine Below.trans ?_ (Below.mono (by assumption) (by first | omega | (simp <;> omega))) | apply Below.drew | apply below_drewN | refine Below.alloc ?_ (by first | omega | (simp <;> omega)) _ | refine Below.setCell ?_ (by first | omega | (simp <;> omega)) _))⟩
    · rw [inB_no hd]
      simp only [tN, tD, Bool.and_false, Bool.false_and, Bool.false_eq_true, if_false]
      go_enter Try.func38, Try.ntmps38
      go_wp2_with ((go_at_call 26; refine (isRat_any _ _ _).mono ?_; rintro e w1 ⟨rfl, hbw1⟩; obtain ⟨hcw1, hfw1⟩ := bcell hbw1; have hzw1 := hbw1.size; (try simp at hzw1); (try ((have kw1w0 := (bnew hbw1) (w.heap.size) ?pf); (case pf => (first | omega | (simp; done) | (simp; omega))); obtain ⟨kcw1w0, kfw1w0, klw1w0⟩ := kw1w0)); (try ((have kw1w1 := (bnew hbw1) (w.heap.size + 1) ?pf); (case pf => (first | omega | (simp; done) | (simp; omega))); obtain ⟨kcw1w1, kfw1w1, klw1w1⟩ := kw1w1))))
      all_goals exact bodyPost_ret (v := .tuple #[.agg #[.int .i64 0, .int .i64 0], .bool false]) (by simp [results, Try.results38, go_sem, *]) rfl ⟨rfl, (by repeat (first | exact Below.refl _ _ | assumption | refine Below.trans ?_ (Below.mono (by assumption) (by first | omega | (simp <;> omega))) | apply Below.drew | apply below_drewN | refine Below.alloc ?_ (by first | omega | (simp <;> omega)) _ | refine Below.setCell ?_ (by first | omega | (simp <;> omega)) _))⟩
end Go.Proofs.Ytipdgnemdpdheaa

/-
  Chapter 2: the small functions on a piece of a map, of the program and of the model: slopes, values on a line, the way back.
-/
import Derived.Test.YthccdooacbablabO
import Derived.Deep.DeepCutAuto
namespace Go.Proofs.Ythccdooacbablab
open Go.RowKit Rm

set_option maxRecDepth 100000 in
set_option maxHeartbeats 800000 in
theorem slopeOf_w (a b c d a' b' c' d' x y x' y' u v : Int) (k1 k2 k3 : Bool) (w : World)
    (h1 : ∀ W, Calls Try.prog 63 #[.agg #[.int .i64 (c'), .int .i64 (d')], .agg #[.int .i64 (c), .int .i64 (d)]] W fun e w' => e = .returned (.tuple #[.agg #[.int .i64 (x), .int .i64 (y)], .bool k1]) ∧ Below W.heap.size W w')
    (h2 : ∀ W, Calls Try.prog 63 #[.agg #[.int .i64 (a'), .int .i64 (b')], .agg #[.int .i64 (a), .int .i64 (b)]] W fun e w' => e = .returned (.tuple #[.agg #[.int .i64 (x'), .int .i64 (y')], .bool k2]) ∧ Below W.heap.size W w')
    (h3 : ∀ W, Calls Try.prog 70 #[.agg #[.int .i64 (x), .int .i64 (y)], .agg #[.int .i64 (x'), .int .i64 (y')]] W fun e w' => e = .returned (.tuple #[.agg #[.int .i64 (u), .int .i64 (v)], .bool k3]) ∧ Below W.heap.size W w') :
    Calls Try.prog 65 #[.agg #[.int .i64 (a), .int .i64 (b), .int .i64 (c), .int .i64 (d)], .agg #[.int .i64 (a'), .int .i64 (b'), .int .i64 (c'), .int .i64 (d')]] w fun e w' => e = .returned (.agg #[.int .i64 (u), .int .i64 (v)]) ∧ Below w.heap.size w w' := by
  have H1 := hide h1
  have H2 := hide h2
  have H3 := hide h3
  clear h1 h2 h3
  go_enter Try.func65, Try.ntmps65
  go_wp2_with (first | (go_at_call 63; have _t := hbw1; clear _t; (with_reducible refine ((unhide H2) _).mono ?_); rintro e w2 ⟨rfl, hbw2⟩; obtain ⟨hcw2, hfw2⟩ := bcell hbw2; have hzw2 := hbw2.size; (try simp at hzw2); (try ((have kw2w0 := (bnew hbw2) (w.heap.size) ?pf); (case pf => (first | omega | (simp; done) | (simp; omega))); obtain ⟨kcw2w0, kfw2w0, klw2w0⟩ := kw2w0)); (try ((have kw2w1 := (bnew hbw2) (w.heap.size + 1) ?pf); (case pf => (first | omega | (simp; done) | (simp; omega))); obtain ⟨kcw2w1, kfw2w1, klw2w1⟩ := kw2w1)); (try ((have kw2w2 := (bnew hbw2) (w.heap.size + 1 + 1) ?pf); (case pf => (first | omega | (simp; done) | (simp; omega))); obtain ⟨kcw2w2, kfw2w2, klw2w2⟩ := kw2w2)); (try ((have kw2w10 := (bnew hbw2) (w1.heap.size) ?pf); (case pf => (first | omega | (simp; done) | (simp; omega))); obtain ⟨kcw2w10, kfw2w10, klw2w10⟩ := kw2w10))) | (go_at_call 63; (with_reducible refine ((unhide H1) _).mono ?_); rintro e w1 ⟨rfl, hbw1⟩; obtain ⟨hcw1, hfw1⟩ := bcell hbw1; have hzw1 := hbw1.size; (try simp at hzw1); (try ((have kw1w0 := (bnew hbw1) (w.heap.size) ?pf); (case pf => (first | omega | (simp; done) | (simp; omega))); obtain ⟨kcw1w0, kfw1w0, klw1w0⟩ := kw1w0)); (try ((have kw1w1 := (bnew hbw1) (w.heap.size + 1) ?pf); (case pf => (first | omega | (simp; done) | (simp; omega))); obtain ⟨kcw1w1, kfw1w1, klw1w1⟩ := kw1w1)); (try ((have kw1w2 := (bnew hbw1) (w.heap.size + 1 + 1) ?pf); (case pf => (first | omega | (simp; done) | (simp; omega))); obtain ⟨kcw1w2, kfw1w2, klw1w2⟩ := kw1w2))) | (go_at_call 70; have _t := hbw1; clear _t; have _t := hbw2; clear _t; (with_reducible refine ((unhide H3) _).mono ?_); rintro e w3 ⟨rfl, hbw3⟩; obtain ⟨hcw3, hfw3⟩ := bcell hbw3; have hzw3 := hbw3.size; (try simp at hzw3); (try ((have kw3w0 := (bnew hbw3) (w.heap.size) ?pf); (case pf => (first | omega | (simp; done) | (simp; omega))); obtain ⟨kcw3w0, kfw3w0, klw3w0⟩ := kw3w0)); (try ((have kw3w1 := (bnew hbw3) (w.heap.size + 1) ?pf); (case pf => (first | omega | (simp; done) | (simp; omega))); obtain ⟨kcw3w1, kfw3w1, klw3w1⟩ := kw3w1)); (try ((have kw3w2 := (bnew hbw3) (w.heap.size + 1 + 1) ?pf); (case pf => (first | omega | (simp; done) | (simp; omega))); obtain ⟨kcw3w2, kfw3w2, klw3w2⟩ := kw3w2)); (try ((have kw3w10 := (bnew hbw3) (w1.heap.size) ?pf); (case pf => (first | omega | (simp; done) | (simp; omega))); obtain ⟨kcw3w10, kfw3w10, klw3w10⟩ := kw3w10)); (try ((have kw3w20 := (bnew hbw3) (w2.heap.size) ?pf); (case pf => (first | omega | (simp; done) | (simp; omega))); obtain ⟨kcw3w20, kfw3w20, klw3w20⟩ := kw3w20))))
  exact bodyPost_ret (v := .agg #[.int .i64 (u), .int .i64 (v)]) (by simp [results, Try.results65, go_sem, *]) rfl ⟨rfl, (by repeat (first | with_reducible exact Below.refl _ _ | with_reducible assumption | (with_reducible refine Below.trans ?_ (Below.mono (by assumption) (by first | omega | (simp <;> omega)))) | with_reducible apply Below.drew | with_reducible apply below_drewN | (with_reducible refine Below.alloc ?_ (by first | omega | (simp <;> omega)) _) | (with_reducible refine Below.setCell ?_ (by first | omega | (simp <;> omega)) _)))⟩
theorem slopeOf_q (p q : QP) (h1 : co p.1) (h2 : co p.2) (h3 : co q.1) (h4 : co q.2) (hlt : p.1 < q.1) (w : World) :
    Calls Try.prog 65 #[.agg #[.int .i64 (p.1.num), .int .i64 (p.1.den), .int .i64 (p.2.num), .int .i64 (p.2.den)], .agg #[.int .i64 (q.1.num), .int .i64 (q.1.den), .int .i64 (q.2.num), .int .i64 (q.2.den)]] w fun e w' => e = .returned (.agg #[.int .i64 ((slopeR p q).num), .int .i64 ((slopeR p q).den)]) ∧ Below w.heap.size w w' := by
  refine slopeOf_w _ _ _ _ _ _ _ _ (q.2 - p.2).num (q.2 - p.2).den (q.1 - p.1).num (q.1 - p.1).den _ _ true true true w (fun W => ?_) (fun W => ?_) (fun W => ?_)
  · have h := iSubtractRats_o (some q.2) (some p.2) (isR_some (co_fits h4)) (isR_some (co_fits h2)) W
    rw [osub_co h4 h2] at h
    exact h
  · have h := iSubtractRats_o (some q.1) (some p.1) (isR_some (co_fits h3)) (isR_some (co_fits h1)) W
    rw [osub_co h3 h1] at h
    exact h
  · have h := iDivideRats_o (some (q.2 - p.2)) (some (q.1 - p.1)) (isR_some (sub_fits h4 h2)) (isR_some (sub_fits h3 h1)) W
    rw [odiv_slope h1 h2 h3 h4 hlt] at h
    exact h

set_option maxRecDepth 100000 in
set_option maxHeartbeats 800000 in
theorem imSlope_w (a b c d a' b' c' d' x y x' y' u v : Int) (k1 k2 k3 : Bool) (w : World)
    (h1 : ∀ W, Calls Try.prog 49 #[.agg #[.int .i64 (c'), .int .i64 (d')], .agg #[.int .i64 (c), .int .i64 (d)]] W fun e w' => e = .returned (.tuple #[.agg #[.int .i64 (x), .int .i64 (y)], .bool k1]) ∧ Below W.heap.size W w')
    (h2 : ∀ W, Calls Try.prog 49 #[.agg #[.int .i64 (a'), .int .i64 (b')], .agg #[.int .i64 (a), .int .i64 (b)]] W fun e w' => e = .returned (.tuple #[.agg #[.int .i64 (x'), .int .i64 (y')], .bool k2]) ∧ Below W.heap.size W w')
    (h3 : ∀ W, Calls Try.prog 50 #[.agg #[.int .i64 (x), .int .i64 (y)], .agg #[.int .i64 (x'), .int .i64 (y')]] W fun e w' => e = .returned (.tuple #[.agg #[.int .i64 (u), .int .i64 (v)], .bool k3]) ∧ Below W.heap.size W w') :
    Calls Try.prog 40 #[.agg #[.int .i64 (a), .int .i64 (b), .int .i64 (c), .int .i64 (d)], .agg #[.int .i64 (a'), .int .i64 (b'), .int .i64 (c'), .int .i64 (d')]] w fun e w' => e = .returned (.agg #[.int .i64 (u), .int .i64 (v)]) ∧ Below w.heap.size w w' := by
  have H1 := hide h1
  have H2 := hide h2
  have H3 := hide h3
  clear h1 h2 h3
  go_enter Try.func40, Try.ntmps40
  go_wp2_with (first | (go_at_call 49; have _t := hbw1; clear _t; (with_reducible refine ((unhide H2) _).mono ?_); rintro e w2 ⟨rfl, hbw2⟩; obtain ⟨hcw2, hfw2⟩ := bcell hbw2; have hzw2 := hbw2.size; (try simp at hzw2); (try ((have kw2w0 := (bnew hbw2) (w.heap.size) ?pf); (case pf => (first | omega | (simp; done) | (simp; omega))); obtain ⟨kcw2w0, kfw2w0, klw2w0⟩ := kw2w0)); (try ((have kw2w1 := (bnew hbw2) (w.heap.size + 1) ?pf); (case pf => (first | omega | (simp; done) | (simp; omega))); obtain ⟨kcw2w1, kfw2w1, klw2w1⟩ := kw2w1)); (try ((have kw2w2 := (bnew hbw2) (w.heap.size + 1 + 1) ?pf); (case pf => (first | omega | (simp; done) | (simp; omega))); obtain ⟨kcw2w2, kfw2w2, klw2w2⟩ := kw2w2)); (try ((have kw2w10 := (bnew hbw2) (w1.heap.size) ?pf); (case pf => (first | omega | (simp; done) | (simp; omega))); obtain ⟨kcw2w10, kfw2w10, klw2w10⟩ := kw2w10))) | (go_at_call 49; (with_reducible refine ((unhide H1) _).mono ?_); rintro e w1 ⟨rfl, hbw1⟩; obtain ⟨hcw1, hfw1⟩ := bcell hbw1; have hzw1 := hbw1.size; (try simp at hzw1); (try ((have kw1w0 := (bnew hbw1) (w.heap.size) ?pf); (case pf => (first | omega | (simp; done) | (simp; omega))); obtain ⟨kcw1w0, kfw1w0, klw1w0⟩ := kw1w0)); (try ((have kw1w1 := (bnew hbw1) (w.heap.size + 1) ?pf); (case pf => (first | omega | (simp; done) | (simp; omega))); obtain ⟨kcw1w1, kfw1w1, klw1w1⟩ := kw1w1)); (try ((have kw1w2 := (bnew hbw1) (w.heap.size + 1 + 1) ?pf); (case pf => (first | omega | (simp; done) | (simp; omega))); obtain ⟨kcw1w2, kfw1w2, klw1w2⟩ := kw1w2))) | (go_at_call 50; have _t := hbw1; clear _t; have _t := hbw2; clear _t; (with_reducible refine ((unhide H3) _).mono ?_); rintro e w3 ⟨rfl, hbw3⟩; obtain ⟨hcw3, hfw3⟩ := bcell hbw3; have hzw3 := hbw3.size; (try simp at hzw3); (try ((have kw3w0 := (bnew hbw3) (w.heap.size) ?pf); (case pf => (first | omega | (simp; done) | (simp; omega))); obtain ⟨kcw3w0, kfw3w0, klw3w0⟩ := kw3w0)); (try ((have kw3w1 := (bnew hbw3) (w.heap.size + 1) ?pf); (case pf => (first | omega | (simp; done) | (simp; omega))); obtain ⟨kcw3w1, kfw3w1, klw3w1⟩ := kw3w1)); (try ((have kw3w2 := (bnew hbw3) (w.heap.size + 1 + 1) ?pf); (case pf => (first | omega | (simp; done) | (simp; omega))); obtain ⟨kcw3w2, kfw3w2, klw3w2⟩ := kw3w2)); (try ((have kw3w10 := (bnew hbw3) (w1.heap.size) ?pf); (case pf => (first | omega | (simp; done) | (simp; omega))); obtain ⟨kcw3w10, kfw3w10, klw3w10⟩ := kw3w10)); (try ((have kw3w20 := (bnew hbw3) (w2.heap.size) ?pf); (case pf => (first | omega | (simp; done) | (simp; omega))); obtain ⟨kcw3w20, kfw3w20, klw3w20⟩ := kw3w20))))
  exact bodyPost_ret (v := .agg #[.int .i64 (u), .int .i64 (v)]) (by simp [results, Try.results40, go_sem, *]) rfl ⟨rfl, (by repeat (first | with_reducible exact Below.refl _ _ | with_reducible assumption | (with_reducible refine Below.trans ?_ (Below.mono (by assumption) (by first | omega | (simp <;> omega)))) | with_reducible apply Below.drew | with_reducible apply below_drewN | (with_reducible refine Below.alloc ?_ (by first | omega | (simp <;> omega)) _) | (with_reducible refine Below.setCell ?_ (by first | omega | (simp <;> omega)) _)))⟩
theorem imSlope_q (p q : QP) (h1 : co p.1) (h2 : co p.2) (h3 : co q.1) (h4 : co q.2) (hlt : p.1 < q.1) (w : World) :
    Calls Try.prog 40 #[.agg #[.int .i64 (p.1.num), .int .i64 (p.1.den), .int .i64 (p.2.num), .int .i64 (p.2.den)], .agg #[.int .i64 (q.1.num), .int .i64 (q.1.den), .int .i64 (q.2.num), .int .i64 (q.2.den)]] w fun e w' => e = .returned (.agg #[.int .i64 ((slopeR p q).num), .int .i64 ((slopeR p q).den)]) ∧ Below w.heap.size w w' := by
  refine imSlope_w _ _ _ _ _ _ _ _ (q.2 - p.2).num (q.2 - p.2).den (q.1 - p.1).num (q.1 - p.1).den _ _ true true true w (fun W => ?_) (fun W => ?_) (fun W => ?_)
  · have h := raSub_o (some q.2) (some p.2) (isR_some (co_fits h4)) (isR_some (co_fits h2)) W
    rw [osub_co h4 h2] at h
    exact h
  · have h := raSub_o (some q.1) (some p.1) (isR_some (co_fits h3)) (isR_some (co_fits h1)) W
    rw [osub_co h3 h1] at h
    exact h
  · have h := raDiv_o (some (q.2 - p.2)) (some (q.1 - p.1)) (isR_some (sub_fits h4 h2)) (isR_some (sub_fits h3 h1)) W
    rw [odiv_slope h1 h2 h3 h4 hlt] at h
    exact h

set_option maxRecDepth 100000 in
set_option maxHeartbeats 1600000 in
theorem valueOnPiece_w (a b c d a' b' c' d' m n x y s t u v p q : Int) (k1 k2 k3 : Bool) (w : World)
    (h1 : ∀ W, Calls Try.prog 63 #[.agg #[.int .i64 (m), .int .i64 (n)], .agg #[.int .i64 (a), .int .i64 (b)]] W fun e w' => e = .returned (.tuple #[.agg #[.int .i64 (x), .int .i64 (y)], .bool k1]) ∧ Below W.heap.size W w')
    (h2 : ∀ W, Calls Try.prog 65 #[.agg #[.int .i64 (a), .int .i64 (b), .int .i64 (c), .int .i64 (d)], .agg #[.int .i64 (a'), .int .i64 (b'), .int .i64 (c'), .int .i64 (d')]] W fun e w' => e = .returned (.agg #[.int .i64 (s), .int .i64 (t)]) ∧ Below W.heap.size W w')
    (h3 : ∀ W, Calls Try.prog 64 #[.agg #[.int .i64 (s), .int .i64 (t)], .agg #[.int .i64 (x), .int .i64 (y)]] W fun e w' => e = .returned (.tuple #[.agg #[.int .i64 (u), .int .i64 (v)], .bool k2]) ∧ Below W.heap.size W w')
    (h4 : ∀ W, Calls Try.prog 66 #[.agg #[.int .i64 (c), .int .i64 (d)], .agg #[.int .i64 (u), .int .i64 (v)]] W fun e w' => e = .returned (.tuple #[.agg #[.int .i64 (p), .int .i64 (q)], .bool k3]) ∧ Below W.heap.size W w')
    (z1 : k1 = false → p = 0 ∧ q = 0 ∧ k3 = false) (z2 : k2 = false → p = 0 ∧ q = 0 ∧ k3 = false) :
    Calls Try.prog 61 #[.agg #[.int .i64 (a), .int .i64 (b), .int .i64 (c), .int .i64 (d)], .agg #[.int .i64 (a'), .int .i64 (b'), .int .i64 (c'), .int .i64 (d')], .agg #[.int .i64 (m), .int .i64 (n)]] w fun e w' => e = .returned (.tuple #[.agg #[.int .i64 (p), .int .i64 (q)], .bool k3]) ∧ Below w.heap.size w w' := by
  have H1 := hide h1
  have H2 := hide h2
  have H3 := hide h3
  have H4 := hide h4
  have Z1 := hide z1
  have Z2 := hide z2
  clear h1 h2 h3 h4 z1 z2
  go_enter Try.func61, Try.ntmps61
  go_upto_region 1 with fail
  go_cut [8, 9] (fun s8 s9 wx => s9 = .bool k1 ∧ ∃ g : Nat, s8 = .pointer (some ⟨g, 0, none⟩) ∧ Box2 ((((w.alloc (.cells #[.int .i64 a, .int .i64 b, .int .i64 c, .int .i64 d] 45)).alloc (.cells #[.int .i64 a', .int .i64 b', .int .i64 c', .int .i64 d'] 45)).alloc (.cells #[.int .i64 m, .int .i64 n] 31)).alloc (.cells #[.int .i64 0, .int .i64 0] 31)) wx g x y)
  case first =>
    go_wp2_with ((go_at_call 63; (with_reducible refine ((unhide H1) _).mono ?_); rintro e w1 ⟨rfl, hbw1⟩; obtain ⟨hcw1, hfw1⟩ := bcell hbw1; have hzw1 := hbw1.size; (try simp at hzw1); (try ((have kw1w0 := (bnew hbw1) (w.heap.size) ?pf); (case pf => (first | omega | (simp; done) | (simp; omega))); obtain ⟨kcw1w0, kfw1w0, klw1w0⟩ := kw1w0)); (try ((have kw1w1 := (bnew hbw1) (w.heap.size + 1) ?pf); (case pf => (first | omega | (simp; done) | (simp; omega))); obtain ⟨kcw1w1, kfw1w1, klw1w1⟩ := kw1w1)); (try ((have kw1w2 := (bnew hbw1) (w.heap.size + 1 + 1) ?pf); (case pf => (first | omega | (simp; done) | (simp; omega))); obtain ⟨kcw1w2, kfw1w2, klw1w2⟩ := kw1w2)); (try ((have kw1w3 := (bnew hbw1) (w.heap.size + 1 + 1 + 1) ?pf); (case pf => (first | omega | (simp; done) | (simp; omega))); obtain ⟨kcw1w3, kfw1w3, klw1w3⟩ := kw1w3))))
    go_meet
    refine ⟨rfl, _, rfl, ⟨(by repeat (first | with_reducible exact Below.refl _ _ | with_reducible assumption | (with_reducible refine Below.trans ?_ (Below.mono (by assumption) (by first | omega | (simp <;> omega)))) | with_reducible apply Below.drew | with_reducible apply below_drewN | (with_reducible refine Below.alloc ?_ (by first | omega | (simp <;> omega)) _) | (with_reducible refine Below.setCell ?_ (by first | omega | (simp <;> omega)) _))), ?_, ?_, ?_, ?_, ?_, ?_⟩⟩
    all_goals first | (go_simp; done) | (simp [go_sem, *]; done) | omega | (simp; omega)
  case rest =>
    obtain ⟨rfl, g, rfl, hB⟩ := hcut
    have hbwc := hB.below
    (skip; (try ((have kwcw0 := (bnew hbwc) (w.heap.size) ?pf); (case pf => (first | omega | (simp; done) | (simp; omega))); obtain ⟨kcwcw0, kfwcw0, klwcw0⟩ := kwcw0)); (try ((have kwcw1 := (bnew hbwc) (w.heap.size + 1) ?pf); (case pf => (first | omega | (simp; done) | (simp; omega))); obtain ⟨kcwcw1, kfwcw1, klwcw1⟩ := kwcw1)); (try ((have kwcw2 := (bnew hbwc) (w.heap.size + 1 + 1) ?pf); (case pf => (first | omega | (simp; done) | (simp; omega))); obtain ⟨kcwcw2, kfwcw2, klwcw2⟩ := kwcw2)); (try ((have kwcw3 := (bnew hbwc) (w.heap.size + 1 + 1 + 1) ?pf); (case pf => (first | omega | (simp; done) | (simp; omega))); obtain ⟨kcwcw3, kfwcw3, klwcw3⟩ := kwcw3)))
    have hzwc := hbwc.size
    simp at hzwc
    have hg0 := hB.c0
    have hg1 := hB.c1
    have hgl := hB.hi
    have hglo := hB.lo
    simp at hglo
    have HB := Lib.hid hB; clear hB
    have HBW := hide hbwc; clear hbwc
    go_upto_region 2 with fail
    go_cut [10, 11] (fun s10 s11 wx => s11 = .bool k2 ∧ ∃ g : Nat, s10 = .pointer (some ⟨g, 0, none⟩) ∧ Box2 wc wx g u v)
    case first =>
      go_region_held3 (fun w' => (w'.cell? ⟨w.heap.size, 0, none⟩ = some (.int .i64 a) ∧ w'.cell? ⟨w.heap.size, 1, none⟩ = some (.int .i64 b) ∧ w'.cell? ⟨w.heap.size, 2, none⟩ = some (.int .i64 c) ∧ w'.cell? ⟨w.heap.size, 3, none⟩ = some (.int .i64 d)) ∧
          (w'.cell? ⟨w.heap.size + 1, 0, none⟩ = some (.int .i64 a') ∧ w'.cell? ⟨w.heap.size + 1, 1, none⟩ = some (.int .i64 b') ∧ w'.cell? ⟨w.heap.size + 1, 2, none⟩ = some (.int .i64 c') ∧ w'.cell? ⟨w.heap.size + 1, 3, none⟩ = some (.int .i64 d')) ∧
          w'.cell? ⟨g, 0, none⟩ = some (.int .i64 x) ∧ w'.cell? ⟨g, 1, none⟩ = some (.int .i64 y)) (simp [go_sem, World.cell?_alloc_past, *])
        (first
          | (go_at_call 65; (with_reducible refine ((unhide H2) _).mono ?_); rintro e w1 ⟨rfl, hbw1⟩; obtain ⟨hcw1, hfw1⟩ := bcell hbw1; have hzw1 := hbw1.size; (try simp at hzw1); (try ((have kw1w0 := (bnew hbw1) (w.heap.size) ?pf); (case pf => (first | omega | (simp; done) | (simp; omega))); obtain ⟨kcw1w0, kfw1w0, klw1w0⟩ := kw1w0)); (try ((have kw1w1 := (bnew hbw1) (w.heap.size + 1) ?pf); (case pf => (first | omega | (simp; done) | (simp; omega))); obtain ⟨kcw1w1, kfw1w1, klw1w1⟩ := kw1w1)); (try ((have kw1w2 := (bnew hbw1) (w.heap.size + 1 + 1) ?pf); (case pf => (first | omega | (simp; done) | (simp; omega))); obtain ⟨kcw1w2, kfw1w2, klw1w2⟩ := kw1w2)); (try ((have kw1w3 := (bnew hbw1) (w.heap.size + 1 + 1 + 1) ?pf); (case pf => (first | omega | (simp; done) | (simp; omega))); obtain ⟨kcw1w3, kfw1w3, klw1w3⟩ := kw1w3)); (try ((have kw1gX0 := (bnew hbw1) (g) ?pf); (case pf => (first | omega | (simp; done) | (simp; omega))); obtain ⟨kcw1gX0, kfw1gX0, klw1gX0⟩ := kw1gX0)); (try ((have kw1wc0 := (bnew hbw1) (wc.heap.size) ?pf); (case pf => (first | omega | (simp; done) | (simp; omega))); obtain ⟨kcw1wc0, kfw1wc0, klw1wc0⟩ := kw1wc0)))
          | (go_at_call 64; (with_reducible refine ((unhide H3) _).mono ?_); rintro e w2 ⟨rfl, hbw2⟩; obtain ⟨hcw2, hfw2⟩ := bcell hbw2; have hzw2 := hbw2.size; (try simp at hzw2); (try ((have kw2w0 := (bnew hbw2) (w.heap.size) ?pf); (case pf => (first | omega | (simp; done) | (simp; omega))); obtain ⟨kcw2w0, kfw2w0, klw2w0⟩ := kw2w0)); (try ((have kw2w1 := (bnew hbw2) (w.heap.size + 1) ?pf); (case pf => (first | omega | (simp; done) | (simp; omega))); obtain ⟨kcw2w1, kfw2w1, klw2w1⟩ := kw2w1)); (try ((have kw2w2 := (bnew hbw2) (w.heap.size + 1 + 1) ?pf); (case pf => (first | omega | (simp; done) | (simp; omega))); obtain ⟨kcw2w2, kfw2w2, klw2w2⟩ := kw2w2)); (try ((have kw2w3 := (bnew hbw2) (w.heap.size + 1 + 1 + 1) ?pf); (case pf => (first | omega | (simp; done) | (simp; omega))); obtain ⟨kcw2w3, kfw2w3, klw2w3⟩ := kw2w3)); (try ((have kw2gX0 := (bnew hbw2) (g) ?pf); (case pf => (first | omega | (simp; done) | (simp; omega))); obtain ⟨kcw2gX0, kfw2gX0, klw2gX0⟩ := kw2gX0)); (try ((have kw2wc0 := (bnew hbw2) (wc.heap.size) ?pf); (case pf => (first | omega | (simp; done) | (simp; omega))); obtain ⟨kcw2wc0, kfw2wc0, klw2wc0⟩ := kw2wc0)); (try ((have kw2w10 := (bnew hbw2) (w1.heap.size) ?pf); (case pf => (first | omega | (simp; done) | (simp; omega))); obtain ⟨kcw2w10, kfw2w10, klw2w10⟩ := kw2w10))))
      all_goals
        go_wp2_with fail
        go_meet
        refine ⟨rfl, _, rfl, ⟨(by repeat (first | with_reducible exact Below.refl _ _ | with_reducible assumption | (with_reducible refine Below.trans ?_ (Below.mono (by assumption) (by first | omega | (simp <;> omega)))) | with_reducible apply Below.drew | with_reducible apply below_drewN | (with_reducible refine Below.alloc ?_ (by first | omega | (simp <;> omega)) _) | (with_reducible refine Below.setCell ?_ (by first | omega | (simp <;> omega)) _))), ?_, ?_, ?_, ?_, ?_, ?_⟩⟩
      all_goals first | (go_simp; done) | (simp [go_sem, *]; done) | omega | (simp; omega)
    case rest =>
      obtain ⟨rfl, g2, rfl, hB2⟩ := hcut
      have hbwd := (unhide HBW).trans (hB2.below.mono (unhide HBW).size)
      (skip; (try ((have kwdw0 := (bnew hbwd) (w.heap.size) ?pf); (case pf => (first | omega | (simp; done) | (simp; omega))); obtain ⟨kcwdw0, kfwdw0, klwdw0⟩ := kwdw0)); (try ((have kwdw1 := (bnew hbwd) (w.heap.size + 1) ?pf); (case pf => (first | omega | (simp; done) | (simp; omega))); obtain ⟨kcwdw1, kfwdw1, klwdw1⟩ := kwdw1)); (try ((have kwdw2 := (bnew hbwd) (w.heap.size + 1 + 1) ?pf); (case pf => (first | omega | (simp; done) | (simp; omega))); obtain ⟨kcwdw2, kfwdw2, klwdw2⟩ := kwdw2)); (try ((have kwdw3 := (bnew hbwd) (w.heap.size + 1 + 1 + 1) ?pf); (case pf => (first | omega | (simp; done) | (simp; omega))); obtain ⟨kcwdw3, kfwdw3, klwdw3⟩ := kwdw3)))
      have hzwd := hbwd.size
      simp at hzwd
      have hc2 := hB2.c0
      have hd2 := hB2.c1
      have hgl2 := hB2.hi
      have hglo2 := hB2.lo
      have HB2 := Lib.hid hB2; clear hB2
      go_wp2_with ((go_at_call 66; (with_reducible refine ((unhide H4) _).mono ?_); rintro e w3 ⟨rfl, hbw3⟩; obtain ⟨hcw3, hfw3⟩ := bcell hbw3; have hzw3 := hbw3.size; (try simp at hzw3); (try ((have kw3w0 := (bnew hbw3) (w.heap.size) ?pf); (case pf => (first | omega | (simp; done) | (simp; omega))); obtain ⟨kcw3w0, kfw3w0, klw3w0⟩ := kw3w0)); (try ((have kw3w1 := (bnew hbw3) (w.heap.size + 1) ?pf); (case pf => (first | omega | (simp; done) | (simp; omega))); obtain ⟨kcw3w1, kfw3w1, klw3w1⟩ := kw3w1)); (try ((have kw3w2 := (bnew hbw3) (w.heap.size + 1 + 1) ?pf); (case pf => (first | omega | (simp; done) | (simp; omega))); obtain ⟨kcw3w2, kfw3w2, klw3w2⟩ := kw3w2)); (try ((have kw3w3 := (bnew hbw3) (w.heap.size + 1 + 1 + 1) ?pf); (case pf => (first | omega | (simp; done) | (simp; omega))); obtain ⟨kcw3w3, kfw3w3, klw3w3⟩ := kw3w3)); (try ((have kw3g2X0 := (bnew hbw3) (g2) ?pf); (case pf => (first | omega | (simp; done) | (simp; omega))); obtain ⟨kcw3g2X0, kfw3g2X0, klw3g2X0⟩ := kw3g2X0))))
      exact bodyPost_ret (v := .tuple #[.agg #[.int .i64 (p), .int .i64 (q)], .bool k3]) (by simp [results, Try.results61, go_sem, *]) rfl ⟨rfl, (by repeat (first | with_reducible exact Below.refl _ _ | with_reducible assumption | (with_reducible refine Below.trans ?_ (Below.mono (by assumption) (by first | omega | (simp <;> omega)))) | with_reducible apply Below.drew | with_reducible apply below_drewN | (with_reducible refine Below.alloc ?_ (by first | omega | (simp <;> omega)) _) | (with_reducible refine Below.setCell ?_ (by first | omega | (simp <;> omega)) _)))⟩

set_option maxRecDepth 100000 in
set_option maxHeartbeats 1600000 in
theorem imOn_w (a b c d a' b' c' d' m n x y s t u v p q : Int) (k1 k2 k3 : Bool) (w : World)
    (h1 : ∀ W, Calls Try.prog 49 #[.agg #[.int .i64 (m), .int .i64 (n)], .agg #[.int .i64 (a), .int .i64 (b)]] W fun e w' => e = .returned (.tuple #[.agg #[.int .i64 (x), .int .i64 (y)], .bool k1]) ∧ Below W.heap.size W w')
    (h2 : ∀ W, Calls Try.prog 40 #[.agg #[.int .i64 (a), .int .i64 (b), .int .i64 (c), .int .i64 (d)], .agg #[.int .i64 (a'), .int .i64 (b'), .int .i64 (c'), .int .i64 (d')]] W fun e w' => e = .returned (.agg #[.int .i64 (s), .int .i64 (t)]) ∧ Below W.heap.size W w')
    (h3 : ∀ W, Calls Try.prog 52 #[.agg #[.int .i64 (x), .int .i64 (y)], .agg #[.int .i64 (s), .int .i64 (t)]] W fun e w' => e = .returned (.tuple #[.agg #[.int .i64 (u), .int .i64 (v)], .bool k2]) ∧ Below W.heap.size W w')
    (h4 : ∀ W, Calls Try.prog 53 #[.agg #[.int .i64 (c), .int .i64 (d)], .agg #[.int .i64 (u), .int .i64 (v)]] W fun e w' => e = .returned (.tuple #[.agg #[.int .i64 (p), .int .i64 (q)], .bool k3]) ∧ Below W.heap.size W w')
    (z1 : k1 = false → p = 0 ∧ q = 0 ∧ k3 = false) (z2 : k2 = false → p = 0 ∧ q = 0 ∧ k3 = false) :
    Calls Try.prog 44 #[.agg #[.int .i64 (a), .int .i64 (b), .int .i64 (c), .int .i64 (d)], .agg #[.int .i64 (a'), .int .i64 (b'), .int .i64 (c'), .int .i64 (d')], .agg #[.int .i64 (m), .int .i64 (n)]] w fun e w' => e = .returned (.tuple #[.agg #[.int .i64 (p), .int .i64 (q)], .bool k3]) ∧ Below w.heap.size w w' := by
  have H1 := hide h1
  have H2 := hide h2
  have H3 := hide h3
  have H4 := hide h4
  have Z1 := hide z1
  have Z2 := hide z2
  clear h1 h2 h3 h4 z1 z2
  cases k1
  · obtain ⟨rfl, rfl, rfl⟩ := (unhide Z1) rfl
    cases k2
    · skip
      go_enter Try.func44, Try.ntmps44
      go_upto_region 1 with fail
      go_cut [8, 9] (fun s8 s9 wx => s9 = .bool false ∧ ∃ g : Nat, s8 = .pointer (some ⟨g, 0, none⟩) ∧ Box2 ((((w.alloc (.cells #[.int .i64 a, .int .i64 b, .int .i64 c, .int .i64 d] 45)).alloc (.cells #[.int .i64 a', .int .i64 b', .int .i64 c', .int .i64 d'] 45)).alloc (.cells #[.int .i64 m, .int .i64 n] 31)).alloc (.cells #[.int .i64 0, .int .i64 0] 31)) wx g x y)
      case first =>
        go_wp2_with ((go_at_call 49; (with_reducible refine ((unhide H1) _).mono ?_); rintro e w1 ⟨rfl, hbw1⟩; obtain ⟨hcw1, hfw1⟩ := bcell hbw1; have hzw1 := hbw1.size; (try simp at hzw1); (try ((have kw1w0 := (bnew hbw1) (w.heap.size) ?pf); (case pf => (first | omega | (simp; done) | (simp; omega))); obtain ⟨kcw1w0, kfw1w0, klw1w0⟩ := kw1w0)); (try ((have kw1w1 := (bnew hbw1) (w.heap.size + 1) ?pf); (case pf => (first | omega | (simp; done) | (simp; omega))); obtain ⟨kcw1w1, kfw1w1, klw1w1⟩ := kw1w1)); (try ((have kw1w2 := (bnew hbw1) (w.heap.size + 1 + 1) ?pf); (case pf => (first | omega | (simp; done) | (simp; omega))); obtain ⟨kcw1w2, kfw1w2, klw1w2⟩ := kw1w2)); (try ((have kw1w3 := (bnew hbw1) (w.heap.size + 1 + 1 + 1) ?pf); (case pf => (first | omega | (simp; done) | (simp; omega))); obtain ⟨kcw1w3, kfw1w3, klw1w3⟩ := kw1w3))))
        go_meet
        refine ⟨rfl, _, rfl, ⟨(by repeat (first | with_reducible exact Below.refl _ _ | with_reducible assumption | (with_reducible refine Below.trans ?_ (Below.mono (by assumption) (by first | omega | (simp <;> omega)))) | with_reducible apply Below.drew | with_reducible apply below_drewN | (with_reducible refine Below.alloc ?_ (by first | omega | (simp <;> omega)) _) | (with_reducible refine Below.setCell ?_ (by first | omega | (simp <;> omega)) _))), ?_, ?_, ?_, ?_, ?_, ?_⟩⟩
        all_goals first | (go_simp; done) | (simp [go_sem, *]; done) | omega | (simp; omega)
      case rest =>
        obtain ⟨rfl, g, rfl, hB⟩ := hcut
        have hbwc := hB.below
        (skip; (try ((have kwcw0 := (bnew hbwc) (w.heap.size) ?pf); (case pf => (first | omega | (simp; done) | (simp; omega))); obtain ⟨kcwcw0, kfwcw0, klwcw0⟩ := kwcw0)); (try ((have kwcw1 := (bnew hbwc) (w.heap.size + 1) ?pf); (case pf => (first | omega | (simp; done) | (simp; omega))); obtain ⟨kcwcw1, kfwcw1, klwcw1⟩ := kwcw1)); (try ((have kwcw2 := (bnew hbwc) (w.heap.size + 1 + 1) ?pf); (case pf => (first | omega | (simp; done) | (simp; omega))); obtain ⟨kcwcw2, kfwcw2, klwcw2⟩ := kwcw2)); (try ((have kwcw3 := (bnew hbwc) (w.heap.size + 1 + 1 + 1) ?pf); (case pf => (first | omega | (simp; done) | (simp; omega))); obtain ⟨kcwcw3, kfwcw3, klwcw3⟩ := kwcw3)))
        have hzwc := hbwc.size
        simp at hzwc
        have hg0 := hB.c0
        have hg1 := hB.c1
        have hgl := hB.hi
        have hglo := hB.lo
        simp at hglo
        have HB := Lib.hid hB; clear hB
        have HBW := hide hbwc; clear hbwc
        go_upto_region 2 with fail
        go_cut [10, 11] (fun s10 s11 wx => s11 = .bool false ∧ ∃ g : Nat, s10 = .pointer (some ⟨g, 0, none⟩) ∧ Box2 wc wx g u v)
        case first =>
          go_region_held3 (fun w' => (w'.cell? ⟨w.heap.size, 0, none⟩ = some (.int .i64 a) ∧ w'.cell? ⟨w.heap.size, 1, none⟩ = some (.int .i64 b) ∧ w'.cell? ⟨w.heap.size, 2, none⟩ = some (.int .i64 c) ∧ w'.cell? ⟨w.heap.size, 3, none⟩ = some (.int .i64 d)) ∧
              (w'.cell? ⟨w.heap.size + 1, 0, none⟩ = some (.int .i64 a') ∧ w'.cell? ⟨w.heap.size + 1, 1, none⟩ = some (.int .i64 b') ∧ w'.cell? ⟨w.heap.size + 1, 2, none⟩ = some (.int .i64 c') ∧ w'.cell? ⟨w.heap.size + 1, 3, none⟩ = some (.int .i64 d')) ∧
              w'.cell? ⟨g, 0, none⟩ = some (.int .i64 x) ∧ w'.cell? ⟨g, 1, none⟩ = some (.int .i64 y)) (simp [go_sem, World.cell?_alloc_past, *])
            (first
              | (go_at_call 40; (with_reducible refine ((unhide H2) _).mono ?_); rintro e w1 ⟨rfl, hbw1⟩; obtain ⟨hcw1, hfw1⟩ := bcell hbw1; have hzw1 := hbw1.size; (try simp at hzw1); (try ((have kw1w0 := (bnew hbw1) (w.heap.size) ?pf); (case pf => (first | omega | (simp; done) | (simp; omega))); obtain ⟨kcw1w0, kfw1w0, klw1w0⟩ := kw1w0)); (try ((have kw1w1 := (bnew hbw1) (w.heap.size + 1) ?pf); (case pf => (first | omega | (simp; done) | (simp; omega))); obtain ⟨kcw1w1, kfw1w1, klw1w1⟩ := kw1w1)); (try ((have kw1w2 := (bnew hbw1) (w.heap.size + 1 + 1) ?pf); (case pf => (first | omega | (simp; done) | (simp; omega))); obtain ⟨kcw1w2, kfw1w2, klw1w2⟩ := kw1w2)); (try ((have kw1w3 := (bnew hbw1) (w.heap.size + 1 + 1 + 1) ?pf); (case pf => (first | omega | (simp; done) | (simp; omega))); obtain ⟨kcw1w3, kfw1w3, klw1w3⟩ := kw1w3)); (try ((have kw1gX0 := (bnew hbw1) (g) ?pf); (case pf => (first | omega | (simp; done) | (simp; omega))); obtain ⟨kcw1gX0, kfw1gX0, klw1gX0⟩ := kw1gX0)); (try ((have kw1wc0 := (bnew hbw1) (wc.heap.size) ?pf); (case pf => (first | omega | (simp; done) | (simp; omega))); obtain ⟨kcw1wc0, kfw1wc0, klw1wc0⟩ := kw1wc0)))
              | (go_at_call 52; (with_reducible refine ((unhide H3) _).mono ?_); rintro e w2 ⟨rfl, hbw2⟩; obtain ⟨hcw2, hfw2⟩ := bcell hbw2; have hzw2 := hbw2.size; (try simp at hzw2); (try ((have kw2w0 := (bnew hbw2) (w.heap.size) ?pf); (case pf => (first | omega | (simp; done) | (simp; omega))); obtain ⟨kcw2w0, kfw2w0, klw2w0⟩ := kw2w0)); (try ((have kw2w1 := (bnew hbw2) (w.heap.size + 1) ?pf); (case pf => (first | omega | (simp; done) | (simp; omega))); obtain ⟨kcw2w1, kfw2w1, klw2w1⟩ := kw2w1)); (try ((have kw2w2 := (bnew hbw2) (w.heap.size + 1 + 1) ?pf); (case pf => (first | omega | (simp; done) | (simp; omega))); obtain ⟨kcw2w2, kfw2w2, klw2w2⟩ := kw2w2)); (try ((have kw2w3 := (bnew hbw2) (w.heap.size + 1 + 1 + 1) ?pf); (case pf => (first | omega | (simp; done) | (simp; omega))); obtain ⟨kcw2w3, kfw2w3, klw2w3⟩ := kw2w3)); (try ((have kw2gX0 := (bnew hbw2) (g) ?pf); (case pf => (first | omega | (simp; done) | (simp; omega))); obtain ⟨kcw2gX0, kfw2gX0, klw2gX0⟩ := kw2gX0)); (try ((have kw2wc0 := (bnew hbw2) (wc.heap.size) ?pf); (case pf => (first | omega | (simp; done) | (simp; omega))); obtain ⟨kcw2wc0, kfw2wc0, klw2wc0⟩ := kw2wc0)); (try ((have kw2w10 := (bnew hbw2) (w1.heap.size) ?pf); (case pf => (first | omega | (simp; done) | (simp; omega))); obtain ⟨kcw2w10, kfw2w10, klw2w10⟩ := kw2w10))))
          all_goals
            go_wp2_with fail
            go_meet
            refine ⟨rfl, _, rfl, ⟨(by repeat (first | with_reducible exact Below.refl _ _ | with_reducible assumption | (with_reducible refine Below.trans ?_ (Below.mono (by assumption) (by first | omega | (simp <;> omega)))) | with_reducible apply Below.drew | with_reducible apply below_drewN | (with_reducible refine Below.alloc ?_ (by first | omega | (simp <;> omega)) _) | (with_reducible refine Below.setCell ?_ (by first | omega | (simp <;> omega)) _))), ?_, ?_, ?_, ?_, ?_, ?_⟩⟩
          all_goals first | (go_simp; done) | (simp [go_sem, *]; done) | omega | (simp; omega)
        case rest =>
          obtain ⟨rfl, g2, rfl, hB2⟩ := hcut
          have hbwd := (unhide HBW).trans (hB2.below.mono (unhide HBW).size)
          (skip; (try ((have kwdw0 := (bnew hbwd) (w.heap.size) ?pf); (case pf => (first | omega | (simp; done) | (simp; omega))); obtain ⟨kcwdw0, kfwdw0, klwdw0⟩ := kwdw0)); (try ((have kwdw1 := (bnew hbwd) (w.heap.size + 1) ?pf); (case pf => (first | omega | (simp; done) | (simp; omega))); obtain ⟨kcwdw1, kfwdw1, klwdw1⟩ := kwdw1)); (try ((have kwdw2 := (bnew hbwd) (w.heap.size + 1 + 1) ?pf); (case pf => (first | omega | (simp; done) | (simp; omega))); obtain ⟨kcwdw2, kfwdw2, klwdw2⟩ := kwdw2)); (try ((have kwdw3 := (bnew hbwd) (w.heap.size + 1 + 1 + 1) ?pf); (case pf => (first | omega | (simp; done) | (simp; omega))); obtain ⟨kcwdw3, kfwdw3, klwdw3⟩ := kwdw3)))
          have hzwd := hbwd.size
          simp at hzwd
          have hc2 := hB2.c0
          have hd2 := hB2.c1
          have hgl2 := hB2.hi
          have hglo2 := hB2.lo
          have HB2 := Lib.hid hB2; clear hB2
          go_wp2_with fail
          exact bodyPost_ret (v := .tuple #[.agg #[.int .i64 (0), .int .i64 (0)], .bool false]) (by simp [results, Try.results44, go_sem, *]) rfl ⟨rfl, (by repeat (first | with_reducible exact Below.refl _ _ | with_reducible assumption | (with_reducible refine Below.trans ?_ (Below.mono (by assumption) (by first | omega | (simp <;> omega)))) | with_reducible apply Below.drew | with_reducible apply below_drewN | (with_reducible refine Below.alloc ?_ (by first | omega | (simp <;> omega)) _) | (with_reducible refine Below.setCell ?_ (by first | omega | (simp <;> omega)) _)))⟩
    · skip
      go_enter Try.func44, Try.ntmps44
      go_upto_region 1 with fail
      go_cut [8, 9] (fun s8 s9 wx => s9 = .bool false ∧ ∃ g : Nat, s8 = .pointer (some ⟨g, 0, none⟩) ∧ Box2 ((((w.alloc (.cells #[.int .i64 a, .int .i64 b, .int .i64 c, .int .i64 d] 45)).alloc (.cells #[.int .i64 a', .int .i64 b', .int .i64 c', .int .i64 d'] 45)).alloc (.cells #[.int .i64 m, .int .i64 n] 31)).alloc (.cells #[.int .i64 0, .int .i64 0] 31)) wx g x y)
      case first =>
        go_wp2_with ((go_at_call 49; (with_reducible refine ((unhide H1) _).mono ?_); rintro e w1 ⟨rfl, hbw1⟩; obtain ⟨hcw1, hfw1⟩ := bcell hbw1; have hzw1 := hbw1.size; (try simp at hzw1); (try ((have kw1w0 := (bnew hbw1) (w.heap.size) ?pf); (case pf => (first | omega | (simp; done) | (simp; omega))); obtain ⟨kcw1w0, kfw1w0, klw1w0⟩ := kw1w0)); (try ((have kw1w1 := (bnew hbw1) (w.heap.size + 1) ?pf); (case pf => (first | omega | (simp; done) | (simp; omega))); obtain ⟨kcw1w1, kfw1w1, klw1w1⟩ := kw1w1)); (try ((have kw1w2 := (bnew hbw1) (w.heap.size + 1 + 1) ?pf); (case pf => (first | omega | (simp; done) | (simp; omega))); obtain ⟨kcw1w2, kfw1w2, klw1w2⟩ := kw1w2)); (try ((have kw1w3 := (bnew hbw1) (w.heap.size + 1 + 1 + 1) ?pf); (case pf => (first | omega | (simp; done) | (simp; omega))); obtain ⟨kcw1w3, kfw1w3, klw1w3⟩ := kw1w3))))
        go_meet
        refine ⟨rfl, _, rfl, ⟨(by repeat (first | with_reducible exact Below.refl _ _ | with_reducible assumption | (with_reducible refine Below.trans ?_ (Below.mono (by assumption) (by first | omega | (simp <;> omega)))) | with_reducible apply Below.drew | with_reducible apply below_drewN | (with_reducible refine Below.alloc ?_ (by first | omega | (simp <;> omega)) _) | (with_reducible refine Below.setCell ?_ (by first | omega | (simp <;> omega)) _))), ?_, ?_, ?_, ?_, ?_, ?_⟩⟩
        all_goals first | (go_simp; done) | (simp [go_sem, *]; done) | omega | (simp; omega)
      case rest =>
        obtain ⟨rfl, g, rfl, hB⟩ := hcut
        have hbwc := hB.below
        (skip; (try ((have kwcw0 := (bnew hbwc) (w.heap.size) ?pf); (case pf => (first | omega | (simp; done) | (simp; omega))); obtain ⟨kcwcw0, kfwcw0, klwcw0⟩ := kwcw0)); (try ((have kwcw1 := (bnew hbwc) (w.heap.size + 1) ?pf); (case pf => (first | omega | (simp; done) | (simp; omega))); obtain ⟨kcwcw1, kfwcw1, klwcw1⟩ := kwcw1)); (try ((have kwcw2 := (bnew hbwc) (w.heap.size + 1 + 1) ?pf); (case pf => (first | omega | (simp; done) | (simp; omega))); obtain ⟨kcwcw2, kfwcw2, klwcw2⟩ := kwcw2)); (try ((have kwcw3 := (bnew hbwc) (w.heap.size + 1 + 1 + 1) ?pf); (case pf => (first | omega | (simp; done) | (simp; omega))); obtain ⟨kcwcw3, kfwcw3, klwcw3⟩ := kwcw3)))
        have hzwc := hbwc.size
        simp at hzwc
        have hg0 := hB.c0
        have hg1 := hB.c1
        have hgl := hB.hi
        have hglo := hB.lo
        simp at hglo
        have HB := Lib.hid hB; clear hB
        have HBW := hide hbwc; clear hbwc
        go_upto_region 2 with fail
        go_cut [10, 11] (fun s10 s11 wx => s11 = .bool true ∧ ∃ g : Nat, s10 = .pointer (some ⟨g, 0, none⟩) ∧ Box2 wc wx g u v)
        case first =>
          go_region_held3 (fun w' => (w'.cell? ⟨w.heap.size, 0, none⟩ = some (.int .i64 a) ∧ w'.cell? ⟨w.heap.size, 1, none⟩ = some (.int .i64 b) ∧ w'.cell? ⟨w.heap.size, 2, none⟩ = some (.int .i64 c) ∧ w'.cell? ⟨w.heap.size, 3, none⟩ = some (.int .i64 d)) ∧
              (w'.cell? ⟨w.heap.size + 1, 0, none⟩ = some (.int .i64 a') ∧ w'.cell? ⟨w.heap.size + 1, 1, none⟩ = some (.int .i64 b') ∧ w'.cell? ⟨w.heap.size + 1, 2, none⟩ = some (.int .i64 c') ∧ w'.cell? ⟨w.heap.size + 1, 3, none⟩ = some (.int .i64 d')) ∧
              w'.cell? ⟨g, 0, none⟩ = some (.int .i64 x) ∧ w'.cell? ⟨g, 1, none⟩ = some (.int .i64 y)) (simp [go_sem, World.cell?_alloc_past, *])
            (first
              | (go_at_call 40; (with_reducible refine ((unhide H2) _).mono ?_); rintro e w1 ⟨rfl, hbw1⟩; obtain ⟨hcw1, hfw1⟩ := bcell hbw1; have hzw1 := hbw1.size; (try simp at hzw1); (try ((have kw1w0 := (bnew hbw1) (w.heap.size) ?pf); (case pf => (first | omega | (simp; done) | (simp; omega))); obtain ⟨kcw1w0, kfw1w0, klw1w0⟩ := kw1w0)); (try ((have kw1w1 := (bnew hbw1) (w.heap.size + 1) ?pf); (case pf => (first | omega | (simp; done) | (simp; omega))); obtain ⟨kcw1w1, kfw1w1, klw1w1⟩ := kw1w1)); (try ((have kw1w2 := (bnew hbw1) (w.heap.size + 1 + 1) ?pf); (case pf => (first | omega | (simp; done) | (simp; omega))); obtain ⟨kcw1w2, kfw1w2, klw1w2⟩ := kw1w2)); (try ((have kw1w3 := (bnew hbw1) (w.heap.size + 1 + 1 + 1) ?pf); (case pf => (first | omega | (simp; done) | (simp; omega))); obtain ⟨kcw1w3, kfw1w3, klw1w3⟩ := kw1w3)); (try ((have kw1gX0 := (bnew hbw1) (g) ?pf); (case pf => (first | omega | (simp; done) | (simp; omega))); obtain ⟨kcw1gX0, kfw1gX0, klw1gX0⟩ := kw1gX0)); (try ((have kw1wc0 := (bnew hbw1) (wc.heap.size) ?pf); (case pf => (first | omega | (simp; done) | (simp; omega))); obtain ⟨kcw1wc0, kfw1wc0, klw1wc0⟩ := kw1wc0)))
              | (go_at_call 52; (with_reducible refine ((unhide H3) _).mono ?_); rintro e w2 ⟨rfl, hbw2⟩; obtain ⟨hcw2, hfw2⟩ := bcell hbw2; have hzw2 := hbw2.size; (try simp at hzw2); (try ((have kw2w0 := (bnew hbw2) (w.heap.size) ?pf); (case pf => (first | omega | (simp; done) | (simp; omega))); obtain ⟨kcw2w0, kfw2w0, klw2w0⟩ := kw2w0)); (try ((have kw2w1 := (bnew hbw2) (w.heap.size + 1) ?pf); (case pf => (first | omega | (simp; done) | (simp; omega))); obtain ⟨kcw2w1, kfw2w1, klw2w1⟩ := kw2w1)); (try ((have kw2w2 := (bnew hbw2) (w.heap.size + 1 + 1) ?pf); (case pf => (first | omega | (simp; done) | (simp; omega))); obtain ⟨kcw2w2, kfw2w2, klw2w2⟩ := kw2w2)); (try ((have kw2w3 := (bnew hbw2) (w.heap.size + 1 + 1 + 1) ?pf); (case pf => (first | omega | (simp; done) | (simp; omega))); obtain ⟨kcw2w3, kfw2w3, klw2w3⟩ := kw2w3)); (try ((have kw2gX0 := (bnew hbw2) (g) ?pf); (case pf => (first | omega | (simp; done) | (simp; omega))); obtain ⟨kcw2gX0, kfw2gX0, klw2gX0⟩ := kw2gX0)); (try ((have kw2wc0 := (bnew hbw2) (wc.heap.size) ?pf); (case pf => (first | omega | (simp; done) | (simp; omega))); obtain ⟨kcw2wc0, kfw2wc0, klw2wc0⟩ := kw2wc0)); (try ((have kw2w10 := (bnew hbw2) (w1.heap.size) ?pf); (case pf => (first | omega | (simp; done) | (simp; omega))); obtain ⟨kcw2w10, kfw2w10, klw2w10⟩ := kw2w10))))
          all_goals
            go_wp2_with fail
            go_meet
            refine ⟨rfl, _, rfl, ⟨(by repeat (first | with_reducible exact Below.refl _ _ | with_reducible assumption | (with_reducible refine Below.trans ?_ (Below.mono (by assumption) (by first | omega | (simp <;> omega)))) | with_reducible apply Below.drew | with_reducible apply below_drewN | (with_reducible refine Below.alloc ?_ (by first | omega | (simp <;> omega)) _) | (with_reducible refine Below.setCell ?_ (by first | omega | (simp <;> omega)) _))), ?_, ?_, ?_, ?_, ?_, ?_⟩⟩
          all_goals first | (go_simp; done) | (simp [go_sem, *]; done) | omega | (simp; omega)
        case rest =>
          obtain ⟨rfl, g2, rfl, hB2⟩ := hcut
          have hbwd := (unhide HBW).trans (hB2.below.mono (unhide HBW).size)
          (skip; (try ((have kwdw0 := (bnew hbwd) (w.heap.size) ?pf); (case pf => (first | omega | (simp; done) | (simp; omega))); obtain ⟨kcwdw0, kfwdw0, klwdw0⟩ := kwdw0)); (try ((have kwdw1 := (bnew hbwd) (w.heap.size + 1) ?pf); (case pf => (first | omega | (simp; done) | (simp; omega))); obtain ⟨kcwdw1, kfwdw1, klwdw1⟩ := kwdw1)); (try ((have kwdw2 := (bnew hbwd) (w.heap.size + 1 + 1) ?pf); (case pf => (first | omega | (simp; done) | (simp; omega))); obtain ⟨kcwdw2, kfwdw2, klwdw2⟩ := kwdw2)); (try ((have kwdw3 := (bnew hbwd) (w.heap.size + 1 + 1 + 1) ?pf); (case pf => (first | omega | (simp; done) | (simp; omega))); obtain ⟨kcwdw3, kfwdw3, klwdw3⟩ := kwdw3)))
          have hzwd := hbwd.size
          simp at hzwd
          have hc2 := hB2.c0
          have hd2 := hB2.c1
          have hgl2 := hB2.hi
          have hglo2 := hB2.lo
          have HB2 := Lib.hid hB2; clear hB2
          go_wp2_with fail
          exact bodyPost_ret (v := .tuple #[.agg #[.int .i64 (0), .int .i64 (0)], .bool false]) (by simp [results, Try.results44, go_sem, *]) rfl ⟨rfl, (by repeat (first | with_reducible exact Below.refl _ _ | with_reducible assumption | (with_reducible refine Below.trans ?_ (Below.mono (by assumption) (by first | omega | (simp <;> omega)))) | with_reducible apply Below.drew | with_reducible apply below_drewN | (with_reducible refine Below.alloc ?_ (by first | omega | (simp <;> omega)) _) | (with_reducible refine Below.setCell ?_ (by first | omega | (simp <;> omega)) _)))⟩
  · cases k2
    · obtain ⟨rfl, rfl, rfl⟩ := (unhide Z2) rfl
      go_enter Try.func44, Try.ntmps44
      go_upto_region 1 with fail
      go_cut [8, 9] (fun s8 s9 wx => s9 = .bool true ∧ ∃ g : Nat, s8 = .pointer (some ⟨g, 0, none⟩) ∧ Box2 ((((w.alloc (.cells #[.int .i64 a, .int .i64 b, .int .i64 c, .int .i64 d] 45)).alloc (.cells #[.int .i64 a', .int .i64 b', .int .i64 c', .int .i64 d'] 45)).alloc (.cells #[.int .i64 m, .int .i64 n] 31)).alloc (.cells #[.int .i64 0, .int .i64 0] 31)) wx g x y)
      case first =>
        go_wp2_with ((go_at_call 49; (with_reducible refine ((unhide H1) _).mono ?_); rintro e w1 ⟨rfl, hbw1⟩; obtain ⟨hcw1, hfw1⟩ := bcell hbw1; have hzw1 := hbw1.size; (try simp at hzw1); (try ((have kw1w0 := (bnew hbw1) (w.heap.size) ?pf); (case pf => (first | omega | (simp; done) | (simp; omega))); obtain ⟨kcw1w0, kfw1w0, klw1w0⟩ := kw1w0)); (try ((have kw1w1 := (bnew hbw1) (w.heap.size + 1) ?pf); (case pf => (first | omega | (simp; done) | (simp; omega))); obtain ⟨kcw1w1, kfw1w1, klw1w1⟩ := kw1w1)); (try ((have kw1w2 := (bnew hbw1) (w.heap.size + 1 + 1) ?pf); (case pf => (first | omega | (simp; done) | (simp; omega))); obtain ⟨kcw1w2, kfw1w2, klw1w2⟩ := kw1w2)); (try ((have kw1w3 := (bnew hbw1) (w.heap.size + 1 + 1 + 1) ?pf); (case pf => (first | omega | (simp; done) | (simp; omega))); obtain ⟨kcw1w3, kfw1w3, klw1w3⟩ := kw1w3))))
        go_meet
        refine ⟨rfl, _, rfl, ⟨(by repeat (first | with_reducible exact Below.refl _ _ | with_reducible assumption | (with_reducible refine Below.trans ?_ (Below.mono (by assumption) (by first | omega | (simp <;> omega)))) | with_reducible apply Below.drew | with_reducible apply below_drewN | (with_reducible refine Below.alloc ?_ (by first | omega | (simp <;> omega)) _) | (with_reducible refine Below.setCell ?_ (by first | omega | (simp <;> omega)) _))), ?_, ?_, ?_, ?_, ?_, ?_⟩⟩
        all_goals first | (go_simp; done) | (simp [go_sem, *]; done) | omega | (simp; omega)
      case rest =>
        obtain ⟨rfl, g, rfl, hB⟩ := hcut
        have hbwc := hB.below
        (skip; (try ((have kwcw0 := (bnew hbwc) (w.heap.size) ?pf); (case pf => (first | omega | (simp; done) | (simp; omega))); obtain ⟨kcwcw0, kfwcw0, klwcw0⟩ := kwcw0)); (try ((have kwcw1 := (bnew hbwc) (w.heap.size + 1) ?pf); (case pf => (first | omega | (simp; done) | (simp; omega))); obtain ⟨kcwcw1, kfwcw1, klwcw1⟩ := kwcw1)); (try ((have kwcw2 := (bnew hbwc) (w.heap.size + 1 + 1) ?pf); (case pf => (first | omega | (simp; done) | (simp; omega))); obtain ⟨kcwcw2, kfwcw2, klwcw2⟩ := kwcw2)); (try ((have kwcw3 := (bnew hbwc) (w.heap.size + 1 + 1 + 1) ?pf); (case pf => (first | omega | (simp; done) | (simp; omega))); obtain ⟨kcwcw3, kfwcw3, klwcw3⟩ := kwcw3)))
        have hzwc := hbwc.size
        simp at hzwc
        have hg0 := hB.c0
        have hg1 := hB.c1
        have hgl := hB.hi
        have hglo := hB.lo
        simp at hglo
        have HB := Lib.hid hB; clear hB
        have HBW := hide hbwc; clear hbwc
        go_upto_region 2 with fail
        go_cut [10, 11] (fun s10 s11 wx => s11 = .bool false ∧ ∃ g : Nat, s10 = .pointer (some ⟨g, 0, none⟩) ∧ Box2 wc wx g u v)
        case first =>
          go_region_held3 (fun w' => (w'.cell? ⟨w.heap.size, 0, none⟩ = some (.int .i64 a) ∧ w'.cell? ⟨w.heap.size, 1, none⟩ = some (.int .i64 b) ∧ w'.cell? ⟨w.heap.size, 2, none⟩ = some (.int .i64 c) ∧ w'.cell? ⟨w.heap.size, 3, none⟩ = some (.int .i64 d)) ∧
              (w'.cell? ⟨w.heap.size + 1, 0, none⟩ = some (.int .i64 a') ∧ w'.cell? ⟨w.heap.size + 1, 1, none⟩ = some (.int .i64 b') ∧ w'.cell? ⟨w.heap.size + 1, 2, none⟩ = some (.int .i64 c') ∧ w'.cell? ⟨w.heap.size + 1, 3, none⟩ = some (.int .i64 d')) ∧
              w'.cell? ⟨g, 0, none⟩ = some (.int .i64 x) ∧ w'.cell? ⟨g, 1, none⟩ = some (.int .i64 y)) (simp [go_sem, World.cell?_alloc_past, *])
            (first
              | (go_at_call 40; (with_reducible refine ((unhide H2) _).mono ?_); rintro e w1 ⟨rfl, hbw1⟩; obtain ⟨hcw1, hfw1⟩ := bcell hbw1; have hzw1 := hbw1.size; (try simp at hzw1); (try ((have kw1w0 := (bnew hbw1) (w.heap.size) ?pf); (case pf => (first | omega | (simp; done) | (simp; omega))); obtain ⟨kcw1w0, kfw1w0, klw1w0⟩ := kw1w0)); (try ((have kw1w1 := (bnew hbw1) (w.heap.size + 1) ?pf); (case pf => (first | omega | (simp; done) | (simp; omega))); obtain ⟨kcw1w1, kfw1w1, klw1w1⟩ := kw1w1)); (try ((have kw1w2 := (bnew hbw1) (w.heap.size + 1 + 1) ?pf); (case pf => (first | omega | (simp; done) | (simp; omega))); obtain ⟨kcw1w2, kfw1w2, klw1w2⟩ := kw1w2)); (try ((have kw1w3 := (bnew hbw1) (w.heap.size + 1 + 1 + 1) ?pf); (case pf => (first | omega | (simp; done) | (simp; omega))); obtain ⟨kcw1w3, kfw1w3, klw1w3⟩ := kw1w3)); (try ((have kw1gX0 := (bnew hbw1) (g) ?pf); (case pf => (first | omega | (simp; done) | (simp; omega))); obtain ⟨kcw1gX0, kfw1gX0, klw1gX0⟩ := kw1gX0)); (try ((have kw1wc0 := (bnew hbw1) (wc.heap.size) ?pf); (case pf => (first | omega | (simp; done) | (simp; omega))); obtain ⟨kcw1wc0, kfw1wc0, klw1wc0⟩ := kw1wc0)))
              | (go_at_call 52; (with_reducible refine ((unhide H3) _).mono ?_); rintro e w2 ⟨rfl, hbw2⟩; obtain ⟨hcw2, hfw2⟩ := bcell hbw2; have hzw2 := hbw2.size; (try simp at hzw2); (try ((have kw2w0 := (bnew hbw2) (w.heap.size) ?pf); (case pf => (first | omega | (simp; done) | (simp; omega))); obtain ⟨kcw2w0, kfw2w0, klw2w0⟩ := kw2w0)); (try ((have kw2w1 := (bnew hbw2) (w.heap.size + 1) ?pf); (case pf => (first | omega | (simp; done) | (simp; omega))); obtain ⟨kcw2w1, kfw2w1, klw2w1⟩ := kw2w1)); (try ((have kw2w2 := (bnew hbw2) (w.heap.size + 1 + 1) ?pf); (case pf => (first | omega | (simp; done) | (simp; omega))); obtain ⟨kcw2w2, kfw2w2, klw2w2⟩ := kw2w2)); (try ((have kw2w3 := (bnew hbw2) (w.heap.size + 1 + 1 + 1) ?pf); (case pf => (first | omega | (simp; done) | (simp; omega))); obtain ⟨kcw2w3, kfw2w3, klw2w3⟩ := kw2w3)); (try ((have kw2gX0 := (bnew hbw2) (g) ?pf); (case pf => (first | omega | (simp; done) | (simp; omega))); obtain ⟨kcw2gX0, kfw2gX0, klw2gX0⟩ := kw2gX0)); (try ((have kw2wc0 := (bnew hbw2) (wc.heap.size) ?pf); (case pf => (first | omega | (simp; done) | (simp; omega))); obtain ⟨kcw2wc0, kfw2wc0, klw2wc0⟩ := kw2wc0)); (try ((have kw2w10 := (bnew hbw2) (w1.heap.size) ?pf); (case pf => (first | omega | (simp; done) | (simp; omega))); obtain ⟨kcw2w10, kfw2w10, klw2w10⟩ := kw2w10))))
          all_goals
            go_wp2_with fail
            go_meet
            refine ⟨rfl, _, rfl, ⟨(by repeat (first | with_reducible exact Below.refl _ _ | with_reducible assumption | (with_reducible refine Below.trans ?_ (Below.mono (by assumption) (by first | omega | (simp <;> omega)))) | with_reducible apply Below.drew | with_reducible apply below_drewN | (with_reducible refine Below.alloc ?_ (by first | omega | (simp <;> omega)) _) | (with_reducible refine Below.setCell ?_ (by first | omega | (simp <;> omega)) _))), ?_, ?_, ?_, ?_, ?_, ?_⟩⟩
          all_goals first | (go_simp; done) | (simp [go_sem, *]; done) | omega | (simp; omega)
        case rest =>
          obtain ⟨rfl, g2, rfl, hB2⟩ := hcut
          have hbwd := (unhide HBW).trans (hB2.below.mono (unhide HBW).size)
          (skip; (try ((have kwdw0 := (bnew hbwd) (w.heap.size) ?pf); (case pf => (first | omega | (simp; done) | (simp; omega))); obtain ⟨kcwdw0, kfwdw0, klwdw0⟩ := kwdw0)); (try ((have kwdw1 := (bnew hbwd) (w.heap.size + 1) ?pf); (case pf => (first | omega | (simp; done) | (simp; omega))); obtain ⟨kcwdw1, kfwdw1, klwdw1⟩ := kwdw1)); (try ((have kwdw2 := (bnew hbwd) (w.heap.size + 1 + 1) ?pf); (case pf => (first | omega | (simp; done) | (simp; omega))); obtain ⟨kcwdw2, kfwdw2, klwdw2⟩ := kwdw2)); (try ((have kwdw3 := (bnew hbwd) (w.heap.size + 1 + 1 + 1) ?pf); (case pf => (first | omega | (simp; done) | (simp; omega))); obtain ⟨kcwdw3, kfwdw3, klwdw3⟩ := kwdw3)))
          have hzwd := hbwd.size
          simp at hzwd
          have hc2 := hB2.c0
          have hd2 := hB2.c1
          have hgl2 := hB2.hi
          have hglo2 := hB2.lo
          have HB2 := Lib.hid hB2; clear hB2
          go_wp2_with fail
          exact bodyPost_ret (v := .tuple #[.agg #[.int .i64 (0), .int .i64 (0)], .bool false]) (by simp [results, Try.results44, go_sem, *]) rfl ⟨rfl, (by repeat (first | with_reducible exact Below.refl _ _ | with_reducible assumption | (with_reducible refine Below.trans ?_ (Below.mono (by assumption) (by first | omega | (simp <;> omega)))) | with_reducible apply Below.drew | with_reducible apply below_drewN | (with_reducible refine Below.alloc ?_ (by first | omega | (simp <;> omega)) _) | (with_reducible refine Below.setCell ?_ (by first | omega | (simp <;> omega)) _)))⟩
    · skip
      go_enter Try.func44, Try.ntmps44
      go_upto_region 1 with fail
      go_cut [8, 9] (fun s8 s9 wx => s9 = .bool true ∧ ∃ g : Nat, s8 = .pointer (some ⟨g, 0, none⟩) ∧ Box2 ((((w.alloc (.cells #[.int .i64 a, .int .i64 b, .int .i64 c, .int .i64 d] 45)).alloc (.cells #[.int .i64 a', .int .i64 b', .int .i64 c', .int .i64 d'] 45)).alloc (.cells #[.int .i64 m, .int .i64 n] 31)).alloc (.cells #[.int .i64 0, .int .i64 0] 31)) wx g x y)
      case first =>
        go_wp2_with ((go_at_call 49; (with_reducible refine ((unhide H1) _).mono ?_); rintro e w1 ⟨rfl, hbw1⟩; obtain ⟨hcw1, hfw1⟩ := bcell hbw1; have hzw1 := hbw1.size; (try simp at hzw1); (try ((have kw1w0 := (bnew hbw1) (w.heap.size) ?pf); (case pf => (first | omega | (simp; done) | (simp; omega))); obtain ⟨kcw1w0, kfw1w0, klw1w0⟩ := kw1w0)); (try ((have kw1w1 := (bnew hbw1) (w.heap.size + 1) ?pf); (case pf => (first | omega | (simp; done) | (simp; omega))); obtain ⟨kcw1w1, kfw1w1, klw1w1⟩ := kw1w1)); (try ((have kw1w2 := (bnew hbw1) (w.heap.size + 1 + 1) ?pf); (case pf => (first | omega | (simp; done) | (simp; omega))); obtain ⟨kcw1w2, kfw1w2, klw1w2⟩ := kw1w2)); (try ((have kw1w3 := (bnew hbw1) (w.heap.size + 1 + 1 + 1) ?pf); (case pf => (first | omega | (simp; done) | (simp; omega))); obtain ⟨kcw1w3, kfw1w3, klw1w3⟩ := kw1w3))))
        go_meet
        refine ⟨rfl, _, rfl, ⟨(by repeat (first | with_reducible exact Below.refl _ _ | with_reducible assumption | (with_reducible refine Below.trans ?_ (Below.mono (by assumption) (by first | omega | (simp <;> omega)))) | with_reducible apply Below.drew | with_reducible apply below_drewN | (with_reducible refine Below.alloc ?_ (by first | omega | (simp <;> omega)) _) | (with_reducible refine Below.setCell ?_ (by first | omega | (simp <;> omega)) _))), ?_, ?_, ?_, ?_, ?_, ?_⟩⟩
        all_goals first | (go_simp; done) | (simp [go_sem, *]; done) | omega | (simp; omega)
      case rest =>
        obtain ⟨rfl, g, rfl, hB⟩ := hcut
        have hbwc := hB.below
        (skip; (try ((have kwcw0 := (bnew hbwc) (w.heap.size) ?pf); (case pf => (first | omega | (simp; done) | (simp; omega))); obtain ⟨kcwcw0, kfwcw0, klwcw0⟩ := kwcw0)); (try ((have kwcw1 := (bnew hbwc) (w.heap.size + 1) ?pf); (case pf => (first | omega | (simp; done) | (simp; omega))); obtain ⟨kcwcw1, kfwcw1, klwcw1⟩ := kwcw1)); (try ((have kwcw2 := (bnew hbwc) (w.heap.size + 1 + 1) ?pf); (case pf => (first | omega | (simp; done) | (simp; omega))); obtain ⟨kcwcw2, kfwcw2, klwcw2⟩ := kwcw2)); (try ((have kwcw3 := (bnew hbwc) (w.heap.size + 1 + 1 + 1) ?pf); (case pf => (first | omega | (simp; done) | (simp; omega))); obtain ⟨kcwcw3, kfwcw3, klwcw3⟩ := kwcw3)))
        have hzwc := hbwc.size
        simp at hzwc
        have hg0 := hB.c0
        have hg1 := hB.c1
        have hgl := hB.hi
        have hglo := hB.lo
        simp at hglo
        have HB := Lib.hid hB; clear hB
        have HBW := hide hbwc; clear hbwc
        go_upto_region 2 with fail
        go_cut [10, 11] (fun s10 s11 wx => s11 = .bool true ∧ ∃ g : Nat, s10 = .pointer (some ⟨g, 0, none⟩) ∧ Box2 wc wx g u v)
        case first =>
          go_region_held3 (fun w' => (w'.cell? ⟨w.heap.size, 0, none⟩ = some (.int .i64 a) ∧ w'.cell? ⟨w.heap.size, 1, none⟩ = some (.int .i64 b) ∧ w'.cell? ⟨w.heap.size, 2, none⟩ = some (.int .i64 c) ∧ w'.cell? ⟨w.heap.size, 3, none⟩ = some (.int .i64 d)) ∧
              (w'.cell? ⟨w.heap.size + 1, 0, none⟩ = some (.int .i64 a') ∧ w'.cell? ⟨w.heap.size + 1, 1, none⟩ = some (.int .i64 b') ∧ w'.cell? ⟨w.heap.size + 1, 2, none⟩ = some (.int .i64 c') ∧ w'.cell? ⟨w.heap.size + 1, 3, none⟩ = some (.int .i64 d')) ∧
              w'.cell? ⟨g, 0, none⟩ = some (.int .i64 x) ∧ w'.cell? ⟨g, 1, none⟩ = some (.int .i64 y)) (simp [go_sem, World.cell?_alloc_past, *])
            (first
              | (go_at_call 40; (with_reducible refine ((unhide H2) _).mono ?_); rintro e w1 ⟨rfl, hbw1⟩; obtain ⟨hcw1, hfw1⟩ := bcell hbw1; have hzw1 := hbw1.size; (try simp at hzw1); (try ((have kw1w0 := (bnew hbw1) (w.heap.size) ?pf); (case pf => (first | omega | (simp; done) | (simp; omega))); obtain ⟨kcw1w0, kfw1w0, klw1w0⟩ := kw1w0)); (try ((have kw1w1 := (bnew hbw1) (w.heap.size + 1) ?pf); (case pf => (first | omega | (simp; done) | (simp; omega))); obtain ⟨kcw1w1, kfw1w1, klw1w1⟩ := kw1w1)); (try ((have kw1w2 := (bnew hbw1) (w.heap.size + 1 + 1) ?pf); (case pf => (first | omega | (simp; done) | (simp; omega))); obtain ⟨kcw1w2, kfw1w2, klw1w2⟩ := kw1w2)); (try ((have kw1w3 := (bnew hbw1) (w.heap.size + 1 + 1 + 1) ?pf); (case pf => (first | omega | (simp; done) | (simp; omega))); obtain ⟨kcw1w3, kfw1w3, klw1w3⟩ := kw1w3)); (try ((have kw1gX0 := (bnew hbw1) (g) ?pf); (case pf => (first | omega | (simp; done) | (simp; omega))); obtain ⟨kcw1gX0, kfw1gX0, klw1gX0⟩ := kw1gX0)); (try ((have kw1wc0 := (bnew hbw1) (wc.heap.size) ?pf); (case pf => (first | omega | (simp; done) | (simp; omega))); obtain ⟨kcw1wc0, kfw1wc0, klw1wc0⟩ := kw1wc0)))
              | (go_at_call 52; (with_reducible refine ((unhide H3) _).mono ?_); rintro e w2 ⟨rfl, hbw2⟩; obtain ⟨hcw2, hfw2⟩ := bcell hbw2; have hzw2 := hbw2.size; (try simp at hzw2); (try ((have kw2w0 := (bnew hbw2) (w.heap.size) ?pf); (case pf => (first | omega | (simp; done) | (simp; omega))); obtain ⟨kcw2w0, kfw2w0, klw2w0⟩ := kw2w0)); (try ((have kw2w1 := (bnew hbw2) (w.heap.size + 1) ?pf); (case pf => (first | omega | (simp; done) | (simp; omega))); obtain ⟨kcw2w1, kfw2w1, klw2w1⟩ := kw2w1)); (try ((have kw2w2 := (bnew hbw2) (w.heap.size + 1 + 1) ?pf); (case pf => (first | omega | (simp; done) | (simp; omega))); obtain ⟨kcw2w2, kfw2w2, klw2w2⟩ := kw2w2)); (try ((have kw2w3 := (bnew hbw2) (w.heap.size + 1 + 1 + 1) ?pf); (case pf => (first | omega | (simp; done) | (simp; omega))); obtain ⟨kcw2w3, kfw2w3, klw2w3⟩ := kw2w3)); (try ((have kw2gX0 := (bnew hbw2) (g) ?pf); (case pf => (first | omega | (simp; done) | (simp; omega))); obtain ⟨kcw2gX0, kfw2gX0, klw2gX0⟩ := kw2gX0)); (try ((have kw2wc0 := (bnew hbw2) (wc.heap.size) ?pf); (case pf => (first | omega | (simp; done) | (simp; omega))); obtain ⟨kcw2wc0, kfw2wc0, klw2wc0⟩ := kw2wc0)); (try ((have kw2w10 := (bnew hbw2) (w1.heap.size) ?pf); (case pf => (first | omega | (simp; done) | (simp; omega))); obtain ⟨kcw2w10, kfw2w10, klw2w10⟩ := kw2w10))))
          all_goals
            go_wp2_with fail
            go_meet
            refine ⟨rfl, _, rfl, ⟨(by repeat (first | with_reducible exact Below.refl _ _ | with_reducible assumption | (with_reducible refine Below.trans ?_ (Below.mono (by assumption) (by first | omega | (simp <;> omega)))) | with_reducible apply Below.drew | with_reducible apply below_drewN | (with_reducible refine Below.alloc ?_ (by first | omega | (simp <;> omega)) _) | (with_reducible refine Below.setCell ?_ (by first | omega | (simp <;> omega)) _))), ?_, ?_, ?_, ?_, ?_, ?_⟩⟩
          all_goals first | (go_simp; done) | (simp [go_sem, *]; done) | omega | (simp; omega)
        case rest =>
          obtain ⟨rfl, g2, rfl, hB2⟩ := hcut
          have hbwd := (unhide HBW).trans (hB2.below.mono (unhide HBW).size)
          (skip; (try ((have kwdw0 := (bnew hbwd) (w.heap.size) ?pf); (case pf => (first | omega | (simp; done) | (simp; omega))); obtain ⟨kcwdw0, kfwdw0, klwdw0⟩ := kwdw0)); (try ((have kwdw1 := (bnew hbwd) (w.heap.size + 1) ?pf); (case pf => (first | omega | (simp; done) | (simp; omega))); obtain ⟨kcwdw1, kfwdw1, klwdw1⟩ := kwdw1)); (try ((have kwdw2 := (bnew hbwd) (w.heap.size + 1 + 1) ?pf); (case pf => (first | omega | (simp; done) | (simp; omega))); obtain ⟨kcwdw2, kfwdw2, klwdw2⟩ := kwdw2)); (try ((have kwdw3 := (bnew hbwd) (w.heap.size + 1 + 1 + 1) ?pf); (case pf => (first | omega | (simp; done) | (simp; omega))); obtain ⟨kcwdw3, kfwdw3, klwdw3⟩ := kwdw3)))
          have hzwd := hbwd.size
          simp at hzwd
          have hc2 := hB2.c0
          have hd2 := hB2.c1
          have hgl2 := hB2.hi
          have hglo2 := hB2.lo
          have HB2 := Lib.hid hB2; clear hB2
          go_wp2_with ((go_at_call 53; (with_reducible refine ((unhide H4) _).mono ?_); rintro e w3 ⟨rfl, hbw3⟩; obtain ⟨hcw3, hfw3⟩ := bcell hbw3; have hzw3 := hbw3.size; (try simp at hzw3); (try ((have kw3w0 := (bnew hbw3) (w.heap.size) ?pf); (case pf => (first | omega | (simp; done) | (simp; omega))); obtain ⟨kcw3w0, kfw3w0, klw3w0⟩ := kw3w0)); (try ((have kw3w1 := (bnew hbw3) (w.heap.size + 1) ?pf); (case pf => (first | omega | (simp; done) | (simp; omega))); obtain ⟨kcw3w1, kfw3w1, klw3w1⟩ := kw3w1)); (try ((have kw3w2 := (bnew hbw3) (w.heap.size + 1 + 1) ?pf); (case pf => (first | omega | (simp; done) | (simp; omega))); obtain ⟨kcw3w2, kfw3w2, klw3w2⟩ := kw3w2)); (try ((have kw3w3 := (bnew hbw3) (w.heap.size + 1 + 1 + 1) ?pf); (case pf => (first | omega | (simp; done) | (simp; omega))); obtain ⟨kcw3w3, kfw3w3, klw3w3⟩ := kw3w3)); (try ((have kw3g2X0 := (bnew hbw3) (g2) ?pf); (case pf => (first | omega | (simp; done) | (simp; omega))); obtain ⟨kcw3g2X0, kfw3g2X0, klw3g2X0⟩ := kw3g2X0))))
          exact bodyPost_ret (v := .tuple #[.agg #[.int .i64 (p), .int .i64 (q)], .bool k3]) (by simp [results, Try.results44, go_sem, *]) rfl ⟨rfl, (by repeat (first | with_reducible exact Below.refl _ _ | with_reducible assumption | (with_reducible refine Below.trans ?_ (Below.mono (by assumption) (by first | omega | (simp <;> omega)))) | with_reducible apply Below.drew | with_reducible apply below_drewN | (with_reducible refine Below.alloc ?_ (by first | omega | (simp <;> omega)) _) | (with_reducible refine Below.setCell ?_ (by first | omega | (simp <;> omega)) _)))⟩

end Go.Proofs.Ythccdooacbablab

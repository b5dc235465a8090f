/-
  Chapter 4: the cases of a function over an orbit; IterateMap of the model, StepsInSize of both.
-/
import Derived.Test.YtmkejopkmdcfeaaOb
namespace Go.Proofs.Ytmkejopkmdcfeaa
open Go.RowKit Rm

theorem s_cases {A : Option Addr} {n c base : Nat} {ps : List Pt} {a b m : Int} {w : World} (ha : w.ownsRow base 65 4 (.slice A n c) n (ptcs ps)) (hn : n ≤ 1048576) :
    (orbO ps a b m = none ∧ runO ps a b m = none ∧ (∀ W : World, W.ownsRow base 65 4 (.slice A n c) n (ptcs ps) → Calls Try.prog 62 #[.slice A n c, .agg #[.int .i64 (a), .int .i64 (b)], .int .i64 m] W fun e w' => e = .returned (.bool false) ∧ Below W.heap.size W w')) ∨
    (∃ (qs : List QP) (x : Rat) (k L : Nat), ps = qs.map qp ∧ a = x.num ∧ b = (x.den : Int) ∧ m = k ∧ k ≤ 60 ∧ 1 ≤ L ∧ L ≤ k ∧ orbO ps a b m = none ∧ runO ps a b m = some (run qs k x) ∧ (run qs k x).length = L ∧
      (∀ W : World, W.ownsRow base 65 4 (.slice A n c) n (ptcs ps) → Calls Try.prog 62 #[.slice A n c, .agg #[.int .i64 (a), .int .i64 (b)], .int .i64 m] W fun e w' => e = .returned (.bool true) ∧ Below W.heap.size W w') ∧
      (∀ W : World, W.ownsRow base 65 4 (.slice A n c) n (ptcs ps) → Calls Try.prog 63 #[.slice A n c, .agg #[.int .i64 (a), .int .i64 (b)], .int .i64 m] W fun e w' => ∃ gs d : Nat, e = .returned (.slice (some ⟨gs, 0, none⟩) L d) ∧ Below W.heap.size W w')) ∨
    (∃ (qs : List QP) (x : Rat) (k : Nat), ps = qs.map qp ∧ a = x.num ∧ b = (x.den : Int) ∧ m = k ∧ k ≤ 60 ∧ Orb qs x k (run qs k x) ∧ orbO ps a b m = some (run qs k x) ∧ runO ps a b m = some (run qs k x) ∧
      (∀ W : World, W.ownsRow base 65 4 (.slice A n c) n (ptcs ps) → Calls Try.prog 62 #[.slice A n c, .agg #[.int .i64 (a), .int .i64 (b)], .int .i64 m] W fun e w' => e = .returned (.bool true) ∧ Below W.heap.size W w') ∧
      (∀ W : World, W.ownsRow base 65 4 (.slice A n c) n (ptcs ps) → Calls Try.prog 63 #[.slice A n c, .agg #[.int .i64 (a), .int .i64 (b)], .int .i64 m] W fun e w' => ∃ gs d : Nat, e = .returned (.slice (some ⟨gs, 0, none⟩) (k + 1) d) ∧
        w'.ownsRow W.heap.size 26 2 (.slice (some ⟨gs, 0, none⟩) (k + 1) d) (k + 1) (frcs ((run qs k x).map qf)) ∧ Below W.heap.size W w')) := by
  have hask := fun W hW => orAsked_any A n c base ps a b m W hW hn
  rcases orb_cases ps a b m with ⟨h1, h2, h3⟩ | ⟨qs, x, k, rfl, hg, rfl, rfl, hx, rfl, hk, hr, h1, hcase⟩
  · rw [h1] at hask
    exact .inl ⟨h3, h2, hask⟩
  · rw [h1] at hask
    have hlenq : qs.length = n := by have := own_len ha; rw [List.length_map] at this; exact this
    obtain ⟨g, hA⟩ := own_form ha (by have := hg.lo; omega)
    subst hA
    rcases hcase with ⟨hl1, hl, ho⟩ | ⟨hO, ho⟩
    · refine .inr (.inl ⟨qs, x, k, _, rfl, rfl, rfl, rfl, hk, hl1, hl, ho, hr, rfl, hask, fun W hW => (orRun_map g n c base qs x k W hW hg hx hk).mono ?_⟩)
      rintro e w' ⟨gs, d, he, _, hb⟩
      exact ⟨gs, d, he, hb⟩
    · refine .inr (.inr ⟨qs, x, k, rfl, rfl, rfl, rfl, hk, hO, ho, hr, hask, fun W hW => (orRun_map g n c base qs x k W hW hg hx hk).mono ?_⟩)
      rintro e w' ⟨gs, d, he, hown, hb⟩
      rw [hO.len] at he hown
      exact ⟨gs, d, he, hown, hb⟩
theorem i_cases {A : Option Addr} {n c base : Nat} {ps : List Pt} {a b m : Int} (hn : n ≤ 1048576) :
    (orbO ps a b m = none ∧ (∀ W : World, W.ownsRow base 65 4 (.slice A n c) n (ptcs ps) → Calls Try.prog 25 #[.slice A n c, .agg #[.int .i64 (a), .int .i64 (b)], .int .i64 m] W fun e w' => ∃ (B : Option Addr) (d : Nat), e = .returned (.tuple #[.slice B 0 d, .bool false]) ∧ Below W.heap.size W w')) ∨
    (∃ (qs : List QP) (x : Rat) (k : Nat), ps = qs.map qp ∧ a = x.num ∧ b = (x.den : Int) ∧ m = k ∧ k ≤ 60 ∧ Orb qs x k (run qs k x) ∧ orbO ps a b m = some (run qs k x) ∧
      (∀ W : World, W.ownsRow base 65 4 (.slice A n c) n (ptcs ps) → Calls Try.prog 25 #[.slice A n c, .agg #[.int .i64 (a), .int .i64 (b)], .int .i64 m] W fun e w' => ∃ gs d : Nat, e = .returned (.tuple #[.slice (some ⟨gs, 0, none⟩) (k + 1) d, .bool true]) ∧
        w'.ownsRow W.heap.size 26 2 (.slice (some ⟨gs, 0, none⟩) (k + 1) d) (k + 1) (frcs ((run qs k x).map qf)) ∧ Below W.heap.size W w')) := by
  rcases orb_cases ps a b m with ⟨h1, h2, h3⟩ | ⟨qs, x, k, rfl, hg, rfl, rfl, hx, rfl, hk, hr, _, ⟨hl1, hl, ho⟩ | ⟨hO, ho⟩⟩
  · exact .inl ⟨h3, iOrb_none hn h3⟩
  · exact .inl ⟨ho, iOrb_none hn ho⟩
  · exact .inr ⟨qs, x, k, rfl, rfl, rfl, rfl, hk, hO, ho, iOrb_some hn hO ho⟩

set_option maxRecDepth 100000 in
set_option maxHeartbeats 1600000 in
theorem sIterateMap_any (A : Option Addr) (n c base : Nat) (ps : List Pt) (a b m : Int) (w : World) (ha : w.ownsRow base 65 4 (.slice A n c) n (ptcs ps)) (hn : n ≤ 1048576) :
    Calls Try.prog 22 #[.slice A n c, .agg #[.int .i64 (a), .int .i64 (b)], .int .i64 m] w fun e w' => e = .returned (.tuple #[.agg #[.int .i64 (oN (itO ps a b m)), .int .i64 (oD (itO ps a b m))], .bool (itO ps a b m).isSome]) ∧ Below w.heap.size w w' := by
  rcases s_cases (a := a) (b := b) (m := m) ha hn with ⟨ho, hr, hask⟩ | ⟨qs, x, k, L, rfl, rfl, rfl, rfl, hk, hL1, hLk, ho, hr, hl, hask, hrun⟩ | ⟨qs, x, k, rfl, rfl, rfl, rfl, hk, hO, ho, hr, hask, hrun⟩
  · have HI := hide hask; have HA := hide ha
    rw [show itO ps a b m = none by unfold itO; rw [ho]; rfl]
    simp only [oN_none, oD_none, Option.isSome_none]
    clear hask ha ho hr
    go_enter Try.func22, Try.ntmps22
    go_wp2_with (go_at_call 62; (with_reducible refine ((unhide HI) _ (own_below (unhide HA) ?pb)).mono ?_); (case pb => exact (by repeat (first | with_reducible exact Below.refl _ _ | with_reducible assumption | (with_reducible refine Below.trans ?_ (Below.mono (by assumption) (by first | omega | (simp <;> omega)))) | with_reducible apply Below.drew | with_reducible apply below_drewN | (with_reducible refine Below.alloc ?_ (by first | omega | (simp <;> omega)) _) | (with_reducible refine Below.setCell ?_ (by first | omega | (simp <;> omega)) _)))); rintro e w1 ⟨rfl, hbw1⟩; have hs1 := hbw1.size; (skip; (try ((have kw1w0 := (bnew hbw1) (w.heap.size) ?pf); (case pf => (first | omega | (simp; done) | (simp; omega))); obtain ⟨kcw1w0, kfw1w0, klw1w0⟩ := kw1w0)); (try ((have kw1w1 := (bnew hbw1) (w.heap.size + 1) ?pf); (case pf => (first | omega | (simp; done) | (simp; omega))); obtain ⟨kcw1w1, kfw1w1, klw1w1⟩ := kw1w1))))
    exact bodyPost_ret (v := .tuple #[.agg #[.int .i64 (0), .int .i64 (0)], .bool false]) (by simp [results, Try.results22, go_sem, *]) rfl ⟨rfl, (by repeat (first | with_reducible exact Below.refl _ _ | with_reducible assumption | (with_reducible refine Below.trans ?_ (Below.mono (by assumption) (by first | omega | (simp <;> omega)))) | with_reducible apply Below.drew | with_reducible apply below_drewN | (with_reducible refine Below.alloc ?_ (by first | omega | (simp <;> omega)) _) | (with_reducible refine Below.setCell ?_ (by first | omega | (simp <;> omega)) _)))⟩
  · have HI := hide hask; have HA := hide ha; have HR := hide hrun
    rw [show itO (qs.map qp) x.num x.den k = none by unfold itO; rw [ho]; rfl]
    simp only [oN_none, oD_none, Option.isSome_none]
    clear hask ha ho hr hl hrun
    generalize x.num = xn at *
    generalize (x.den : Int) = xd at *
    go_enter Try.func22, Try.ntmps22
    go_wp2_with (first
      | (go_at_call 62; (with_reducible refine ((unhide HI) _ (own_below (unhide HA) ?pb)).mono ?_); (case pb => exact (by repeat (first | with_reducible exact Below.refl _ _ | with_reducible assumption | (with_reducible refine Below.trans ?_ (Below.mono (by assumption) (by first | omega | (simp <;> omega)))) | with_reducible apply Below.drew | with_reducible apply below_drewN | (with_reducible refine Below.alloc ?_ (by first | omega | (simp <;> omega)) _) | (with_reducible refine Below.setCell ?_ (by first | omega | (simp <;> omega)) _)))); rintro e w1 ⟨rfl, hbw1⟩; have hs1 := hbw1.size; (skip; (try ((have kw1w0 := (bnew hbw1) (w.heap.size) ?pf); (case pf => (first | omega | (simp; done) | (simp; omega))); obtain ⟨kcw1w0, kfw1w0, klw1w0⟩ := kw1w0)); (try ((have kw1w1 := (bnew hbw1) (w.heap.size + 1) ?pf); (case pf => (first | omega | (simp; done) | (simp; omega))); obtain ⟨kcw1w1, kfw1w1, klw1w1⟩ := kw1w1))))
      | (go_at_call 63; (with_reducible refine ((unhide HR) _ (own_below (unhide HA) ?pb)).mono ?_); (case pb => exact (by repeat (first | with_reducible exact Below.refl _ _ | with_reducible assumption | (with_reducible refine Below.trans ?_ (Below.mono (by assumption) (by first | omega | (simp <;> omega)))) | with_reducible apply Below.drew | with_reducible apply below_drewN | (with_reducible refine Below.alloc ?_ (by first | omega | (simp <;> omega)) _) | (with_reducible refine Below.setCell ?_ (by first | omega | (simp <;> omega)) _)))); rintro e w2 ⟨gs, d, rfl, hbw2⟩; have hs2 := hbw2.size; (skip; (try ((have kw2w0 := (bnew hbw2) (w.heap.size) ?pf); (case pf => (first | omega | (simp; done) | (simp; omega))); obtain ⟨kcw2w0, kfw2w0, klw2w0⟩ := kw2w0)); (try ((have kw2w1 := (bnew hbw2) (w.heap.size + 1) ?pf); (case pf => (first | omega | (simp; done) | (simp; omega))); obtain ⟨kcw2w1, kfw2w1, klw2w1⟩ := kw2w1)))))
    exact bodyPost_ret (v := .tuple #[.agg #[.int .i64 (0), .int .i64 (0)], .bool false]) (by simp [results, Try.results22, go_sem, *]) rfl ⟨rfl, (by repeat (first | with_reducible exact Below.refl _ _ | with_reducible assumption | (with_reducible refine Below.trans ?_ (Below.mono (by assumption) (by first | omega | (simp <;> omega)))) | with_reducible apply Below.drew | with_reducible apply below_drewN | (with_reducible refine Below.alloc ?_ (by first | omega | (simp <;> omega)) _) | (with_reducible refine Below.setCell ?_ (by first | omega | (simp <;> omega)) _)))⟩
  · have HI := hide hask; have HA := hide ha; have HR := hide hrun
    rw [show itO (qs.map qp) x.num x.den k = some ((run qs k x).getD k 0) by unfold itO; rw [ho]; rfl]
    simp only [oN_some, oD_some, Option.isSome_some]
    clear hask ha ho hr hrun
    obtain ⟨yn, hyn⟩ : ∃ r, r = ((run qs k x).getD k 0).num := ⟨_, rfl⟩
    obtain ⟨yd, hyd⟩ : ∃ r, r = (((run qs k x).getD k 0).den : Int) := ⟨_, rfl⟩
    rw [← hyn, ← hyd]
    have HY := Lib.hid (And.intro hyn hyd)
    clear hyn hyd
    generalize x.num = xn at *
    generalize (x.den : Int) = xd at *
    have s4 : (k : Int) < (k : Int) + 1 := by omega
    go_enter Try.func22, Try.ntmps22
    go_wp2_with (first
      | (go_at_call 62; (with_reducible refine ((unhide HI) _ (own_below (unhide HA) ?pb)).mono ?_); (case pb => exact (by repeat (first | with_reducible exact Below.refl _ _ | with_reducible assumption | (with_reducible refine Below.trans ?_ (Below.mono (by assumption) (by first | omega | (simp <;> omega)))) | with_reducible apply Below.drew | with_reducible apply below_drewN | (with_reducible refine Below.alloc ?_ (by first | omega | (simp <;> omega)) _) | (with_reducible refine Below.setCell ?_ (by first | omega | (simp <;> omega)) _)))); rintro e w1 ⟨rfl, hbw1⟩; have hs1 := hbw1.size; (skip; (try ((have kw1w0 := (bnew hbw1) (w.heap.size) ?pf); (case pf => (first | omega | (simp; done) | (simp; omega))); obtain ⟨kcw1w0, kfw1w0, klw1w0⟩ := kw1w0)); (try ((have kw1w1 := (bnew hbw1) (w.heap.size + 1) ?pf); (case pf => (first | omega | (simp; done) | (simp; omega))); obtain ⟨kcw1w1, kfw1w1, klw1w1⟩ := kw1w1))))
      | (go_at_call 63; (with_reducible refine ((unhide HR) _ (own_below (unhide HA) ?pb)).mono ?_); (case pb => exact (by repeat (first | with_reducible exact Below.refl _ _ | with_reducible assumption | (with_reducible refine Below.trans ?_ (Below.mono (by assumption) (by first | omega | (simp <;> omega)))) | with_reducible apply Below.drew | with_reducible apply below_drewN | (with_reducible refine Below.alloc ?_ (by first | omega | (simp <;> omega)) _) | (with_reducible refine Below.setCell ?_ (by first | omega | (simp <;> omega)) _)))); rintro e w2 ⟨gs, d, rfl, hown, hbw2⟩; have hs2 := hbw2.size; (skip; (try ((have kw2w0 := (bnew hbw2) (w.heap.size) ?pf); (case pf => (first | omega | (simp; done) | (simp; omega))); obtain ⟨kcw2w0, kfw2w0, klw2w0⟩ := kw2w0)); (try ((have kw2w1 := (bnew hbw2) (w.heap.size + 1) ?pf); (case pf => (first | omega | (simp; done) | (simp; omega))); obtain ⟨kcw2w1, kfw2w1, klw2w1⟩ := kw2w1))); obtain ⟨hgs, f0, f1⟩ := orb_cell hO hown (show k < k + 1 by omega); rw [← HY.out.1] at f0; rw [← HY.out.2] at f1; clear hown))
    exact bodyPost_ret (v := .tuple #[.agg #[.int .i64 (yn), .int .i64 (yd)], .bool true]) (by simp [results, Try.results22, go_sem, *]) rfl ⟨rfl, (by repeat (first | with_reducible exact Below.refl _ _ | with_reducible assumption | (with_reducible refine Below.trans ?_ (Below.mono (by assumption) (by first | omega | (simp <;> omega)))) | with_reducible apply Below.drew | with_reducible apply below_drewN | (with_reducible refine Below.alloc ?_ (by first | omega | (simp <;> omega)) _) | (with_reducible refine Below.setCell ?_ (by first | omega | (simp <;> omega)) _)))⟩

set_option maxRecDepth 100000 in
set_option maxHeartbeats 1600000 in
theorem sStepsInSize_any (A : Option Addr) (n c base : Nat) (ps : List Pt) (a b m : Int) (w : World) (ha : w.ownsRow base 65 4 (.slice A n c) n (ptcs ps)) (hn : n ≤ 1048576) :
    Calls Try.prog 38 #[.slice A n c, .agg #[.int .i64 (a), .int .i64 (b)], .int .i64 m] w fun e w' => e = .returned (.tuple #[.int .i64 ((stO ps a b m).getD 0), .bool (stO ps a b m).isSome]) ∧ Below w.heap.size w w' := by
  have hask := fun W hW => orAsked_any A n c base ps a b m W hW hn
  rcases orb_cases ps a b m with ⟨h1, h2, h3⟩ | ⟨qs, x, k, rfl, hg, rfl, rfl, hx, rfl, hk, hr, h1, hcase⟩
  · rw [h1] at hask
    have HI := hide hask; have HA := hide ha
    rw [show stO ps a b m = none by unfold stO; rw [h2]; rfl]
    simp only [Option.getD_none, Option.isSome_none]
    clear hask ha h1 h2 h3
    go_enter Try.func38, Try.ntmps38
    go_wp2_with (go_at_call 62; (with_reducible refine ((unhide HI) _ (own_below (unhide HA) ?pb)).mono ?_); (case pb => exact (by repeat (first | with_reducible exact Below.refl _ _ | with_reducible assumption | (with_reducible refine Below.trans ?_ (Below.mono (by assumption) (by first | omega | (simp <;> omega)))) | with_reducible apply Below.drew | with_reducible apply below_drewN | (with_reducible refine Below.alloc ?_ (by first | omega | (simp <;> omega)) _) | (with_reducible refine Below.setCell ?_ (by first | omega | (simp <;> omega)) _)))); rintro e w1 ⟨rfl, hbw1⟩; have hs1 := hbw1.size; (skip; (try ((have kw1w0 := (bnew hbw1) (w.heap.size) ?pf); (case pf => (first | omega | (simp; done) | (simp; omega))); obtain ⟨kcw1w0, kfw1w0, klw1w0⟩ := kw1w0)); (try ((have kw1w1 := (bnew hbw1) (w.heap.size + 1) ?pf); (case pf => (first | omega | (simp; done) | (simp; omega))); obtain ⟨kcw1w1, kfw1w1, klw1w1⟩ := kw1w1))))
    go_ret2
    exact ⟨rfl, (by repeat (first | with_reducible exact Below.refl _ _ | with_reducible assumption | (with_reducible refine Below.trans ?_ (Below.mono (by assumption) (by first | omega | (simp <;> omega)))) | with_reducible apply Below.drew | with_reducible apply below_drewN | (with_reducible refine Below.alloc ?_ (by first | omega | (simp <;> omega)) _) | (with_reducible refine Below.setCell ?_ (by first | omega | (simp <;> omega)) _)))⟩
  · rw [h1] at hask
    have hlenq : qs.length = n := by have := own_len ha; rw [List.length_map] at this; exact this
    obtain ⟨g, hA⟩ := own_form ha (by have := hg.lo; omega)
    subst hA
    have hrun := fun W hW => orRun_map g n c base qs x k W hW hg hx hk
    obtain ⟨L, hL⟩ : ∃ L, L + 1 = (run qs k x).length := ⟨(run qs k x).length - 1, by have := (run_len qs k x).1; omega⟩
    have hL60 := (run_len qs k x).2
    have HI := hide hask; have HA := hide ha; have HR := hide hrun
    rw [show stO (qs.map qp) x.num x.den k = some (L : Int) by unfold stO; rw [hr]; simp only [Option.map_some, ← hL, Nat.add_sub_cancel]]
    simp only [Option.getD_some, Option.isSome_some]
    clear hask hrun ha hr h1 hlenq hg hx hcase
    rw [← hL] at hL60 HR
    generalize x.num = xn at *
    generalize (x.den : Int) = xd at *
    clear hL
    have t1 : IntKind.i64.wrap (L : Int) = (L : Int) := IntWalk.i64_in _ (by omega)
    go_enter Try.func38, Try.ntmps38
    go_wp2_with (first
      | (go_at_call 62; (with_reducible refine ((unhide HI) _ (own_below (unhide HA) ?pb)).mono ?_); (case pb => exact (by repeat (first | with_reducible exact Below.refl _ _ | with_reducible assumption | (with_reducible refine Below.trans ?_ (Below.mono (by assumption) (by first | omega | (simp <;> omega)))) | with_reducible apply Below.drew | with_reducible apply below_drewN | (with_reducible refine Below.alloc ?_ (by first | omega | (simp <;> omega)) _) | (with_reducible refine Below.setCell ?_ (by first | omega | (simp <;> omega)) _)))); rintro e w1 ⟨rfl, hbw1⟩; have hs1 := hbw1.size; (skip; (try ((have kw1w0 := (bnew hbw1) (w.heap.size) ?pf); (case pf => (first | omega | (simp; done) | (simp; omega))); obtain ⟨kcw1w0, kfw1w0, klw1w0⟩ := kw1w0)); (try ((have kw1w1 := (bnew hbw1) (w.heap.size + 1) ?pf); (case pf => (first | omega | (simp; done) | (simp; omega))); obtain ⟨kcw1w1, kfw1w1, klw1w1⟩ := kw1w1))))
      | (go_at_call 63; (with_reducible refine ((unhide HR) _ (own_below (unhide HA) ?pb)).mono ?_); (case pb => exact (by repeat (first | with_reducible exact Below.refl _ _ | with_reducible assumption | (with_reducible refine Below.trans ?_ (Below.mono (by assumption) (by first | omega | (simp <;> omega)))) | with_reducible apply Below.drew | with_reducible apply below_drewN | (with_reducible refine Below.alloc ?_ (by first | omega | (simp <;> omega)) _) | (with_reducible refine Below.setCell ?_ (by first | omega | (simp <;> omega)) _)))); rintro e w2 ⟨gs, d, rfl, hown, hbw2⟩; have hs2 := hbw2.size; (skip; (try ((have kw2w0 := (bnew hbw2) (w.heap.size) ?pf); (case pf => (first | omega | (simp; done) | (simp; omega))); obtain ⟨kcw2w0, kfw2w0, klw2w0⟩ := kw2w0)); (try ((have kw2w1 := (bnew hbw2) (w.heap.size + 1) ?pf); (case pf => (first | omega | (simp; done) | (simp; omega))); obtain ⟨kcw2w1, kfw2w1, klw2w1⟩ := kw2w1))); clear hown))
    go_ret2
    exact ⟨by simp [*], (by repeat (first | with_reducible exact Below.refl _ _ | with_reducible assumption | (with_reducible refine Below.trans ?_ (Below.mono (by assumption) (by first | omega | (simp <;> omega)))) | with_reducible apply Below.drew | with_reducible apply below_drewN | (with_reducible refine Below.alloc ?_ (by first | omega | (simp <;> omega)) _) | (with_reducible refine Below.setCell ?_ (by first | omega | (simp <;> omega)) _)))⟩
set_option maxRecDepth 100000 in
set_option maxHeartbeats 1600000 in
theorem iStepsInSize_any (A : Option Addr) (n c base : Nat) (ps : List Pt) (a b m : Int) (w : World) (ha : w.ownsRow base 65 4 (.slice A n c) n (ptcs ps)) (hn : n ≤ 1048576) :
    Calls Try.prog 39 #[.slice A n c, .agg #[.int .i64 (a), .int .i64 (b)], .int .i64 m] w fun e w' => e = .returned (.tuple #[.int .i64 ((stO ps a b m).getD 0), .bool (stO ps a b m).isSome]) ∧ Below w.heap.size w w' := by
  have hin := fun W hW => inSize_any A n c base ps a b m W hW hn
  rcases orb_cases ps a b m with ⟨h1, h2, h3⟩ | ⟨qs, x, k, rfl, hg, rfl, rfl, hx, rfl, hk, hr, h1, hcase⟩
  · rw [h2] at hin
    have HI := hide hin; have HA := hide ha
    rw [show stO ps a b m = none by unfold stO; rw [h2]; rfl]
    simp only [Option.getD_none, Option.isSome_none]
    clear hin ha h1 h2 h3
    go_enter Try.func39, Try.ntmps39
    go_wp2_with (go_at_call 64; (with_reducible refine ((unhide HI) _ (own_below (unhide HA) ?pb)).mono ?_); (case pb => exact (by repeat (first | with_reducible exact Below.refl _ _ | with_reducible assumption | (with_reducible refine Below.trans ?_ (Below.mono (by assumption) (by first | omega | (simp <;> omega)))) | with_reducible apply Below.drew | with_reducible apply below_drewN | (with_reducible refine Below.alloc ?_ (by first | omega | (simp <;> omega)) _) | (with_reducible refine Below.setCell ?_ (by first | omega | (simp <;> omega)) _)))); rintro e w1 ⟨⟨A1, d1, rfl, hown⟩, hbw1⟩; have hs1 := hbw1.size; (skip; (try ((have kw1w0 := (bnew hbw1) (w.heap.size) ?pf); (case pf => (first | omega | (simp; done) | (simp; omega))); obtain ⟨kcw1w0, kfw1w0, klw1w0⟩ := kw1w0)); (try ((have kw1w1 := (bnew hbw1) (w.heap.size + 1) ?pf); (case pf => (first | omega | (simp; done) | (simp; omega))); obtain ⟨kcw1w1, kfw1w1, klw1w1⟩ := kw1w1))); clear hown)
    go_ret2
    exact ⟨rfl, (by repeat (first | with_reducible exact Below.refl _ _ | with_reducible assumption | (with_reducible refine Below.trans ?_ (Below.mono (by assumption) (by first | omega | (simp <;> omega)))) | with_reducible apply Below.drew | with_reducible apply below_drewN | (with_reducible refine Below.alloc ?_ (by first | omega | (simp <;> omega)) _) | (with_reducible refine Below.setCell ?_ (by first | omega | (simp <;> omega)) _)))⟩
  · rw [hr] at hin
    obtain ⟨L, hL⟩ : ∃ L, L + 1 = (run qs k x).length := ⟨(run qs k x).length - 1, by have := (run_len qs k x).1; omega⟩
    have hL60 := (run_len qs k x).2
    rw [show stO (qs.map qp) x.num x.den k = some (L : Int) by unfold stO; rw [hr]; simp only [Option.map_some, ← hL, Nat.add_sub_cancel]]
    simp only [Option.getD_some, Option.isSome_some] at hin ⊢
    have HI := hide hin; have HA := hide ha
    have hlm : ((run qs k x).map qf).length = L + 1 := by rw [List.length_map, hL]
    have HLM := Lib.hid hlm
    clear hin ha hr h1 hg hx hcase hlm
    rw [← hL] at hL60
    clear hL
    generalize x.num = xn at *
    generalize (x.den : Int) = xd at *
    have t1 : IntKind.i64.wrap (L : Int) = (L : Int) := IntWalk.i64_in _ (by omega)
    go_enter Try.func39, Try.ntmps39
    go_wp2_with (go_at_call 64; (with_reducible refine ((unhide HI) _ (own_below (unhide HA) ?pb)).mono ?_); (case pb => exact (by repeat (first | with_reducible exact Below.refl _ _ | with_reducible assumption | (with_reducible refine Below.trans ?_ (Below.mono (by assumption) (by first | omega | (simp <;> omega)))) | with_reducible apply Below.drew | with_reducible apply below_drewN | (with_reducible refine Below.alloc ?_ (by first | omega | (simp <;> omega)) _) | (with_reducible refine Below.setCell ?_ (by first | omega | (simp <;> omega)) _)))); rintro e w1 ⟨⟨A1, d1, rfl, hown⟩, hbw1⟩; rw [HLM.out]; have hs1 := hbw1.size; (skip; (try ((have kw1w0 := (bnew hbw1) (w.heap.size) ?pf); (case pf => (first | omega | (simp; done) | (simp; omega))); obtain ⟨kcw1w0, kfw1w0, klw1w0⟩ := kw1w0)); (try ((have kw1w1 := (bnew hbw1) (w.heap.size + 1) ?pf); (case pf => (first | omega | (simp; done) | (simp; omega))); obtain ⟨kcw1w1, kfw1w1, klw1w1⟩ := kw1w1))); clear hown)
    go_ret2
    exact ⟨by simp [*], (by repeat (first | with_reducible exact Below.refl _ _ | with_reducible assumption | (with_reducible refine Below.trans ?_ (Below.mono (by assumption) (by first | omega | (simp <;> omega)))) | with_reducible apply Below.drew | with_reducible apply below_drewN | (with_reducible refine Below.alloc ?_ (by first | omega | (simp <;> omega)) _) | (with_reducible refine Below.setCell ?_ (by first | omega | (simp <;> omega)) _)))⟩
end Go.Proofs.Ytmkejopkmdcfeaa

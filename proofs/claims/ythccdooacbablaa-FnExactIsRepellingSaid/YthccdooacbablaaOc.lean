/-
  Chapter 4: the cases of a function over an orbit; IterateMap of the model, StepsInSize of both.
-/
import Derived.Test.YthccdooacbablaaOb
namespace Go.Proofs.Ythccdooacbablaa
open Go.RowKit Rm

theorem s_cases {A : Option Addr} {n c base : Nat} {ps : List Pt} {a b m : Int} {w : World} (ha : w.ownsRow base 62 4 (.slice A n c) n (ptcs ps)) (hn : n ≤ 1048576) :
    (orbO ps a b m = none ∧ runO ps a b m = none ∧ (∀ W : World, W.ownsRow base 62 4 (.slice A n c) n (ptcs ps) → Calls Try.prog 107 #[.slice A n c, .agg #[.int .i64 (a), .int .i64 (b)], .int .i64 m] W fun e w' => e = .returned (.bool false) ∧ Below W.heap.size W w')) ∨
    (∃ (qs : List QP) (x : Rat) (k L : Nat), ps = qs.map qp ∧ a = x.num ∧ b = (x.den : Int) ∧ m = k ∧ k ≤ 60 ∧ 1 ≤ L ∧ L ≤ k ∧ orbO ps a b m = none ∧ runO ps a b m = some (run qs k x) ∧ (run qs k x).length = L ∧
      (∀ W : World, W.ownsRow base 62 4 (.slice A n c) n (ptcs ps) → Calls Try.prog 107 #[.slice A n c, .agg #[.int .i64 (a), .int .i64 (b)], .int .i64 m] W fun e w' => e = .returned (.bool true) ∧ Below W.heap.size W w') ∧
      (∀ W : World, W.ownsRow base 62 4 (.slice A n c) n (ptcs ps) → Calls Try.prog 54 #[.slice A n c, .agg #[.int .i64 (a), .int .i64 (b)], .int .i64 m] W fun e w' => ∃ gs d : Nat, e = .returned (.slice (some ⟨gs, 0, none⟩) L d) ∧ Below W.heap.size W w')) ∨
    (∃ (qs : List QP) (x : Rat) (k : Nat), ps = qs.map qp ∧ a = x.num ∧ b = (x.den : Int) ∧ m = k ∧ k ≤ 60 ∧ Orb qs x k (run qs k x) ∧ orbO ps a b m = some (run qs k x) ∧ runO ps a b m = some (run qs k x) ∧
      (∀ W : World, W.ownsRow base 62 4 (.slice A n c) n (ptcs ps) → Calls Try.prog 107 #[.slice A n c, .agg #[.int .i64 (a), .int .i64 (b)], .int .i64 m] W fun e w' => e = .returned (.bool true) ∧ Below W.heap.size W w') ∧
      (∀ W : World, W.ownsRow base 62 4 (.slice A n c) n (ptcs ps) → Calls Try.prog 54 #[.slice A n c, .agg #[.int .i64 (a), .int .i64 (b)], .int .i64 m] W fun e w' => ∃ gs d : Nat, e = .returned (.slice (some ⟨gs, 0, none⟩) (k + 1) d) ∧
        w'.ownsRow W.heap.size 26 2 (.slice (some ⟨gs, 0, none⟩) (k + 1) d) (k + 1) (frcs ((run qs k x).map qf)) ∧ Below W.heap.size W w')) := by
  have hask := fun W hW => orAsked_any A n c base ps a b m W hW hn
  rcases orb_cases ps a b m with ⟨h1, h2, h3⟩ | ⟨qs, x, k, rfl, hg, rfl, rfl, hx, rfl, hk, hr, h1, hcase⟩
  · rw [h1] at hask
    exact .inl ⟨h3, h2, hask⟩
  · rw [h1] at hask
    have hlenq : qs.length = n := by have := own_len ha; rw [List.length_map] at this; exact this
    obtain ⟨g, hA⟩ := own_form0 ha (by have := hg.lo; omega)
    subst hA
    rcases hcase with ⟨hl1, hl, ho⟩ | ⟨hO, ho⟩
    · refine .inr (.inl ⟨qs, x, k, _, rfl, rfl, rfl, rfl, hk, hl1, hl, ho, hr, rfl, hask, fun W hW => (orRun_map g n c base qs x k W hW hg hx hk).mono ?_⟩)
      rintro e w' ⟨gs, d, he, _, hb⟩
      exact ⟨gs, d, he, hb⟩
    · refine .inr (.inr ⟨qs, x, k, rfl, rfl, rfl, rfl, hk, hO, ho, hr, hask, fun W hW => (orRun_map g n c base qs x k W hW hg hx hk).mono ?_⟩)
      rintro e w' ⟨gs, d, he, hown, hb⟩
      rw [hO.len] at he hown
      exact ⟨gs, d, he, hown, hb⟩
theorem i_cases {A : Option Addr} {n c base : Nat} {ps : List Pt} {a b m : Int} (hn : n ≤ 1048576) :
    (orbO ps a b m = none ∧ (∀ W : World, W.ownsRow base 62 4 (.slice A n c) n (ptcs ps) → Calls Try.prog 96 #[.slice A n c, .agg #[.int .i64 (a), .int .i64 (b)], .int .i64 m] W fun e w' => ∃ (B : Option Addr) (d : Nat), e = .returned (.tuple #[.slice B 0 d, .bool false]) ∧ Below W.heap.size W w')) ∨
    (∃ (qs : List QP) (x : Rat) (k : Nat), ps = qs.map qp ∧ a = x.num ∧ b = (x.den : Int) ∧ m = k ∧ k ≤ 60 ∧ Orb qs x k (run qs k x) ∧ orbO ps a b m = some (run qs k x) ∧
      (∀ W : World, W.ownsRow base 62 4 (.slice A n c) n (ptcs ps) → Calls Try.prog 96 #[.slice A n c, .agg #[.int .i64 (a), .int .i64 (b)], .int .i64 m] W fun e w' => ∃ gs d : Nat, e = .returned (.tuple #[.slice (some ⟨gs, 0, none⟩) (k + 1) d, .bool true]) ∧
        w'.ownsRow W.heap.size 26 2 (.slice (some ⟨gs, 0, none⟩) (k + 1) d) (k + 1) (frcs ((run qs k x).map qf)) ∧ Below W.heap.size W w')) := by
  rcases orb_cases ps a b m with ⟨h1, h2, h3⟩ | ⟨qs, x, k, rfl, hg, rfl, rfl, hx, rfl, hk, hr, _, ⟨hl1, hl, ho⟩ | ⟨hO, ho⟩⟩
  · exact .inl ⟨h3, iOrb_none hn h3⟩
  · exact .inl ⟨ho, iOrb_none hn ho⟩
  · exact .inr ⟨qs, x, k, rfl, rfl, rfl, rfl, hk, hO, ho, iOrb_some hn hO ho⟩

end Go.Proofs.Ythccdooacbablaa

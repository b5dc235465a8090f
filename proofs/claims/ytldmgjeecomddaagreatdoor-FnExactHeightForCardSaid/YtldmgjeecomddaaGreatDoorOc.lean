/-
  Chapter 4: the cases of a function over an orbit; IterateMap of the model, StepsInSize of both.
-/
import Derived.Test.YtldmgjeecomddaaGreatDoorOb
namespace Go.Proofs.YtldmgjeecomddaaGreatDoor
open Go.RowKit Rm

theorem i_cases {A : Option Addr} {n c base : Nat} {ps : List Pt} {a b m : Int} (hn : n ≤ 1048576) :
    (orbO ps a b m = none ∧ (∀ W : World, W.ownsRow base 50 4 (.slice A n c) n (ptcs ps) → Calls Tryz.prog 52 #[.slice A n c, .agg #[.int .i64 (a), .int .i64 (b)], .int .i64 m] W fun e w' => ∃ (B : Option Addr) (d : Nat), e = .returned (.tuple #[.slice B 0 d, .bool false]) ∧ Below W.heap.size W w')) ∨
    (∃ (qs : List QP) (x : Rat) (k : Nat), ps = qs.map qp ∧ a = x.num ∧ b = (x.den : Int) ∧ m = k ∧ k ≤ 60 ∧ Orb qs x k (run qs k x) ∧ orbO ps a b m = some (run qs k x) ∧
      (∀ W : World, W.ownsRow base 50 4 (.slice A n c) n (ptcs ps) → Calls Tryz.prog 52 #[.slice A n c, .agg #[.int .i64 (a), .int .i64 (b)], .int .i64 m] W fun e w' => ∃ gs d : Nat, e = .returned (.tuple #[.slice (some ⟨gs, 0, none⟩) (k + 1) d, .bool true]) ∧
        w'.ownsRow W.heap.size 23 2 (.slice (some ⟨gs, 0, none⟩) (k + 1) d) (k + 1) (frcs ((run qs k x).map qf)) ∧ Below W.heap.size W w')) := by
  rcases orb_cases ps a b m with ⟨h1, h2, h3⟩ | ⟨qs, x, k, rfl, hg, rfl, rfl, hx, rfl, hk, hr, _, ⟨hl1, hl, ho⟩ | ⟨hO, ho⟩⟩
  · exact .inl ⟨h3, iOrb_none hn h3⟩
  · exact .inl ⟨ho, iOrb_none hn ho⟩
  · exact .inr ⟨qs, x, k, rfl, rfl, rfl, rfl, hk, hO, ho, iOrb_some hn hO ho⟩

end Go.Proofs.YtldmgjeecomddaaGreatDoor

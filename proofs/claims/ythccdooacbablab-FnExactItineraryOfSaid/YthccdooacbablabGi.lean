/-
  The answer of a function that gives a slice of integers and whether there is one.
-/
import Derived.Test.YthccdooacbablabNs
namespace Go.Proofs.Ythccdooacbablab
open Go.RowKit Rm

def GivesI (B : Nat) (xs : List Int) (z : Bool) (e : Ending) (w' : World) : Prop :=
  ∃ (A : Option Addr) (d : Nat), e = .returned (.tuple #[.slice A xs.length d, .bool z]) ∧ w'.ownsRow B 3 1 (.slice A xs.length d) xs.length (ints xs)
theorem givesI_none (B : Nat) (w : World) : GivesI B [] false (.returned (.tuple #[.slice none 0 0, .bool false])) w := ⟨none, 0, rfl, rfl, .inl ⟨rfl, rfl⟩⟩
end Go.Proofs.Ythccdooacbablab

/-
  Chapter 2: the laws of the functions that give a slice.
-/
import Derived.Test.YthccdooacbablabSlo
namespace Go.Proofs.Ythccdooacbablab
open Go.RowKit Rm

theorem own_kept {w w' : World} {base : Nat} {e : TypeId} {size : Nat} {v : Value} {n : Nat} {xs : List Value} {row : Option Nat} (h : w.ownsRow base e size v n xs) (hg : w.grownBy w' row) (hne : ∀ k, v.ownBlock = some k → some k ≠ row) : w'.ownsRow base e size v n xs := by
  refine h.kept hg ?_
  cases hv : v.ownBlock with
  | none => exact .inl rfl
  | some k => exact .inr (hne k hv)

end Go.Proofs.Ythccdooacbablab

/-
  Chapter 2: SimpleMap: what both return, at any argument.
-/
import Derived.Test.YthccdooacbablabSims
import Derived.Test.YthccdooacbablabLawS
namespace Go.Proofs.Ythccdooacbablab
open Go.RowKit Rm

/-- The answer of a function that gives a slice of points and whether the map is one. -/
def GivesP (B : Nat) (xs : List Pt) (z : Bool) (e : Ending) (w' : World) : Prop :=
  ∃ (A : Option Addr) (d : Nat), e = .returned (.tuple #[.slice A xs.length d, .bool z]) ∧ w'.ownsRow B 45 4 (.slice A xs.length d) xs.length (ptcs xs)
theorem own_form {w : World} {base n c : Nat} {A : Option Addr} {ps : List Pt} (ha : w.ownsRow base 45 4 (.slice A n c) n (ptcs ps)) (hm : mapB ps = true) :
    ∃ (g m : Nat) (qs : List QP), A = some ⟨g, 0, none⟩ ∧ n = m + 1 ∧ ps = qs.map qp ∧ GMap qs ∧ qs.length = m + 1 := by
  obtain ⟨qs, rfl, hg⟩ := gmap_of hm
  have hlen : qs.length = n := by have := own_len ha; rw [List.length_map] at this; exact this
  have hlo := hg.lo
  obtain ⟨g, cap, hv, _, hgl⟩ := ha.form (by omega)
  have hA : A = some ⟨g, 0, none⟩ := by injection hv
  exact ⟨g, n - 1, qs, hA, by omega, rfl, hg, by omega⟩
end Go.Proofs.Ythccdooacbablab

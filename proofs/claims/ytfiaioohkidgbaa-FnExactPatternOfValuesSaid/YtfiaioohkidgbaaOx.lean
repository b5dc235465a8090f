/-
  Chapter 4: the cycle of a fraction that is met again, of both.
-/
import Derived.Test.YtfiaioohkidgbaaOl
namespace Go.Proofs.Ytfiaioohkidgbaa
open Go.RowKit Rm

/-- The cycle of a fraction that is met again, from it on. -/
def cyO (ps : List Pt) (a b m : Int) : Option (List Rat) := (orbO ps a b m).bind fun l => (perO l).bind fun r => if r.1 = 0 then some (cyL l r) else none
theorem cyO_none {ps : List Pt} {a b m : Int} (h : peO ps a b m = none) : cyO ps a b m = none := by
  unfold peO at h
  unfold cyO
  cases ho : orbO ps a b m with
  | none => rfl
  | some l =>
    rw [ho] at h
    have h' : perO l = none := h
    show (perO l).bind _ = none
    rw [h', Option.bind_none]
theorem cyO_some {ps : List Pt} {a b m : Int} {l : List Rat} {r : Nat × Nat} (ho : orbO ps a b m = some l) (h : perO l = some r) : cyO ps a b m = if r.1 = 0 then some (cyL l r) else none := by
  unfold cyO; rw [ho]
  show (perO l).bind _ = _
  rw [h]; rfl
theorem run_head (qs : List QP) (k : Nat) (x : Rat) : (run qs k x).getD 0 0 = x := by
  obtain ⟨l, e⟩ := run_ne qs x k
  rw [e]; rfl
structure Cyc (qs : List QP) (cy : List Rat) (P : Nat) : Prop where
  map : GMap qs
  len : cy.length = P
  lo : 1 ≤ P
  hi : P ≤ 60
  all : ∀ i, i < P → Un (cy.getD i 0)
theorem cyc_of {qs : List QP} {x : Rat} {k a b : Nat} (hO : Orb qs x k (run qs k x)) (h : perO (run qs k x) = some (a, b)) : Cyc qs (cyL (run qs k x) (a, b)) b := by
  obtain ⟨h1, h2, _, _, _, _⟩ := per_parts hO h
  have hk := hO.hk
  exact ⟨hO.map, cyL_len (by rw [hO.len]; omega), h1, by omega, fun i hi => by rw [cyL_get hi]; exact hO.all _ (by omega)⟩

end Go.Proofs.Ytfiaioohkidgbaa

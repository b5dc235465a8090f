/-
  Chapter 2: ValueAt of the program and of the model.
-/
import Derived.Test.YtfiaioohkidgbaaVq
import Derived.Test.YtfiaioohkidgbaaOm
import Derived.Deep.DeepCutAuto
namespace Go.Proofs.Ytfiaioohkidgbaa
open Go.RowKit Rm

/-- The value of a map at a fraction, if both are valid. -/
def valO (ps : List Pt) (a b : Int) : Option Rat :=
  match uB a b, mapB ps with
  | true, true => vAt (ps.map fun p => (Rat.divInt p.1.1 p.1.2, Rat.divInt p.2.1 p.2.2)) (Rat.divInt a b)
  | _, _ => none
theorem valO_eq {qs : List QP} (hg : GMap qs) {x : Rat} (h : uB x.num x.den = true) : valO (qs.map qp) x.num x.den = vAt qs x := by
  have e : (qs.map qp).map (fun p => (Rat.divInt p.1.1 p.1.2, Rat.divInt p.2.1 p.2.2)) = qs := by
    rw [List.map_map]
    conv => rhs; rw [← List.map_id qs]
    refine List.map_congr_left fun q _ => ?_
    show (Rat.divInt q.1.num q.1.den, Rat.divInt q.2.num q.2.den) = q
    rw [Rat.num_divInt_den, Rat.num_divInt_den]
  unfold valO
  simp only [h, hg.mapB, e, Rat.num_divInt_den]
theorem valO_no {ps : List Pt} {a b : Int} (h : uB a b = false ∨ mapB ps = false) : valO ps a b = none := by
  unfold valO
  rcases h with h | h
  · simp [h]
  · simp [h]
/-- The first piece that has a fraction. -/
def Piece (qs : List QP) (x : Rat) (i : Nat) : Prop := i + 1 < qs.length ∧ (∀ j, j < i → (qAt qs (j + 1)).1 < x) ∧ (i + 2 < qs.length → ¬ (qAt qs (i + 1)).1 < x)
theorem Piece.val {qs : List QP} {x : Rat} {i : Nat} (h : Piece qs x i) : vAt qs x = onR (qAt qs i) (qAt qs (i + 1)) x := vAt_eq h.1 h.2.1 h.2.2
theorem upto_step {qs : List QP} {x : Rat} {k : Nat} (h : ∀ j, j < k → (qAt qs (j + 1)).1 < x) (hk : (qAt qs (k + 1)).1 < x) : ∀ j, j < k + 1 → (qAt qs (j + 1)).1 < x := by
  intro j hj
  rcases Nat.lt_or_eq_of_le (Nat.le_of_lt_succ hj) with h1 | rfl
  · exact h j h1
  · exact hk

end Go.Proofs.Ytfiaioohkidgbaa

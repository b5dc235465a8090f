/-
  Chapter 2: SlopesOf of the program and of the model.
-/
import Derived.Test.YtfiaioohkidgbaaVa
import Derived.Deep.AppendLies
import Derived.Deep.Onto
namespace Go.Proofs.Ytfiaioohkidgbaa
open Go.RowKit Rm

/-- A list of points as rational numbers. -/
def dec (ps : List Pt) : List QP := ps.map fun p => (Rat.divInt p.1.1 p.1.2, Rat.divInt p.2.1 p.2.2)
theorem dec_qp (qs : List QP) : dec (qs.map qp) = qs := by
  unfold dec
  rw [List.map_map]
  conv => rhs; rw [← List.map_id qs]
  refine List.map_congr_left fun q _ => ?_
  show (Rat.divInt q.1.num q.1.den, Rat.divInt q.2.num q.2.den) = q
  rw [Rat.num_divInt_den, Rat.num_divInt_den]
/-- The slopes, as pairs of integers. -/
def slF (ps : List Pt) : List Fr := match mapB ps with | true => (slopesK (dec ps) (ps.length - 1)).map qf | false => []
theorem slF_map {qs : List QP} (hg : GMap qs) : slF (qs.map qp) = (slopesK qs (qs.length - 1)).map qf := by
  unfold slF; simp only [hg.mapB, dec_qp, List.length_map]
theorem slF_no {ps : List Pt} (h : mapB ps = false) : slF ps = [] := by unfold slF; simp only [h]
theorem frcs_snoc (xs : List Fr) (a b : Int) : frcs (xs ++ [(a, b)]) = frcs xs ++ [.int .i64 a, .int .i64 b] := by simp [frcs, frc]
theorem own_slice {w : World} {base : Nat} {e : TypeId} {size : Nat} {v : Value} {n : Nat} {xs : List Value} (h : w.ownsRow base e size v n xs) : ∃ (A : Option Addr) (c : Nat), v = .slice A n c := by
  rcases h.2 with ⟨rfl, rfl⟩ | ⟨g, cap, _, rfl, _⟩
  · exact ⟨_, _, rfl⟩
  · exact ⟨_, _, rfl⟩
theorem grown_far {w w' : World} {v : Value} {B g : Nat} (h : w.grownBy w' v.ownBlock) (hv : ∀ k, v.ownBlock = some k → B ≤ k) (hg : g < B) (hgs : g < w.heap.size) : ∀ o, w'.cell? ⟨g, o, none⟩ = w.cell? ⟨g, o, none⟩ :=
  fun o => World.cell?_of_block (a := ⟨g, o, none⟩) (h.block g hgs (fun e => by have := hv g e.symm; omega))

theorem slF_len (ps : List Pt) : (slF ps).length ≤ 1048576 := by
  unfold slF
  cases h : mapB ps with
  | false => simp
  | true =>
    have h2 : ps.length ≤ 12 := by
      rcases Decidable.em (2 ≤ ps.length ∧ ps.length ≤ 12) with h1 | h1
      · exact h1.2
      · rw [mapB_len h1] at h; cases h
    simp [slopesK]
    omega
end Go.Proofs.Ytfiaioohkidgbaa

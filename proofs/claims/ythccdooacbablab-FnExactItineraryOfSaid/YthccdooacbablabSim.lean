/-
  Chapter 2: SimpleMap of the program and of the model.
-/
import Derived.Test.YthccdooacbablabSlo
import Derived.Test.YthccdooacbablabCm
namespace Go.Proofs.Ythccdooacbablab
open Go.RowKit Rm

def simF (ps : List Pt) : List Pt := match mapB ps with | true => (simK (dec ps) ps.length ps.length).map qp | false => []
theorem simF_map {qs : List QP} (hg : GMap qs) : simF (qs.map qp) = (simK qs qs.length qs.length).map qp := by
  unfold simF; simp only [hg.mapB, dec_qp, List.length_map]
theorem simF_no {ps : List Pt} (h : mapB ps = false) : simF ps = [] := by unfold simF; simp only [h]
theorem simF_len (ps : List Pt) : (simF ps).length ≤ 1048576 := by
  unfold simF
  cases h : mapB ps with
  | false => simp
  | true =>
    have h2 : ps.length ≤ 12 := by
      rcases Decidable.em (2 ≤ ps.length ∧ ps.length ≤ 12) with h1 | h1
      · exact h1.2
      · rw [mapB_len h1] at h; cases h
    have := simK_len (dec ps) ps.length ps.length
    simp only [List.length_map]
    omega
theorem ptcs_snoc (xs : List Pt) (a b c d : Int) : ptcs (xs ++ [((a, b), (c, d))]) = ptcs xs ++ [.int .i64 a, .int .i64 b, .int .i64 c, .int .i64 d] := by simp [ptcs, ptc]
/-- The kept points of the first k + 1 as cells. -/
theorem simK_yes {qs : List QP} {n k : Nat} (h : keepB qs n k = true) : (simK qs n (k + 1)).length = (simK qs n k).length + 1 ∧
    ptcs ((simK qs n (k + 1)).map qp) = ptcs ((simK qs n k).map qp) ++ [.int .i64 (qAt qs k).1.num, .int .i64 (qAt qs k).1.den, .int .i64 (qAt qs k).2.num, .int .i64 (qAt qs k).2.den] := by
  have e : simK qs n (k + 1) = simK qs n k ++ [qAt qs k] := by simp only [simK, if_pos h]
  rw [e]
  refine ⟨by simp, ?_⟩
  rw [List.map_append, ← ptcs_snoc]
  rfl
theorem simK_no {qs : List QP} {n k : Nat} (h : keepB qs n k = false) : simK qs n (k + 1) = simK qs n k := by
  simp [simK, h]

end Go.Proofs.Ythccdooacbablab

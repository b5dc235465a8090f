/-
  Chapter 2: the value on a piece, the way back, and the value of a map, in terms of rational numbers.
-/
import Derived.Test.YteannojgicpbnabV
import Derived.Test.YteannojgicpbnabIs
import Derived.Test.YteannojgicpbnabIg
import Derived.IntWalk
namespace Go.Proofs.Yteannojgicpbnab
open Go.RowKit Rm

theorem odiv_none (y : Option Rat) : odiv none y = none := rfl
theorem oadd_none (x : Option Rat) : oadd x none = none := by cases x <;> rfl
theorem omul_none_r (x : Option Rat) : omul x none = none := by cases x <;> rfl
theorem none_of {x : Option Rat} (h : x.isSome = false) : x = none := by cases x <;> simp_all

/-- The fraction on a piece that has a value. -/
def backR (p q : QP) (y : Rat) : Option Rat := oadd (some p.1) (odiv (osub (some y) (some p.2)) (some (slopeR p q)))
theorem pointOnPiece_q (p q : QP) (y : Rat) (hy : fits y = true) (h1 : co p.1) (h2 : co p.2) (h3 : co q.1) (h4 : co q.2) (hlt : p.1 < q.1) (w : World) :
    Calls Try.prog 36 #[.agg #[.int .i64 (p.1.num), .int .i64 (p.1.den), .int .i64 (p.2.num), .int .i64 (p.2.den)], .agg #[.int .i64 (q.1.num), .int .i64 (q.1.den), .int .i64 (q.2.num), .int .i64 (q.2.den)], .agg #[.int .i64 (y.num), .int .i64 (y.den)]] w fun e w' =>
      e = .returned (.tuple #[.agg #[.int .i64 (oN (backR p q y)), .int .i64 (oD (backR p q y))], .bool (backR p q y).isSome]) ∧ Below w.heap.size w w' := by
  have hs := isR_some (slope_fits h1 h2 h3 h4 hlt)
  have hf := isR_osub (some y) (some p.2)
  refine pointOnPiece_w _ _ _ _ _ _ _ _ _ _ (oN (osub (some y) (some p.2))) (oD (osub (some y) (some p.2))) _ _ (oN (odiv (osub (some y) (some p.2)) (some (slopeR p q)))) (oD (odiv (osub (some y) (some p.2)) (some (slopeR p q)))) _ _
    (osub (some y) (some p.2)).isSome (odiv (osub (some y) (some p.2)) (some (slopeR p q))).isSome _ w (fun W => ?_) (fun W => slopeOf_q p q h1 h2 h3 h4 hlt W) (fun W => ?_) (fun W => ?_) (fun h => ?_) (fun h => ?_)
  · exact iSubtractRats_o (some y) (some p.2) (isR_some hy) (isR_some (co_fits h2)) W
  · exact iDivideRats_o _ (some (slopeR p q)) hf hs W
  · exact iAddRats_o (some p.1) _ (isR_some (co_fits h1)) (isR_odiv _ _) W
  · unfold backR; rw [none_of h, odiv_none, oadd_none]; exact ⟨rfl, rfl, rfl⟩
  · unfold backR; rw [none_of h, oadd_none]; exact ⟨rfl, rfl, rfl⟩
theorem imBack_q (p q : QP) (y : Rat) (hy : fits y = true) (h1 : co p.1) (h2 : co p.2) (h3 : co q.1) (h4 : co q.2) (hlt : p.1 < q.1) (w : World) :
    Calls Try.prog 54 #[.agg #[.int .i64 (p.1.num), .int .i64 (p.1.den), .int .i64 (p.2.num), .int .i64 (p.2.den)], .agg #[.int .i64 (q.1.num), .int .i64 (q.1.den), .int .i64 (q.2.num), .int .i64 (q.2.den)], .agg #[.int .i64 (y.num), .int .i64 (y.den)]] w fun e w' =>
      e = .returned (.tuple #[.agg #[.int .i64 (oN (backR p q y)), .int .i64 (oD (backR p q y))], .bool (backR p q y).isSome]) ∧ Below w.heap.size w w' := by
  have hs := isR_some (slope_fits h1 h2 h3 h4 hlt)
  have hf := isR_osub (some y) (some p.2)
  refine imBack_w _ _ _ _ _ _ _ _ _ _ (oN (osub (some y) (some p.2))) (oD (osub (some y) (some p.2))) _ _ (oN (odiv (osub (some y) (some p.2)) (some (slopeR p q)))) (oD (odiv (osub (some y) (some p.2)) (some (slopeR p q)))) _ _
    (osub (some y) (some p.2)).isSome (odiv (osub (some y) (some p.2)) (some (slopeR p q))).isSome _ w (fun W => ?_) (fun W => imSlope_q p q h1 h2 h3 h4 hlt W) (fun W => ?_) (fun W => ?_) (fun h => ?_) (fun h => ?_)
  · exact raSub_o (some y) (some p.2) (isR_some hy) (isR_some (co_fits h2)) W
  · exact raDiv_o _ (some (slopeR p q)) hf hs W
  · exact raAdd_o (some p.1) _ (isR_some (co_fits h1)) (isR_odiv _ _) W
  · unfold backR; rw [none_of h, odiv_none, oadd_none]; exact ⟨rfl, rfl, rfl⟩
  · unfold backR; rw [none_of h, oadd_none]; exact ⟨rfl, rfl, rfl⟩
theorem uB_rat {a b : Int} (h : uB a b = true) : ∃ r : Rat, a = r.num ∧ b = (r.den : Int) ∧ fits r = true ∧ 0 ≤ r ∧ r ≤ 1 := by
  simp only [uB, Bool.and_eq_true, decide_eq_true_eq] at h
  obtain ⟨r, e1, e2, e3⟩ := rat_of_good h.1
  refine ⟨r, e1.symm, e2.symm, e3, ?_, ?_⟩
  · rw [← Rat.num_nonneg, e1]; exact h.2.1
  · rw [Rat.le_iff]; simp; omega
theorem qp_parts (q : QP) : qp q = ((q.1.num, (q.1.den : Int)), (q.2.num, (q.2.den : Int))) := rfl
/-- The cells of point k. -/
theorem q_cells {w : World} {base : Nat} {g n c : Nat} {qs : List QP} {k : Nat} (h : w.ownsRow base 45 4 (.slice (some ⟨g, 0, none⟩) n c) n (ptcs (qs.map qp))) (hk : k < n) :
    w.cell? ⟨g, k * 4, none⟩ = some (.int .i64 (qAt qs k).1.num) ∧ w.cell? ⟨g, k * 4 + 1, none⟩ = some (.int .i64 (qAt qs k).1.den) ∧ w.cell? ⟨g, k * 4 + 2, none⟩ = some (.int .i64 (qAt qs k).2.num) ∧ w.cell? ⟨g, k * 4 + 3, none⟩ = some (.int .i64 (qAt qs k).2.den) := by
  obtain ⟨g', hg', _, _, h0, h1, h2, h3⟩ := pts_cells h hk ((pAt_map qs k).trans (qp_parts _))
  obtain rfl : g = g' := (Addr.mk.inj (Option.some.inj hg')).1
  exact ⟨h0, h1, h2, h3⟩
end Go.Proofs.Yteannojgicpbnab

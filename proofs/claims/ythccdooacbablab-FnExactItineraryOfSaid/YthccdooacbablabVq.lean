/-
  Chapter 2: the value on a piece, the way back, and the value of a map, in terms of rational numbers.
-/
import Derived.Test.YthccdooacbablabV
import Derived.Test.YthccdooacbablabIs
import Derived.Test.YthccdooacbablabIg
import Derived.IntWalk
namespace Go.Proofs.Ythccdooacbablab
open Go.RowKit Rm

theorem odiv_none (y : Option Rat) : odiv none y = none := rfl
theorem oadd_none (x : Option Rat) : oadd x none = none := by cases x <;> rfl
theorem omul_none_r (x : Option Rat) : omul x none = none := by cases x <;> rfl
theorem none_of {x : Option Rat} (h : x.isSome = false) : x = none := by cases x <;> simp_all

theorem valueOnPiece_q (p q : QP) (x : Rat) (hx : fits x = true) (h1 : co p.1) (h2 : co p.2) (h3 : co q.1) (h4 : co q.2) (hlt : p.1 < q.1) (w : World) :
    Calls Try.prog 61 #[.agg #[.int .i64 (p.1.num), .int .i64 (p.1.den), .int .i64 (p.2.num), .int .i64 (p.2.den)], .agg #[.int .i64 (q.1.num), .int .i64 (q.1.den), .int .i64 (q.2.num), .int .i64 (q.2.den)], .agg #[.int .i64 (x.num), .int .i64 (x.den)]] w fun e w' =>
      e = .returned (.tuple #[.agg #[.int .i64 (oN (onR p q x)), .int .i64 (oD (onR p q x))], .bool (onR p q x).isSome]) ∧ Below w.heap.size w w' := by
  have hs := isR_some (slope_fits h1 h2 h3 h4 hlt)
  have hf := isR_osub (some x) (some p.1)
  refine valueOnPiece_w _ _ _ _ _ _ _ _ _ _ (oN (osub (some x) (some p.1))) (oD (osub (some x) (some p.1))) _ _ (oN (omul (some (slopeR p q)) (osub (some x) (some p.1)))) (oD (omul (some (slopeR p q)) (osub (some x) (some p.1)))) _ _
    (osub (some x) (some p.1)).isSome (omul (some (slopeR p q)) (osub (some x) (some p.1))).isSome _ w (fun W => ?_) (fun W => slopeOf_q p q h1 h2 h3 h4 hlt W) (fun W => ?_) (fun W => ?_) (fun h => ?_) (fun h => ?_)
  · exact iSubtractRats_o (some x) (some p.1) (isR_some hx) (isR_some (co_fits h1)) W
  · exact iMultiplyRats_o (some (slopeR p q)) _ hs hf W
  · exact iAddRats_o (some p.2) _ (isR_some (co_fits h2)) (isR_omul _ _) W
  · unfold onR; rw [none_of h, omul_none_r, oadd_none]; exact ⟨rfl, rfl, rfl⟩
  · unfold onR; rw [none_of h, oadd_none]; exact ⟨rfl, rfl, rfl⟩
theorem imOn_q (p q : QP) (x : Rat) (hx : fits x = true) (h1 : co p.1) (h2 : co p.2) (h3 : co q.1) (h4 : co q.2) (hlt : p.1 < q.1) (w : World) :
    Calls Try.prog 44 #[.agg #[.int .i64 (p.1.num), .int .i64 (p.1.den), .int .i64 (p.2.num), .int .i64 (p.2.den)], .agg #[.int .i64 (q.1.num), .int .i64 (q.1.den), .int .i64 (q.2.num), .int .i64 (q.2.den)], .agg #[.int .i64 (x.num), .int .i64 (x.den)]] w fun e w' =>
      e = .returned (.tuple #[.agg #[.int .i64 (oN (onR p q x)), .int .i64 (oD (onR p q x))], .bool (onR p q x).isSome]) ∧ Below w.heap.size w w' := by
  have hs := isR_some (slope_fits h1 h2 h3 h4 hlt)
  have hf := isR_osub (some x) (some p.1)
  have e : onR p q x = oadd (some p.2) (omul (osub (some x) (some p.1)) (some (slopeR p q))) := by unfold onR; rw [omul_comm]
  rw [e]
  refine imOn_w _ _ _ _ _ _ _ _ _ _ (oN (osub (some x) (some p.1))) (oD (osub (some x) (some p.1))) _ _ (oN (omul (osub (some x) (some p.1)) (some (slopeR p q)))) (oD (omul (osub (some x) (some p.1)) (some (slopeR p q)))) _ _
    (osub (some x) (some p.1)).isSome (omul (osub (some x) (some p.1)) (some (slopeR p q))).isSome _ w (fun W => ?_) (fun W => imSlope_q p q h1 h2 h3 h4 hlt W) (fun W => ?_) (fun W => ?_) (fun h => ?_) (fun h => ?_)
  · exact raSub_o (some x) (some p.1) (isR_some hx) (isR_some (co_fits h1)) W
  · exact raMul_o _ (some (slopeR p q)) hf hs W
  · exact raAdd_o (some p.2) _ (isR_some (co_fits h2)) (isR_omul _ _) W
  · rw [none_of h, omul_comm, omul_none_r, oadd_none]; exact ⟨rfl, rfl, rfl⟩
  · rw [none_of h, oadd_none]; exact ⟨rfl, rfl, rfl⟩
/-- The fraction on a piece that has a value. -/
def backR (p q : QP) (y : Rat) : Option Rat := oadd (some p.1) (odiv (osub (some y) (some p.2)) (some (slopeR p q)))
theorem uB_rat {a b : Int} (h : uB a b = true) : ∃ r : Rat, a = r.num ∧ b = (r.den : Int) ∧ fits r = true ∧ 0 ≤ r ∧ r ≤ 1 := by
  simp only [uB, Bool.and_eq_true, decide_eq_true_eq] at h
  obtain ⟨r, e1, e2, e3⟩ := rat_of_good h.1
  refine ⟨r, e1.symm, e2.symm, e3, ?_, ?_⟩
  · rw [← Rat.num_nonneg, e1]; exact h.2.1
  · rw [Rat.le_iff]; simp; omega
theorem qp_parts (q : QP) : qp q = ((q.1.num, (q.1.den : Int)), (q.2.num, (q.2.den : Int))) := rfl
/-- The cells of point k. -/
theorem q_cells {w : World} {base : Nat} {g n c : Nat} {qs : List QP} {k : Nat} (h : w.ownsRow base 45 4 (.slice (some ⟨g, 0, none⟩) n c) n (ptcs (qs.map qp))) (hk : k < n) :
    w.cell? ⟨g, k * 4, none⟩ = some (.int .i64 (qAt qs k).1.num) ∧ w.cell? ⟨g, k * 4 + 1, none⟩ = some (.int .i64 (qAt qs k).1.den) ∧ w.cell? ⟨g, k * 4 + 2, none⟩ = some (.int .i64 (qAt qs k).2.num) ∧ w.cell? ⟨g, k * 4 + 3, none⟩ = some (.int .i64 (qAt qs k).2.den) := by
  obtain ⟨g', hg', _, _, h0, h1, h2, h3⟩ := pts_cells h hk ((pAt_map qs k).trans (qp_parts _))
  obtain rfl : g = g' := (Addr.mk.inj (Option.some.inj hg')).1
  exact ⟨h0, h1, h2, h3⟩
end Go.Proofs.Ythccdooacbablab

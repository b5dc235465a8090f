/-
  Chapter 2: PointsBefore of the program.
-/
import Derived.Test.YthccdooacbablabPut
import Derived.Test.YthccdooacbablabSima
namespace Go.Proofs.Ythccdooacbablab
open Go.RowKit Rm

theorem frq_snoc (l : List Rat) (y : Rat) : frcs ((l ++ [y]).map qf) = frcs (l.map qf) ++ [.int .i64 y.num, .int .i64 y.den] := by
  rw [List.map_append, ← frcs_snoc]; rfl
section
variable {sd : QP → Int} {inn : QP → QP → Option Rat} {qs : List QP} {k : Nat} {l : List Rat}
theorem pwK_zero (h : pwK sd inn qs k = some l) (h0 : sd (qAt qs k) = 0) : pwK sd inn qs (k + 1) = some (l ++ [(qAt qs k).1]) := by
  simp only [pwK, h, Option.bind_some, pStep, if_pos h0]
  split <;> rfl
theorem pwK_skip (h : pwK sd inn qs k = some l) (h0 : ¬ sd (qAt qs k) = 0) (h1 : k + 1 < qs.length → ¬ sd (qAt qs k) * sd (qAt qs (k + 1)) < 0) : pwK sd inn qs (k + 1) = some l := by
  simp only [pwK, h, Option.bind_some, pStep, if_neg h0]
  split
  · rw [if_neg (h1 (by assumption))]
  · rfl
theorem pwK_in (h : pwK sd inn qs k = some l) (h0 : ¬ sd (qAt qs k) = 0) (hk : k + 1 < qs.length) (h1 : sd (qAt qs k) * sd (qAt qs (k + 1)) < 0) : pwK sd inn qs (k + 1) = (inn (qAt qs k) (qAt qs (k + 1))).map (fun x => l ++ [x]) := by
  simp only [pwK, h, Option.bind_some, pStep, if_neg h0, if_pos hk, if_pos h1]
theorem pwK_none {j : Nat} (h : pwK sd inn qs k = none) : ∀ d, j = k + d → pwK sd inn qs j = none := by
  intro d
  induction d generalizing j with
  | zero => rintro rfl; exact h
  | succ d ih =>
    rintro rfl
    have := ih (j := k + d) rfl
    show (pwK sd inn qs (k + d)).bind _ = none
    rw [this]; rfl
end
theorem cq_mul_wrap (a b c d : Rat) : IntKind.i64.wrap (cq a b * cq c d) = cq a b * cq c d := by
  have h1 := cq_bd a b
  have h2 := cq_bd c d
  refine IntWalk.i64_in _ ?_
  have h3 := mul_bd (a := cq a b) (d := cq c d) (A := 1) (D := 1) (by omega) (by omega) (by omega) (by omega)
  omega

/-! ### Neighbouring points of a map, at some place of a block -/
structure GSeg (qs : List QP) : Prop where
  hi : qs.length ≤ 12
  cx : ∀ i, i < qs.length → co (qAt qs i).1
  cy : ∀ i, i < qs.length → co (qAt qs i).2
  inc : ∀ i, i + 1 < qs.length → (qAt qs i).1 < (qAt qs (i + 1)).1
theorem GMap.seg {qs : List QP} (h : GMap qs) : GSeg qs := ⟨h.hi, h.cx, h.cy, h.inc⟩
structure PCells (w : World) (g a0 : Nat) (qs : List QP) : Prop where
  lt : g < w.heap.size
  cel : ∀ k, k < qs.length → w.cell? ⟨g, a0 + k * 4, none⟩ = some (.int .i64 (qAt qs k).1.num) ∧ w.cell? ⟨g, a0 + k * 4 + 1, none⟩ = some (.int .i64 (qAt qs k).1.den) ∧
    w.cell? ⟨g, a0 + k * 4 + 2, none⟩ = some (.int .i64 (qAt qs k).2.num) ∧ w.cell? ⟨g, a0 + k * 4 + 3, none⟩ = some (.int .i64 (qAt qs k).2.den)
theorem PCells.below {w w' : World} {g a0 : Nat} {qs : List QP} (h : PCells w g a0 qs) (hb : Below w.heap.size w w') : PCells w' g a0 qs :=
  ⟨Nat.lt_of_lt_of_le h.lt hb.size, fun k hk => by
    obtain ⟨h0, h1, h2, h3⟩ := h.cel k hk
    have := h.lt
    exact ⟨(hb.cell (p := ⟨g, a0 + k * 4, none⟩) this).trans h0, (hb.cell (p := ⟨g, a0 + k * 4 + 1, none⟩) this).trans h1, (hb.cell (p := ⟨g, a0 + k * 4 + 2, none⟩) this).trans h2, (hb.cell (p := ⟨g, a0 + k * 4 + 3, none⟩) this).trans h3⟩⟩
theorem PCells.own {w : World} {g n c base : Nat} {qs : List QP} (ha : w.ownsRow base 45 4 (.slice (some ⟨g, 0, none⟩) n c) n (ptcs (qs.map qp))) : PCells w g 0 qs :=
  ⟨(ha.lt g rfl).2, fun k hk => by
    have hlen : qs.length = n := by have := own_len ha; rw [List.length_map] at this; exact this
    have := q_cells ha (k := k) (by omega)
    rw [Nat.zero_add]
    exact this⟩

/-! ### The two functions that PointsBefore hands over -/
end Go.Proofs.Ythccdooacbablab

/-
  Chapter 6: the address of a fraction: firstLapWith of the program, woAddress of the model; AddressOf of both.
-/
import Derived.Test.YthccdooacbablaaWb
import Derived.Test.YthccdooacbablaaPb
import Derived.Test.YthccdooacbablaaVa
namespace Go.Proofs.Ythccdooacbablaa
open Go.RowKit Rm

theorem field0_pt (a b c d : Int) (W : World) : Sem.run Try.prog (Instr.field 62 (.agg #[.int .i64 (a), .int .i64 (b), .int .i64 (c), .int .i64 (d)]) 0) W = .ok (.agg #[.int .i64 (a), .int .i64 (b)]) W := by
  simp [Instr.field, asAgg, go_sem]
theorem field1_pt (a b c d : Int) (W : World) : Sem.run Try.prog (Instr.field 62 (.agg #[.int .i64 (a), .int .i64 (b), .int .i64 (c), .int .i64 (d)]) 1) W = .ok (.agg #[.int .i64 (c), .int .i64 (d)]) W := by
  simp [Instr.field, asAgg, go_sem]

set_option maxRecDepth 100000 in
theorem last_any (g a0 L cc : Nat) (p : QP) (w : World) (hL : L ≤ 100) (hgl : g < w.heap.size) (h0 : w.cell? ⟨g, a0 + L * 4, none⟩ = some (.int .i64 p.1.num)) (h1 : w.cell? ⟨g, a0 + L * 4 + 1, none⟩ = some (.int .i64 p.1.den))
    (h2 : w.cell? ⟨g, a0 + L * 4 + 2, none⟩ = some (.int .i64 p.2.num)) (h3 : w.cell? ⟨g, a0 + L * 4 + 3, none⟩ = some (.int .i64 p.2.den)) :
    Calls Try.prog 138 #[.slice (some ⟨g, a0, none⟩) (L + 1) cc] w fun e w' => e = .returned (.agg #[.int .i64 (p.1.num), .int .i64 (p.1.den), .int .i64 (p.2.num), .int .i64 (p.2.den)]) ∧ Below w.heap.size w w' := by
  generalize p.1.num = f1 at *
  generalize (p.1.den : Int) = f2 at *
  generalize p.2.num = f3 at *
  generalize (p.2.den : Int) = f4 at *
  have s1 : IntKind.i64.wrap (L : Int) = (L : Int) := IntWalk.i64_in _ (by omega)
  have s2 : (0 : Int) ≤ (L : Int) := by omega
  have s3 : (L : Int) < (L : Int) + 1 := by omega
  go_enter Try.func138, Try.ntmps138
  go_wp2_with fail
  exact bodyPost_ret (v := .agg #[.int .i64 (f1), .int .i64 (f2), .int .i64 (f3), .int .i64 (f4)]) (by simp [results, Try.results138, go_sem, *]) rfl ⟨rfl, (by repeat (first | with_reducible exact Below.refl _ _ | with_reducible assumption | (with_reducible refine Below.trans ?_ (Below.mono (by assumption) (by first | omega | (simp <;> omega)))) | with_reducible apply Below.drew | with_reducible apply below_drewN | (with_reducible refine Below.alloc ?_ (by first | omega | (simp <;> omega)) _) | (with_reducible refine Below.setCell ?_ (by first | omega | (simp <;> omega)) _)))⟩
theorem lap_cell {w : World} {B g cf n cl : Nat} {A : Option Addr} {l : List Lap} {k : Nat} {r : Lap} (h : w.ownsRow B 120 1 (.slice A n cl) n (lapVals g cf l)) (hk : l[k]? = some r) :
    ∃ gl, A = some ⟨gl, 0, none⟩ ∧ gl < w.heap.size ∧ B ≤ gl ∧ k < n ∧ w.cell? ⟨gl, k, none⟩ = some (lapVal g cf r) := by
  have hl : l.length = n := by have := h.1; unfold lapVals at this; rw [List.length_map] at this; omega
  have hkn : k < l.length := by
    rcases Nat.lt_or_ge k l.length with h1 | h1
    · exact h1
    · rw [List.getElem?_eq_none h1] at hk; cases hk
  obtain ⟨gl, cap, hv, _, hlt⟩ := h.form (by omega)
  have hA : A = some ⟨gl, 0, none⟩ ∧ cl = cap := by injection hv with h1 _ h2; exact ⟨h1, h2⟩
  obtain ⟨rfl, rfl⟩ := hA
  refine ⟨gl, rfl, hlt, (h.lt gl rfl).1, by omega, (h.cellAt k (by omega)).trans ?_⟩
  unfold lapVals
  rw [List.getElem?_map, hk]
  rfl
/-- A lap's value and the cells of its last point. -/
theorem lap_last {w : World} {g c : Nat} {qs : List QP} {r : Lap} (hp : PCells w g 0 qs) (hr : LapOK (dirR qs) (qs.length - 1) r) (hlo : 2 ≤ qs.length) : ∃ L cc, lapVal g c r = .slice (some ⟨g, r.1 * 4, none⟩) (L + 1) cc ∧ L + r.1 = r.2.1 ∧ 1 ≤ L ∧
    w.cell? ⟨g, r.1 * 4 + L * 4, none⟩ = some (.int .i64 (qAt qs r.2.1).1.num) ∧ w.cell? ⟨g, r.1 * 4 + L * 4 + 1, none⟩ = some (.int .i64 (qAt qs r.2.1).1.den) ∧
    w.cell? ⟨g, r.1 * 4 + L * 4 + 2, none⟩ = some (.int .i64 (qAt qs r.2.1).2.num) ∧ w.cell? ⟨g, r.1 * 4 + L * 4 + 3, none⟩ = some (.int .i64 (qAt qs r.2.1).2.den) := by
  have h1 := hr.lt
  have h2 := hr.le
  obtain ⟨L, hL⟩ : ∃ L, L = r.2.1 - r.1 := ⟨_, rfl⟩
  refine ⟨L, c - r.1, ?_, by omega, by omega, ?_⟩
  · unfold lapVal
    rw [show r.2.1 + 1 - r.1 = L + 1 by omega]
  · have h3 := hp.cel r.2.1 (by omega)
    rw [show 0 + r.2.1 * 4 = r.1 * 4 + L * 4 by omega] at h3
    exact h3

/-! ### The model's address -/
end Go.Proofs.Ythccdooacbablaa

/-
  Ranks in a list of fractions: ranksOf of the program.
-/
import Derived.Test.YtfiaioohkidgbaaOx
import Derived.Test.YtfiaioohkidgbaaKm
import Derived.Deep.OwnRows
namespace Go.Proofs.Ytfiaioohkidgbaa
open Go.RowKit Rm

theorem row_below {w w' : World} {b n : Nat} {t : TypeId} {f : Nat → Value} (h : w.rowIs b t n f) (hb : Below w.heap.size w w') : w'.rowIs b t n f := h.of_block (hb.block b h.lt)
/-- Ranks under way: the first k are done, of rank k the first m elements are counted. -/
def rkW (lt : Nat → Nat → Bool) (P k m : Nat) (i : Nat) : Nat := if i < k then rkN lt i P else if i = k then rkN lt i m else 0
theorem rkW_le (lt : Nat → Nat → Bool) {P k m i : Nat} (hm : m ≤ P) : rkW lt P k m i ≤ P := by
  unfold rkW
  have := rkN_le lt i P
  have := rkN_le lt i m
  split
  · omega
  · split <;> omega
theorem rkW_here (lt : Nat → Nat → Bool) (P k m : Nat) : rkW lt P k m k = rkN lt k m := by unfold rkW; rw [if_neg (by omega), if_pos rfl]
theorem rkW_step {lt : Nat → Nat → Bool} {P k m i : Nat} (h : lt m k = true) : rkW lt P k (m + 1) i = if i = k then rkW lt P k m k + 1 else rkW lt P k m i := by
  rw [rkW_here]
  unfold rkW
  by_cases h1 : i < k
  · rw [if_pos h1, if_neg (by omega), if_pos h1]
  · by_cases h2 : i = k
    · subst h2
      rw [if_neg h1, if_pos rfl, if_pos rfl]
      simp [rkN, h]
    · rw [if_neg h1, if_neg h2, if_neg h2, if_neg h1, if_neg h2]
theorem rkW_skip {lt : Nat → Nat → Bool} {P k m i : Nat} (h : lt m k = false) : rkW lt P k (m + 1) i = rkW lt P k m i := by
  unfold rkW
  by_cases h1 : i < k
  · rw [if_pos h1, if_pos h1]
  · by_cases h2 : i = k
    · subst h2
      rw [if_neg h1, if_pos rfl, if_neg h1, if_pos rfl]
      simp [rkN, h]
    · rw [if_neg h1, if_neg h2, if_neg h1, if_neg h2]
theorem rkW_next (lt : Nat → Nat → Bool) (P k i : Nat) : rkW lt P k P i = rkW lt P (k + 1) 0 i := by
  unfold rkW
  by_cases h1 : i < k
  · rw [if_pos h1, if_pos (by omega)]
  · by_cases h2 : i = k
    · subst h2
      rw [if_neg h1, if_pos rfl, if_pos (by omega)]
    · rw [if_neg h1, if_neg h2, if_neg (by omega)]
      split <;> rfl
theorem rkW_start (lt : Nat → Nat → Bool) (P i : Nat) : rkW lt P 0 0 i = 0 := by
  unfold rkW
  rw [if_neg (by omega)]
  split <;> rfl
theorem rkW_end (lt : Nat → Nat → Bool) {P i : Nat} (m : Nat) (h : i < P) : rkW lt P P m i = rkN lt i P := by unfold rkW; rw [if_pos h]
/-- A row of ranks. -/
def RRow (w : World) (g P : Nat) (f : Nat → Nat) : Prop := w.rowIs g 3 P (fun i => .int .i64 (f i))
theorem RRow.cell {w : World} {g P : Nat} {f : Nat → Nat} (h : RRow w g P f) {i : Nat} (hi : i < P) : w.cell? ⟨g, i, none⟩ = some (.int .i64 (f i)) := World.rowIs.cell h hi
theorem RRow.below {w w' : World} {g P : Nat} {f : Nat → Nat} (h : RRow w g P f) (hb : Below w.heap.size w w') : RRow w' g P f := row_below h hb
theorem RRow.congr {w : World} {g P : Nat} {f f' : Nat → Nat} (h : RRow w g P f) (e : ∀ i, i < P → f i = f' i) : RRow w g P f' := World.rowIs.congr h (fun i hi => by rw [e i hi])
theorem RRow.lt {w : World} {g P : Nat} {f : Nat → Nat} (h : RRow w g P f) : g < w.heap.size := World.rowIs.lt h
theorem RRow.set {w : World} {g P : Nat} {f f' : Nat → Nat} (h : RRow w g P f) (i v : Nat) (e : ∀ j, f' j = if j = i then v else f j) : RRow (w.setCell ⟨g, i, none⟩ (.int .i64 v)) g P f' := by
  refine World.rowIs.congr (World.rowIs.set h i (.int .i64 v)) (fun j hj => ?_)
  rw [e j]
  split <;> rfl
theorem RRow.made (w : World) (P : Nat) (lt : Nat → Nat → Bool) : RRow (w.alloc (.cells (madeCells #[.int .i64 0] P) 3)) w.heap.size P (rkW lt P 0 0) :=
  World.rowIs.congr (World.rowIs_made w (.int .i64 0) P _) (fun j hj => by rw [rkW_start]; rfl)
theorem rcells_set {w : World} {gs P g i : Nat} {v : Value} {l : List Rat} (h : RCells w gs P l) (hne : gs ≠ g) : RCells (w.setCell ⟨g, i, none⟩ v) gs P l :=
  ⟨by simpa using h.lt, fun t ht => (World.cell?_of_block (w := w) (a := ⟨gs, t * 2, none⟩) (Below.heap_setCell _ _ _ _ hne)).trans (h.at0 t ht), fun t ht => (World.cell?_of_block (w := w) (a := ⟨gs, t * 2 + 1, none⟩) (Below.heap_setCell _ _ _ _ hne)).trans (h.at1 t ht)⟩
theorem ltQ_cq (cy : List Rat) (m k : Nat) : decide (cq (cy.getD m 0) (cy.getD k 0) < 0) = ltQ cy m k := by
  unfold ltQ
  by_cases h : cy.getD m 0 < cy.getD k 0
  · rw [decide_eq_true h]; exact decide_eq_true (cq_lt.2 h)
  · rw [decide_eq_false h]; exact decide_eq_false (fun e => h (cq_lt.1 e))

end Go.Proofs.Ytfiaioohkidgbaa

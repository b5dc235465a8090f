/-
  Chapter 4: the first place of a fraction; PeriodOf of both.
-/
import Derived.Test.YtldmgjeecomddaaGreatDoorOc
namespace Go.Proofs.YtldmgjeecomddaaGreatDoor
open Go.RowKit Rm

/-- The cells of the first j fractions of a slice, whoever owns it. -/
structure RCells (w : World) (gs j : Nat) (l : List Rat) : Prop where
  lt : gs < w.heap.size
  at0 : ∀ i, i < j → w.cell? ⟨gs, i * 2, none⟩ = some (.int .i64 (l.getD i 0).num)
  at1 : ∀ i, i < j → w.cell? ⟨gs, i * 2 + 1, none⟩ = some (.int .i64 (l.getD i 0).den)
theorem RCells.below {w w' : World} {gs j : Nat} {l : List Rat} (h : RCells w gs j l) (hb : Below w.heap.size w w') : RCells w' gs j l :=
  ⟨Nat.lt_of_lt_of_le h.lt hb.size, fun i hi => (hb.cell (p := ⟨gs, i * 2, none⟩) h.lt).trans (h.at0 i hi), fun i hi => (hb.cell (p := ⟨gs, i * 2 + 1, none⟩) h.lt).trans (h.at1 i hi)⟩
theorem RCells.less {w : World} {gs j i : Nat} {l : List Rat} (h : RCells w gs j l) (hi : i ≤ j) : RCells w gs i l := ⟨h.lt, fun t ht => h.at0 t (by omega), fun t ht => h.at1 t (by omega)⟩
theorem rcells_own {w : World} {base gs n d : Nat} {l : List Rat} (h : w.ownsRow base 23 2 (.slice (some ⟨gs, 0, none⟩) n d) n (frcs (l.map qf))) : RCells w gs n l := by
  have hl := own_lenR h
  have hc : ∀ i, i < n → _ := fun i hi => frs_cells h hi (qAtR l i (by omega))
  refine ⟨(h.lt gs rfl).2, fun i hi => ?_, fun i hi => ?_⟩
  · obtain ⟨g, hA, _, _, h0, _⟩ := hc i hi
    obtain rfl : gs = g := (Addr.mk.inj (Option.some.inj hA)).1
    exact h0
  · obtain ⟨g, hA, _, _, _, h1⟩ := hc i hi
    obtain rfl : gs = g := (Addr.mk.inj (Option.some.inj hA)).1
    exact h1
def ixI (o : Option Nat) : Int := match o with | some i => (i : Int) | none => -1
theorem ixT_some {l : List Rat} {v : Rat} {j k : Nat} (hj : j ≤ l.length) (hk : k < j) (h : l.getD k 0 = v) (hn : ∀ t, t < k → l.getD t 0 ≠ v) : ixI (ixOf (l.take j) v) = (k : Int) := by
  rw [ixOf_some (l.take j) v k (by simp; omega) (by rw [getD_take hk]; exact h) (fun i hi => by rw [getD_take (by omega)]; exact hn i hi)]
  rfl
theorem ixT_none {l : List Rat} {v : Rat} {j : Nat} (hn : ∀ t, t < j → l.getD t 0 ≠ v) : ixI (ixOf (l.take j) v) = -1 := by
  rw [ixOf_none (l.take j) v (fun i hi => by have h1 : i < j := by simp at hi; omega
                                             rw [getD_take h1]; exact hn i h1)]
  rfl
theorem upto_ne {l : List Rat} {v : Rat} {k : Nat} (h : ∀ t, t < k → l.getD t 0 ≠ v) (hk : l.getD k 0 ≠ v) : ∀ t, t < k + 1 → l.getD t 0 ≠ v := by
  intro t ht
  rcases Nat.lt_or_eq_of_le (Nat.le_of_lt_succ ht) with h1 | rfl
  · exact h t h1
  · exact hk

end Go.Proofs.YtldmgjeecomddaaGreatDoor

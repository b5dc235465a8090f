/-
  The cells of the first elements of a slice of fractions that begins its block.
-/
import Derived.Test.YtjggjegjhcpjhaaGreatSl
namespace Go.Proofs.YtjggjegjhcpjhaaGreat
open Go.RowKit Rm

structure FCells (w : World) (gs j : Nat) (l : List Fr) : Prop where
  lt : gs < w.heap.size
  at0 : ∀ i, i < j → w.cell? ⟨gs, i * 2, none⟩ = some (.int .i64 (fAt l i).1)
  at1 : ∀ i, i < j → w.cell? ⟨gs, i * 2 + 1, none⟩ = some (.int .i64 (fAt l i).2)
theorem FCells.below {w w' : World} {gs j : Nat} {l : List Fr} (h : FCells w gs j l) (hb : Below w.heap.size w w') : FCells w' gs j l :=
  ⟨Nat.lt_of_lt_of_le h.lt hb.size, fun i hi => (hb.cell (p := ⟨gs, i * 2, none⟩) h.lt).trans (h.at0 i hi), fun i hi => (hb.cell (p := ⟨gs, i * 2 + 1, none⟩) h.lt).trans (h.at1 i hi)⟩
theorem FCells.less {w : World} {gs j i : Nat} {l : List Fr} (h : FCells w gs j l) (hi : i ≤ j) : FCells w gs i l := ⟨h.lt, fun t ht => h.at0 t (by omega), fun t ht => h.at1 t (by omega)⟩
theorem fcells_own {w : World} {base gs n d : Nat} {l : List Fr} (h : w.ownsRow base 37 2 (.slice (some ⟨gs, 0, none⟩) n d) n (frcs l)) : FCells w gs n l := by
  have hc : ∀ i, i < n → _ := fun i hi => frs_cells h hi (show fAt l i = ((fAt l i).1, (fAt l i).2) from rfl)
  refine ⟨(h.lt gs rfl).2, fun i hi => ?_, fun i hi => ?_⟩
  · obtain ⟨g, hA, _, _, h0, _⟩ := hc i hi
    obtain rfl : gs = g := (Addr.mk.inj (Option.some.inj hA)).1
    exact h0
  · obtain ⟨g, hA, _, _, _, h1⟩ := hc i hi
    obtain rfl : gs = g := (Addr.mk.inj (Option.some.inj hA)).1
    exact h1
end Go.Proofs.YtjggjegjhcpjhaaGreat

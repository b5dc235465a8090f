/-
  A slice of fractions that came in: the law's copy of it, its size; a row's argument of it opened and shut.
-/
import Derived.Test.YthccdooacbablaaRowP
import Derived.Test.YthccdooacbablaaRs
namespace Go.Proofs.Ythccdooacbablaa
open Go.ChangeShapes Go.WideShapes Go.ChangeAt Go.RowKit Go.Joins Go.Deep Rm

/-- A slice of fractions that came in: the law's own, of whatever address. -/
def ArgR (w : World) (A : Option Addr) (n : Nat) (xs : List Fr) : Prop :=
  xs.length = n ∧ (0 < n → ∃ ad, A = some ad ∧ ad.block < w.heap.size ∧ ∀ i, i < n → w.cell? (ad.add (i * 2)) = some (.int .i64 (fAt xs i).1) ∧ w.cell? ((ad.add (i * 2)).add 1) = some (.int .i64 (fAt xs i).2))
theorem ArgR.below {w w' : World} {A : Option Addr} {n : Nat} {xs : List Fr} (h : ArgR w A n xs) (hb : Below w.heap.size w w') : ArgR w' A n xs :=
  ⟨h.1, fun hn => by
    obtain ⟨ad, e, hl, hc⟩ := h.2 hn
    refine ⟨ad, e, Nat.lt_of_lt_of_le hl hb.size, fun i hi => ?_⟩
    obtain ⟨h0, h1⟩ := hc i hi
    exact ⟨(hb.cell (by rw [block_add]; exact hl)).trans h0, (hb.cell (by rw [block_add, block_add]; exact hl)).trans h1⟩⟩
theorem iRats : (Try.prog.info? 76).map (fun i => (i.zero, i.size, i.bytes)) = some (some (.slice none 0 0), 1, 24) := by kernel_rfl
end Go.Proofs.Ythccdooacbablaa

/-
  Worlds that differ in given blocks alone.
-/
import Derived.Test.YthccdooacbablabSl
namespace Go.Proofs.Ythccdooacbablab
open Go.RowKit Rm

/-- All but the given blocks is as it was. -/
structure Turned (bs : List Nat) (w w' : World) : Prop where
  os : w'.os = w.os
  tape : w'.tape = w.tape
  output : w'.output = w.output
  size : w.heap.size ≤ w'.heap.size
  block : ∀ k, k < w.heap.size → k ∉ bs → w'.heap[k]? = w.heap[k]?
theorem Turned.refl (bs : List Nat) (w : World) : Turned bs w w := ⟨rfl, rfl, rfl, Nat.le_refl _, fun _ _ _ => rfl⟩
theorem Turned.grown {bs : List Nat} {w w' w'' : World} {b : Nat} (h : Turned bs w w') (hg : w'.grownBy w'' (some b)) (hb : b ∈ bs) : Turned bs w w'' :=
  ⟨hg.os.trans h.os, hg.tape.trans h.tape, hg.output.trans h.output, Nat.le_trans h.size hg.size, fun k hk hn => (hg.block k (Nat.lt_of_lt_of_le hk h.size) (fun e => hn (by have : k = b := Option.some.inj e; rw [this]; exact hb))).trans (h.block k hk hn)⟩
theorem Turned.own {bs : List Nat} {w w' : World} {base : Nat} {e : TypeId} {size : Nat} {v : Value} {n : Nat} {xs : List Value} (h : Turned bs w w') (ho : w.ownsRow base e size v n xs) (hn : ∀ k, v.ownBlock = some k → k ∉ bs) : w'.ownsRow base e size v n xs := by
  refine ⟨ho.1, ho.2.imp id fun ⟨g, cap, cur, h1, h2, h3, h4⟩ => ⟨g, cap, cur, h1, h2, ?_, h4⟩⟩
  have hlt : g < w.heap.size := by
    rcases Nat.lt_or_ge g w.heap.size with hl | hl
    · exact hl
    · rw [Array.getElem?_eq_none hl] at h3; cases h3
  rw [h.block g hlt (hn g (by rw [h1]; rfl)), h3]
theorem Turned.below {bs : List Nat} {w w' : World} {C : Nat} (h : Turned bs w w') (hb : ∀ b ∈ bs, C ≤ b) (hC : C ≤ w.heap.size) : Below C w w' :=
  ⟨h.os, h.tape, h.output, h.size, fun i hi => h.block i (by omega) (fun hm => by have := hb i hm; omega)⟩
end Go.Proofs.Ythccdooacbablab

/-
  A slice of fractions that is read, at any place of a block: what a model's answer is.
-/
import Derived.Test.YthccdooacbablaaLawS
namespace Go.Proofs.Ythccdooacbablaa
open Go.RowKit Rm

/-- The value is a slice of fractions that reads as the list; its block is none below base. -/
def RSl (w : World) (base : Nat) (A : Option Addr) (n : Nat) (xs : List Fr) : Prop :=
  xs.length = n ∧ ((n = 0 ∧ A = none) ∨ ∃ g o : Nat, A = some ⟨g, o, none⟩ ∧ base ≤ g ∧ g < w.heap.size ∧
    ∀ i, i < n → w.cell? ⟨g, o + i * 2, none⟩ = some (.int .i64 (fAt xs i).1) ∧ w.cell? ⟨g, o + i * 2 + 1, none⟩ = some (.int .i64 (fAt xs i).2))
theorem RSl.below {w w' : World} {base n : Nat} {A : Option Addr} {xs : List Fr} (h : RSl w base A n xs) (hb : Below w.heap.size w w') : RSl w' base A n xs := by
  obtain ⟨h1, h2 | ⟨g, o, rfl, hB, hl, hc⟩⟩ := h
  · exact ⟨h1, .inl h2⟩
  · exact ⟨h1, .inr ⟨g, o, rfl, hB, Nat.lt_of_lt_of_le hl hb.size, fun i hi => ⟨(hb.cell (p := ⟨g, o + i * 2, none⟩) hl).trans (hc i hi).1, (hb.cell (p := ⟨g, o + i * 2 + 1, none⟩) hl).trans (hc i hi).2⟩⟩⟩
theorem RSl.kept {w w' : World} {base n : Nat} {A : Option Addr} {xs : List Fr} {row : Option Nat} (h : RSl w base A n xs) (hg : w.grownBy w' row) (hne : ∀ k, row = some k → base ≤ k → k < w.heap.size → A.map (·.block) ≠ some k) : RSl w' base A n xs := by
  obtain ⟨h1, h2 | ⟨g, o, rfl, hB, hl, hc⟩⟩ := h
  · exact ⟨h1, .inl h2⟩
  · have hk : some g ≠ row := fun e => hne g e.symm hB hl rfl
    exact ⟨h1, .inr ⟨g, o, rfl, hB, Nat.lt_of_lt_of_le hl hg.size, fun i hi => ⟨(World.cell?_of_block (a := ⟨g, o + i * 2, none⟩) (hg.block g hl hk)).trans (hc i hi).1, (World.cell?_of_block (a := ⟨g, o + i * 2 + 1, none⟩) (hg.block g hl hk)).trans (hc i hi).2⟩⟩⟩
theorem RSl.mono {w : World} {base base' n : Nat} {A : Option Addr} {xs : List Fr} (h : RSl w base A n xs) (hb : base' ≤ base) : RSl w base' A n xs := by
  obtain ⟨h1, h2 | ⟨g, o, rfl, hB, hl, hc⟩⟩ := h
  · exact ⟨h1, .inl h2⟩
  · exact ⟨h1, .inr ⟨g, o, rfl, by omega, hl, hc⟩⟩
theorem RSl.lt {w : World} {base n : Nat} {A : Option Addr} {xs : List Fr} (h : RSl w base A n xs) {k : Nat} (hk : A.map (·.block) = some k) : base ≤ k ∧ k < w.heap.size := by
  obtain ⟨h1, ⟨_, rfl⟩ | ⟨g, o, rfl, hB, hl, hc⟩⟩ := h
  · cases hk
  · obtain rfl : g = k := Option.some.inj hk
    exact ⟨hB, hl⟩
theorem rsl_own {w : World} {base n c : Nat} {A : Option Addr} {xs : List Fr} (h : w.ownsRow base 26 2 (.slice A n c) n (frcs xs)) (hl : xs.length = n) : RSl w base A n xs := by
  refine ⟨hl, ?_⟩
  rcases Nat.eq_zero_or_pos n with h0 | h0
  · rcases h.2 with ⟨hv, _⟩ | ⟨g, cap, cur, hv, hB, hh, _⟩
    · left; injection hv with h1 _ _; exact ⟨h0, h1⟩
    · right
      injection hv with h1 _ _
      subst h1
      exact ⟨g, 0, rfl, hB, (h.lt g rfl).2, fun i hi => absurd hi (by omega)⟩
  · right
    obtain ⟨g, cap, hv, hB, hlt⟩ := h.form h0
    injection hv with h1 _ _
    subst h1
    refine ⟨g, 0, rfl, hB, hlt, fun i hi => ?_⟩
    obtain ⟨g', hA, _, _, c0, c1⟩ := frs_cells h hi (show fAt xs i = ((fAt xs i).1, (fAt xs i).2) from rfl)
    obtain rfl : g = g' := (Addr.mk.inj (Option.some.inj hA)).1
    rw [Nat.zero_add]
    exact ⟨c0, c1⟩
/-- The answer of a model that gives a slice of fractions, whoever owns it, and whether the map is one. -/
def ReadsR (B : Nat) (xs : List Fr) (z : Bool) (e : Ending) (w' : World) : Prop :=
  ∃ (A : Option Addr) (d : Nat), e = .returned (.tuple #[.slice A xs.length d, .bool z]) ∧ RSl w' B A xs.length xs
end Go.Proofs.Ythccdooacbablaa

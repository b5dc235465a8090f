/-
  Slices of integers, and slices of such slices that the call has made.
-/
import Derived.Test.YtafcdlojlfnjbaaDoorSl
import Derived.Deep.Onto
namespace Go.Proofs.YtafcdlojlfnjbaaDoor
open Go.RowKit Rm

def ints (r : List Int) : List Value := r.map (Value.int .i64)
theorem ints_len (r : List Int) : (ints r).length = r.length := List.length_map ..
theorem ints_at {r : List Int} {k : Nat} {x : Int} (h : r[k]? = some x) : (ints r)[k]? = some (.int .i64 x) := by unfold ints; rw [List.getElem?_map, h]; rfl
theorem iInt : (Tryd.prog.info? 3).map (fun i => (i.zero, i.size, i.bytes)) = some (some (.int .i64 0), 1, 8) := by kernel_rfl
/-- The cell of element k. -/
theorem int_cell {w : World} {base : Nat} {A : Option Addr} {n c : Nat} {r : List Int} {k : Nat} {x : Int} (h : w.ownsRow base 3 1 (.slice A n c) n (ints r)) (hk : r[k]? = some x) :
    ∃ g, A = some ⟨g, 0, none⟩ ∧ g < w.heap.size ∧ base ≤ g ∧ w.cell? ⟨g, k, none⟩ = some (.int .i64 x) ∧ w.frozen? ⟨g, k, none⟩ = false := by
  have hl : r.length = n := by have := h.1; rw [ints_len] at this; omega
  have hkn : k < n := by
    rcases Nat.lt_or_ge k r.length with h1 | h1
    · omega
    · rw [List.getElem?_eq_none h1] at hk; cases hk
  obtain ⟨g, cap, hv, _, hlt⟩ := h.form (by omega)
  have hA : A = some ⟨g, 0, none⟩ ∧ c = cap := by injection hv with h1 _ h2; exact ⟨h1, h2⟩
  obtain ⟨rfl, rfl⟩ := hA
  exact ⟨g, rfl, hlt, (h.lt g rfl).1, (h.cellAt k (by omega)).trans (ints_at hk), h.frozenAt k⟩

/-- The value of a row of integers that lies alone in a block. -/
def rowV (b : Nat) (r : List Int) : Value := .slice (some ⟨b, 0, none⟩) r.length r.length
theorem own_kept' {w w' : World} {base : Nat} {e : TypeId} {size : Nat} {v : Value} {n : Nat} {xs : List Value} {row : Option Nat} (h : w.ownsRow base e size v n xs) (hg : w.grownBy w' row) (hne : ∀ k, v.ownBlock = some k → some k ≠ row) : w'.ownsRow base e size v n xs := by
  refine h.kept hg ?_
  cases hv : v.ownBlock with
  | none => exact .inl rfl
  | some k => exact .inr (hne k hv)
theorem zipWith_snoc {α β γ : Type} (f : α → β → γ) : ∀ (xs : List α) (ys : List β) (a : α) (b : β), xs.length = ys.length → List.zipWith f (xs ++ [a]) (ys ++ [b]) = List.zipWith f xs ys ++ [f a b]
  | [], [], _, _, _ => rfl
  | [], _ :: _, _, _, h => by simp at h
  | _ :: _, [], _, _, h => by simp at h
  | x :: xs, y :: ys, a, b, h => by simp only [List.cons_append, List.zipWith_cons_cons, zipWith_snoc f xs ys a b (by simpa using h)]
end Go.Proofs.YtafcdlojlfnjbaaDoor

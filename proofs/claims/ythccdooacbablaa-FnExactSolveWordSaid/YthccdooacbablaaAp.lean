/-
  The distance of two fractions (chapters 4 and 5).
-/
import Derived.Test.YthccdooacbablaaOm
import Derived.Test.YthccdooacbablaaO
namespace Go.Proofs.Ythccdooacbablaa
open Go.RowKit Rm

theorem grown_on {a w w1 : World} {g : Nat} (h : a.grownBy w (some g)) (hb : Below w.heap.size w w1) : a.grownBy w1 (some g) :=
  ⟨hb.os.trans h.os, hb.tape.trans h.tape, hb.output.trans h.output, Nat.le_trans h.size hb.size, fun i hi hn => (hb.block i (Nat.lt_of_lt_of_le hi h.size)).trans (h.block i hi hn)⟩
/-- The distance of two fractions. -/
def apR (y z : Rat) : Option Rat := if y < z then keep (z - y) else keep (y - z)
def odK (l l' : List Rat) : Nat → Option Rat
  | 0 => some 0
  | k + 1 => (odK l l' k).bind fun c => (apR (l.getD k 0) (l'.getD k 0)).map fun d => if c < d then d else c
theorem apR_fits {y z d : Rat} (h : apR y z = some d) : fits d = true := by
  unfold apR at h
  split at h
  · obtain ⟨rfl, h2⟩ := keep_some h; exact h2
  · obtain ⟨rfl, h2⟩ := keep_some h; exact h2
theorem odK_none {l l' : List Rat} {k : Nat} {c : Rat} (h : odK l l' k = some c) (h2 : apR (l.getD k 0) (l'.getD k 0) = none) : odK l l' (k + 1) = none := by
  simp only [odK, h, h2]; rfl
theorem odK_step {l l' : List Rat} {k : Nat} {c d : Rat} (h : odK l l' k = some c) (h2 : apR (l.getD k 0) (l'.getD k 0) = some d) : odK l l' (k + 1) = some (if c < d then d else c) := by
  simp only [odK, h, h2]; rfl
theorem odK_up {l l' : List Rat} {k : Nat} (h : odK l l' k = none) : ∀ m, k ≤ m → odK l l' m = none
  | 0, hm => by rw [show (0 : Nat) = k by omega]; exact h
  | m + 1, hm => by
    rcases Nat.lt_or_eq_of_le hm with h1 | h1
    · have := odK_up h m (by omega)
      simp only [odK, this]; rfl
    · rw [← h1]; exact h
theorem odK_fits {l l' : List Rat} : ∀ {k : Nat} {c : Rat}, odK l l' k = some c → fits c = true
  | 0, c, h => by
    have h' : (0 : Rat) = c := Option.some.inj h
    rw [← h']; rfl
  | k + 1, c, h => by
    cases h1 : odK l l' k with
    | none => simp [odK, h1] at h
    | some c' =>
      cases h2 : apR (l.getD k 0) (l'.getD k 0) with
      | none => rw [odK_none h1 h2] at h; cases h
      | some d =>
        rw [odK_step h1 h2] at h
        have h' := Option.some.inj h
        rw [← h']
        split
        · exact apR_fits h2
        · exact odK_fits h1

end Go.Proofs.Ythccdooacbablaa

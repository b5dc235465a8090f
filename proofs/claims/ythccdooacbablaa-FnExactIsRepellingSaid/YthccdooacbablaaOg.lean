/-
  Chapter 4: OrbitDistance of both.
-/
import Derived.Test.YthccdooacbablaaOp
import Derived.Test.YthccdooacbablaaAp
namespace Go.Proofs.Ythccdooacbablaa
open Go.RowKit Rm

def dsO (ps : List Pt) (a b p q m : Int) : Option Rat := (orbO ps a b m).bind fun l => (orbO ps p q m).bind fun l' => odK l l' l.length
theorem dsO_no {ps : List Pt} {a b p q m : Int} (h : orbO ps a b m = none ∨ orbO ps p q m = none) : dsO ps a b p q m = none := by
  unfold dsO
  rcases h with h | h
  · rw [h]; rfl
  · rw [h]; cases orbO ps a b m <;> rfl
theorem dsO_some {ps : List Pt} {a b p q m : Int} {l l' : List Rat} (h : orbO ps a b m = some l) (h2 : orbO ps p q m = some l') : dsO ps a b p q m = odK l l' l.length := by
  unfold dsO
  rw [h, h2]
  rfl
/-- What is known of the fractions of a whole orbit. -/
theorem orb_list {ps : List Pt} {a b : Int} {k : Nat} {l : List Rat} (h : orbO ps a b k = some l) : k ≤ 60 ∧ l.length = k + 1 ∧ ∀ i, i < k + 1 → Un (l.getD i 0) := by
  rcases orb_cases ps a b k with ⟨_, _, h3⟩ | ⟨qs, x, k', rfl, hg, rfl, rfl, hx, hkk, hk, hr, _, ⟨_, _, ho⟩ | ⟨hO, ho⟩⟩
  · rw [h3] at h; cases h
  · rw [ho] at h; cases h
  · obtain rfl : k = k' := by omega
    rw [ho] at h
    obtain rfl := Option.some.inj h
    exact ⟨hk, hO.len, hO.all⟩
theorem RCells.kept {w w' : World} {gs j M : Nat} {l : List Rat} (h : RCells w gs j l) (hg : w.grownBy w' (some M)) (hne : gs ≠ M) : RCells w' gs j l :=
  ⟨Nat.lt_of_lt_of_le h.lt hg.size, fun i hi => (World.cell?_of_block (a := ⟨gs, i * 2, none⟩) (hg.block gs h.lt (fun e => hne (Option.some.inj e)))).trans (h.at0 i hi),
    fun i hi => (World.cell?_of_block (a := ⟨gs, i * 2 + 1, none⟩) (hg.block gs h.lt (fun e => hne (Option.some.inj e)))).trans (h.at1 i hi)⟩

end Go.Proofs.Ythccdooacbablaa

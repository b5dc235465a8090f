/-
  Chapter 4: what is asked of an orbit; OrbitOf of both.
-/
import Derived.Test.YtfiaioohkidgbaaOs
import Derived.Test.YtfiaioohkidgbaaOi
namespace Go.Proofs.Ytfiaioohkidgbaa
open Go.RowKit Rm

def askB (ps : List Pt) (a b m : Int) : Bool := mapB ps && (uB a b && decide (0 ≤ m ∧ m ≤ 60))
/-- The orbit as far as it can be computed, if a valid one is asked. -/
def runO (ps : List Pt) (a b m : Int) : Option (List Rat) := match askB ps a b m with | true => some (run (dec ps) m.toNat (Rat.divInt a b)) | false => none
/-- The whole orbit. -/
def orbO (ps : List Pt) (a b m : Int) : Option (List Rat) := (runO ps a b m).bind fun l => if l.length = m.toNat + 1 then some l else none
theorem ask_of {ps : List Pt} {a b m : Int} (h : askB ps a b m = true) : ∃ (qs : List QP) (x : Rat) (k : Nat), ps = qs.map qp ∧ GMap qs ∧ a = x.num ∧ b = (x.den : Int) ∧ Un x ∧ m = k ∧ k ≤ 60 := by
  simp only [askB, Bool.and_eq_true, decide_eq_true_eq] at h
  obtain ⟨h1, h2, h3, h4⟩ := h
  obtain ⟨qs, rfl, hg⟩ := gmap_of h1
  obtain ⟨x, rfl, rfl, hf, h0, h5⟩ := uB_rat h2
  exact ⟨qs, x, m.toNat, rfl, hg, rfl, rfl, ⟨hf, h0, h5⟩, by omega, by omega⟩
theorem ask_map {qs : List QP} {x : Rat} {k : Nat} (hg : GMap qs) (hx : Un x) (hk : k ≤ 60) : askB (qs.map qp) x.num x.den k = true := by
  unfold askB
  rw [hg.mapB, uB_un hx, decide_eq_true (by omega)]
  rfl
theorem runO_map {qs : List QP} {x : Rat} {k : Nat} (hg : GMap qs) (hx : Un x) (hk : k ≤ 60) : runO (qs.map qp) x.num x.den k = some (run qs k x) := by
  unfold runO
  rw [ask_map hg hx hk]
  simp only [dec_qp, Rat.num_divInt_den, Int.toNat_natCast]
theorem runO_no {ps : List Pt} {a b m : Int} (h : askB ps a b m = false) : runO ps a b m = none := by unfold runO; rw [h]
/-- What is known of a whole orbit. -/
structure Orb (qs : List QP) (x : Rat) (k : Nat) (l : List Rat) : Prop where
  map : GMap qs
  un : Un x
  hk : k ≤ 60
  eq : l = run qs k x
  len : l.length = k + 1
  all : ∀ i, i < k + 1 → Un (l.getD i 0)
theorem orb_cases (ps : List Pt) (a b m : Int) : (askB ps a b m = false ∧ runO ps a b m = none ∧ orbO ps a b m = none) ∨
    ∃ (qs : List QP) (x : Rat) (k : Nat), ps = qs.map qp ∧ GMap qs ∧ a = x.num ∧ b = (x.den : Int) ∧ Un x ∧ m = k ∧ k ≤ 60 ∧ runO ps a b m = some (run qs k x) ∧ askB ps a b m = true ∧
      ((1 ≤ (run qs k x).length ∧ (run qs k x).length ≤ k ∧ orbO ps a b m = none) ∨ (Orb qs x k (run qs k x) ∧ orbO ps a b m = some (run qs k x))) := by
  cases h : askB ps a b m with
  | false => exact .inl ⟨rfl, runO_no h, by unfold orbO; rw [runO_no h]; rfl⟩
  | true =>
    obtain ⟨qs, x, k, rfl, hg, rfl, rfl, hx, rfl, hk⟩ := ask_of h
    have hr := runO_map hg hx hk
    refine .inr ⟨qs, x, k, rfl, hg, rfl, rfl, hx, rfl, hk, hr, rfl, ?_⟩
    have hl := run_len qs k x
    have ho : orbO (qs.map qp) x.num x.den k = if (run qs k x).length = k + 1 then some (run qs k x) else none := by unfold orbO; rw [hr]; rfl
    by_cases hf : (run qs k x).length = k + 1
    · rw [if_pos hf] at ho
      refine .inr ⟨⟨hg, hx, hk, rfl, hf, fun i hi => ?_⟩, ho⟩
      refine run_un hg k x hx _ ?_
      rw [List.getD_eq_getElem?_getD, List.getElem?_eq_getElem (by omega)]
      exact List.getElem_mem _
    · rw [if_neg hf] at ho
      exact .inl ⟨hl.1, by omega, ho⟩

end Go.Proofs.Ytfiaioohkidgbaa

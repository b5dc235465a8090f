/-
  Chapter 4: CyclePattern of the program.
-/
import Derived.Test.YtmkejopkmdcfeaaKp
import Derived.Test.YtmkejopkmdcfeaaNs
namespace Go.Proofs.Ytmkejopkmdcfeaa
open Go.RowKit Rm

/-- The fractions of a cycle are different. -/
theorem cyO_dist {ps : List Pt} {a b m : Int} {cy : List Rat} (h : cyO ps a b m = some cy) : ∀ i j, i < cy.length → j < cy.length → i ≠ j → cy.getD i 0 ≠ cy.getD j 0 := by
  unfold cyO at h
  cases ho : orbO ps a b m with
  | none => rw [ho] at h; cases h
  | some l =>
    rw [ho] at h
    cases hp : perO l with
    | none =>
      have h' : (perO l).bind _ = some cy := h
      rw [hp] at h'; cases h'
    | some r =>
      have h' : (perO l).bind (fun r => if r.1 = 0 then some (cyL l r) else none) = some cy := h
      rw [hp] at h'
      have h2 : (if r.1 = 0 then some (cyL l r) else none) = some cy := h'
      obtain ⟨pa, pb⟩ := r
      by_cases h0 : pa = 0
      · rw [if_pos h0] at h2
        subst h0
        unfold perO at hp
        obtain ⟨_, h4, _, h6⟩ := perK_bd hp
        have e := Option.some.inj h2
        have hl : cy.length = pb := by rw [← e]; exact cyL_len (by omega)
        have hd := per_distinct h4 h6
        intro i j hi hj hne
        rw [← e, cyL_get (by omega), cyL_get (by omega)]
        exact hd _ _ (by omega) (by omega) (by omega)
      · rw [if_neg h0] at h2; cases h2
/-- The ranks of the fractions of a cycle, and their pattern. -/
def rkC (cy : List Rat) (P : Nat) (i : Nat) : Nat := rkN (ltQ cy) i P
def ptC (cy : List Rat) (P : Nat) : List Int := (List.range P).map fun i => ((ptF (rkC cy P) P P i : Nat) : Int)
theorem ptC_len (cy : List Rat) (P : Nat) : (ptC cy P).length = P := by simp [ptC]
def cpL (ps : List Pt) (a b m : Int) : List Int := match cyO ps a b m with | some cy => if cy.length ≤ 9 then ptC cy cy.length else [] | none => []
def cpZ (ps : List Pt) (a b m : Int) : Bool := match cyO ps a b m with | some cy => decide (cy.length ≤ 9) | none => false
theorem cp_no {ps : List Pt} {a b m : Int} (h : cyO ps a b m = none) : cpL ps a b m = [] ∧ cpZ ps a b m = false := by
  unfold cpL cpZ; rw [h]; exact ⟨rfl, rfl⟩
theorem cp_long {ps : List Pt} {a b m : Int} {cy : List Rat} (h : cyO ps a b m = some cy) (hl : ¬ cy.length ≤ 9) : cpL ps a b m = [] ∧ cpZ ps a b m = false := by
  unfold cpL cpZ; rw [h]; exact ⟨if_neg hl, decide_eq_false hl⟩
theorem cp_short {ps : List Pt} {a b m : Int} {cy : List Rat} (h : cyO ps a b m = some cy) (hl : cy.length ≤ 9) : cpL ps a b m = ptC cy cy.length ∧ cpZ ps a b m = true := by
  unfold cpL cpZ; rw [h]; exact ⟨if_pos hl, decide_eq_true hl⟩
theorem CyclePattern_len (ps : List Pt) (a b m : Int) : (cpL ps a b m).length ≤ 1048576 := by
  unfold cpL
  split
  · split
    · rw [ptC_len]; omega
    · simp
  · simp
def GivesI (B : Nat) (xs : List Int) (z : Bool) (e : Ending) (w' : World) : Prop :=
  ∃ (A : Option Addr) (d : Nat), e = .returned (.tuple #[.slice A xs.length d, .bool z]) ∧ w'.ownsRow B 3 1 (.slice A xs.length d) xs.length (ints xs)
theorem givesI_none (B : Nat) (w : World) : GivesI B [] false (.returned (.tuple #[.slice none 0 0, .bool false])) w := ⟨none, 0, rfl, rfl, .inl ⟨rfl, rfl⟩⟩
theorem own_of_rrow {w : World} {g P base : Nat} {f : Nat → Nat} (h : RRow w g P f) (hb : base ≤ g) (hP : P ≤ 1048576) : w.ownsRow base 3 1 (.slice (some ⟨g, 0, none⟩) P P) P (ints ((List.range P).map fun i => ((f i : Nat) : Int))) := by
  obtain ⟨c, hh, hs, hc⟩ := h
  refine ⟨by simp [ints], .inr ⟨g, P, c, rfl, hb, hh, Nat.le_refl _, Nat.le_trans hP (by decide), by omega, ?_⟩⟩
  apply List.ext_getElem?
  intro i
  by_cases hi : i < P
  · have := hc i hi
    simp [ints, hi]
    simpa using this
  · simp [ints, hi]
    omega
/-- The pattern of the ranks of the ranks is the pattern of the ranks. -/
theorem ptF_ranks {cy : List Rat} {P : Nat} (hd : ∀ i j, i < P → j < P → i ≠ j → cy.getD i 0 ≠ cy.getD j 0) : ptF (fun i => rkN (ltF (rkC cy P)) i P) P P = ptF (rkC cy P) P P :=
  ptF_congr (fun _ hi => rk_rk (ltQ_strict hd) hi) P (Nat.le_refl _)
theorem rkC_lt {cy : List Rat} {P i : Nat} (hi : i < P) : rkC cy P i < P := rkN_lt (by simp [ltQ]) P hi
theorem rkC_ne {cy : List Rat} {P : Nat} (hd : ∀ i j, i < P → j < P → i ≠ j → cy.getD i 0 ≠ cy.getD j 0) : ∀ i j, i < P → j < P → i ≠ j → rkC cy P i ≠ rkC cy P j :=
  fun _ _ hi hj hne => rk_ne (ltQ_strict hd) hi hj hne

set_option maxRecDepth 100000 in
set_option maxHeartbeats 1600000 in
theorem iCyclePattern_any (A : Option Addr) (n c base : Nat) (ps : List Pt) (a b m : Int) (w : World) (ha : w.ownsRow base 65 4 (.slice A n c) n (ptcs ps)) (hn : n ≤ 1048576) :
    Calls Try.prog 45 #[.slice A n c, .agg #[.int .i64 (a), .int .i64 (b)], .int .i64 m] w fun e w' => GivesI w.heap.size (cpL ps a b m) (cpZ ps a b m) e w' ∧ Below w.heap.size w w' := by
  rcases i_cyc (A := A) (n := n) (c := c) (base := base) (ps := ps) (a := a) (b := b) (m := m) hn with ⟨h0, hI⟩ | ⟨qs, cy, P, rfl, h0, hC, hI⟩
  · have HI := hide hI; have HA := hide ha
    rw [(cp_no h0).1, (cp_no h0).2]
    clear hI ha h0
    go_enter Try.func45, Try.ntmps45
    go_wp2_with (go_at_call 78; (with_reducible refine ((unhide HI) _ (own_below (unhide HA) ?pb)).mono ?_); (case pb => exact (by repeat (first | with_reducible exact Below.refl _ _ | with_reducible assumption | (with_reducible refine Below.trans ?_ (Below.mono (by assumption) (by first | omega | (simp <;> omega)))) | with_reducible apply Below.drew | with_reducible apply below_drewN | (with_reducible refine Below.alloc ?_ (by first | omega | (simp <;> omega)) _) | (with_reducible refine Below.setCell ?_ (by first | omega | (simp <;> omega)) _)))); rintro e w1 ⟨rfl, hbw1⟩)
    go_ret2
    exact ⟨givesI_none _ _, (by repeat (first | with_reducible exact Below.refl _ _ | with_reducible assumption | (with_reducible refine Below.trans ?_ (Below.mono (by assumption) (by first | omega | (simp <;> omega)))) | with_reducible apply Below.drew | with_reducible apply below_drewN | (with_reducible refine Below.alloc ?_ (by first | omega | (simp <;> omega)) _) | (with_reducible refine Below.setCell ?_ (by first | omega | (simp <;> omega)) _)))⟩
  · have hl := hC.len
    have hP1 := hC.lo
    have hP2 := hC.hi
    have hrk := fun (W : World) (gs d : Nat) (hW : RCells W gs P cy) => iRanks_any gs d P cy W hW hP2 (fun i hi => (hC.all i hi).fit)
    have HI := hide hI; have HA := hide ha; have HRK := hide hrk
    by_cases h9 : P ≤ 9
    · rw [(cp_short h0 (by omega)).1, (cp_short h0 (by omega)).2, hl]
      have hd := cyO_dist h0
      rw [hl] at hd
      have hpt := fun (W : World) (gs : Nat) (hW : ICells W gs P (rkC cy P)) => iPattern_any gs P P (rkC cy P) W hW hP1 h9 (Nat.le_refl _) (fun _ hi => rkC_lt hi) (rkC_ne hd)
      have HPT := hide hpt
      have HD := hide (ptF_ranks hd)
      clear hI ha hrk hpt hd h0 hC hl
      go_enter Try.func45, Try.ntmps45
      go_wp2_with (first
        | (go_at_call 78; (with_reducible refine ((unhide HI) _ (own_below (unhide HA) ?pb)).mono ?_); (case pb => exact (by repeat (first | with_reducible exact Below.refl _ _ | with_reducible assumption | (with_reducible refine Below.trans ?_ (Below.mono (by assumption) (by first | omega | (simp <;> omega)))) | with_reducible apply Below.drew | with_reducible apply below_drewN | (with_reducible refine Below.alloc ?_ (by first | omega | (simp <;> omega)) _) | (with_reducible refine Below.setCell ?_ (by first | omega | (simp <;> omega)) _)))); rintro e w1 ⟨gs, d, rfl, hlo, hrc, hbw1⟩; have hs1 := hbw1.size; (try simp at hs1); have HRC := hide hrc; clear hrc)
        | (go_at_call 83; (with_reducible refine ((unhide HRK) _ _ _ (unhide HRC)).mono ?_); rintro e w2 ⟨rfl, hrr, hbw2⟩; have hs2 := hbw2.size; have HRR := hide (ICells.of hrr); clear hrr)
        | (go_at_call 82; (with_reducible refine ((unhide HPT) _ _ (unhide HRR)).mono ?_); rintro e w3 ⟨g3, rfl, hlo3, hr3, hbw3⟩; have hs3 := hbw3.size; have HR3 := hide hr3; clear hr3))
      have hr3 := unhide HR3
      rw [unhide HD] at hr3
      have hown := own_of_rrow (base := w.heap.size) hr3 (by omega) (by omega)
      have HOWN := hide hown
      clear hown hr3
      go_ret2
      exact ⟨⟨some ⟨g3, 0, none⟩, P, by rw [ptC_len]; rfl, by rw [ptC_len]; exact unhide HOWN⟩, (by repeat (first | with_reducible exact Below.refl _ _ | with_reducible assumption | (with_reducible refine Below.trans ?_ (Below.mono (by assumption) (by first | omega | (simp <;> omega)))) | with_reducible apply Below.drew | with_reducible apply below_drewN | (with_reducible refine Below.alloc ?_ (by first | omega | (simp <;> omega)) _) | (with_reducible refine Below.setCell ?_ (by first | omega | (simp <;> omega)) _)))⟩
    · rw [(cp_long h0 (by omega)).1, (cp_long h0 (by omega)).2]
      have hpt := fun (W : World) (B : Option Addr) => iPattern_long B P P W (by omega) hP2
      have HPT := hide hpt
      clear hI ha hrk hpt h0 hC hl
      go_enter Try.func45, Try.ntmps45
      go_wp2_with (first
        | (go_at_call 78; (with_reducible refine ((unhide HI) _ (own_below (unhide HA) ?pb)).mono ?_); (case pb => exact (by repeat (first | with_reducible exact Below.refl _ _ | with_reducible assumption | (with_reducible refine Below.trans ?_ (Below.mono (by assumption) (by first | omega | (simp <;> omega)))) | with_reducible apply Below.drew | with_reducible apply below_drewN | (with_reducible refine Below.alloc ?_ (by first | omega | (simp <;> omega)) _) | (with_reducible refine Below.setCell ?_ (by first | omega | (simp <;> omega)) _)))); rintro e w1 ⟨gs, d, rfl, hlo, hrc, hbw1⟩; have hs1 := hbw1.size; (try simp at hs1); have HRC := hide hrc; clear hrc)
        | (go_at_call 83; (with_reducible refine ((unhide HRK) _ _ _ (unhide HRC)).mono ?_); rintro e w2 ⟨rfl, hrr, hbw2⟩; have hs2 := hbw2.size; clear hrr)
        | (go_at_call 82; (with_reducible refine ((unhide HPT) _ _).mono ?_); rintro e w3 ⟨rfl, hbw3⟩; have hs3 := hbw3.size))
      go_ret2
      exact ⟨givesI_none _ _, (by repeat (first | with_reducible exact Below.refl _ _ | with_reducible assumption | (with_reducible refine Below.trans ?_ (Below.mono (by assumption) (by first | omega | (simp <;> omega)))) | with_reducible apply Below.drew | with_reducible apply below_drewN | (with_reducible refine Below.alloc ?_ (by first | omega | (simp <;> omega)) _) | (with_reducible refine Below.setCell ?_ (by first | omega | (simp <;> omega)) _)))⟩
end Go.Proofs.Ytmkejopkmdcfeaa

/-
  Chapter 8: PiecesOf of both.
-/
import Derived.Test.YthccdooacbablaaZa
import Derived.Test.YthccdooacbablaaSima
namespace Go.Proofs.Ythccdooacbablaa
open Go.RowKit Rm

/-- The number of the first piece that has a fraction. -/
def pcQ : List QP → Rat → Nat
  | _ :: q :: r :: l, x => if q.1 < x then pcQ (q :: r :: l) x + 1 else 0
  | _, _ => 0
theorem pcQ_eq {x : Rat} : ∀ {qs : List QP} {i : Nat}, i + 1 < qs.length → (∀ j, j < i → (qAt qs (j + 1)).1 < x) → (i + 2 < qs.length → ¬ (qAt qs (i + 1)).1 < x) → i = pcQ qs x
  | [], i, h, _, _ => by simp at h
  | [p], i, h, _, _ => by simp at h
  | [p, q], 0, _, _, _ => rfl
  | [p, q], i + 1, h, _, _ => by simp at h; omega
  | p :: q :: r :: l, 0, _, _, h => by
    have := h (by simp)
    have h' : ¬ q.1 < x := this
    simp only [pcQ, if_neg h']
  | p :: q :: r :: l, i + 1, hi, hj, h => by
    have h0 : q.1 < x := hj 0 (by omega)
    simp only [pcQ, if_pos h0]
    exact congrArg (· + 1) (pcQ_eq (qs := q :: r :: l) (i := i) (by simpa using hi) (fun j hj' => hj (j + 1) (by omega)) (fun k => h (by simpa using k)))
def poZ (ps : List Pt) (a b m : Int) : Bool := decide (1 ≤ m ∧ m ≤ 8) && (orbO ps a b (m - 1)).isSome
def poL (ps : List Pt) (a b m : Int) : List Int := match poZ ps a b m with | true => ((orbO ps a b (m - 1)).getD []).map fun y => (pcQ (dec ps) y : Int) | false => []
theorem poL_no {ps : List Pt} {a b m : Int} (h : poZ ps a b m = false) : poL ps a b m = [] := by unfold poL; simp only [h]
theorem poL_yes {qs : List QP} {a b m : Int} {l : List Rat} (h : poZ (qs.map qp) a b m = true) (ho : orbO (qs.map qp) a b (m - 1) = some l) : poL (qs.map qp) a b m = l.map fun y => (pcQ qs y : Int) := by
  unfold poL; simp only [h, ho, dec_qp, Option.getD_some]
theorem PiecesOf_len (ps : List Pt) (a b m : Int) : (poL ps a b m).length ≤ 1048576 := by
  cases h : poZ ps a b m with
  | false => rw [poL_no h]; simp
  | true =>
    rcases ho : orbO ps a b (m - 1) with _ | l
    · unfold poZ at h; rw [ho] at h; simp at h
    · obtain ⟨h1, _, qs, rfl, _⟩ := orbO_un ho
      rw [poL_yes h ho, List.length_map]; omega

set_option maxRecDepth 100000 in
theorem pieceNumber_any (g n c base fb : Nat) (qs : List QP) (y : Rat) (w : World) (ha : w.ownsRow base 62 4 (.slice (some ⟨g, 0, none⟩) n c) n (ptcs (qs.map qp))) (hg : GMap qs) (hy : Un y)
    (hb : fb < w.heap.size) (h0 : w.cell? ⟨fb, 0, none⟩ = some (.slice (some ⟨g, 0, none⟩) n c)) :
    Calls Try.prog 57 #[.agg #[.int .i64 (y.num), .int .i64 (y.den)], .pointer (some ⟨fb, 0, none⟩)] w fun e w' => e = .returned (.int .i64 (pcQ qs y : Int)) ∧ Below w.heap.size w w' := by
  have hfp := fun W hW => firstPiece_any g n c base qs y W hW hg hy.fit hy.hi
  have hpc : ∀ i : Nat, PieceS qs y i → i = pcQ qs y := fun i hi => pcQ_eq hi.len hi.up (fun _ => hi.at_)
  have HFP := hide hfp; have HA := hide ha; have HPC := hide hpc
  clear hfp ha hpc
  generalize pcQ qs y = z at *
  generalize y.num = yn at *
  generalize (y.den : Int) = yd at *
  go_enter Try.func57, Try.ntmps57
  go_wp2_with (go_at_call 58; (with_reducible refine ((unhide HFP) _ (own_below (unhide HA) ?pb)).mono ?_); (case pb => exact (by repeat (first | with_reducible exact Below.refl _ _ | with_reducible assumption | (with_reducible refine Below.trans ?_ (Below.mono (by assumption) (by first | omega | (simp <;> omega)))) | with_reducible apply Below.drew | with_reducible apply below_drewN | (with_reducible refine Below.alloc ?_ (by first | omega | (simp <;> omega)) _) | (with_reducible refine Below.setCell ?_ (by first | omega | (simp <;> omega)) _)))); rintro e w1 ⟨i, rfl, hi, hbw1⟩; obtain rfl := (unhide HPC) i hi)
  go_ret
  exact ⟨rfl, (by repeat (first | with_reducible exact Below.refl _ _ | with_reducible assumption | (with_reducible refine Below.trans ?_ (Below.mono (by assumption) (by first | omega | (simp <;> omega)))) | with_reducible apply Below.drew | with_reducible apply below_drewN | (with_reducible refine Below.alloc ?_ (by first | omega | (simp <;> omega)) _) | (with_reducible refine Below.setCell ?_ (by first | omega | (simp <;> omega)) _)))⟩

set_option maxRecDepth 100000 in
set_option maxHeartbeats 800000 in
theorem iPiecesOf_any (A : Option Addr) (n c base : Nat) (ps : List Pt) (a b m : Int) (w : World) (ha : w.ownsRow base 62 4 (.slice A n c) n (ptcs ps)) (hn : n ≤ 1048576) :
    Calls Try.prog 24 #[.slice A n c, .agg #[.int .i64 (a), .int .i64 (b)], .int .i64 m] w fun e w' => GivesI w.heap.size (poL ps a b m) (poZ ps a b m) e w' ∧ Below w.heap.size w w' := by
  by_cases hr : 1 ≤ m ∧ m ≤ 8
  · have hcon : ∀ (W : World), W.ownsRow base 62 4 (.slice A n c) n (ptcs ps) → w.heap.size < W.heap.size → W.cell? ⟨w.heap.size, 0, none⟩ = some (.slice A n c) →
        Calls Try.prog 56 #[.slice A n c, .agg #[.int .i64 (a), .int .i64 (b)], .int .i64 m, .func (.func 57) #[] #[.pointer (some ⟨w.heap.size, 0, none⟩)]] W fun e w' =>
          GivesI W.heap.size (poL ps a b m) (poZ ps a b m) e w' ∧ Below W.heap.size W w' := by
      intro W hW hl hc
      have hz : poZ ps a b m = (orbO ps a b (m - 1)).isSome := by unfold poZ; rw [decide_eq_true hr]; rfl
      have hL : poL ps a b m = ((orbO ps a b (m - 1)).getD []).map fun y => (pcQ (dec ps) y : Int) := by
        rcases ho : orbO ps a b (m - 1) with _ | l
        · rw [poL_no (by rw [hz, ho]; rfl)]; rfl
        · unfold poL; rw [hz, ho]; rfl
      rw [hz, hL]
      rcases hmb : mapB ps with _ | _
      · -- no map: no fraction is asked for
        exact numbersP_any (pcQ (dec ps)) A n c base ps a b m w.heap.size W hW hn hr.1 (by omega) (fun h => by rw [hmb] at h; cases h)
      · obtain ⟨g, mm, qs, hAg, hnm, hq, hg, hlen⟩ := own_form hW hmb
        subst hAg hnm hq
        rw [dec_qp]
        exact numbersP_any (pcQ qs) _ _ c base _ a b m w.heap.size W hW hn hr.1 (by omega) (fun _ y W' hy hb => pieceNumber_any g (mm + 1) c base w.heap.size qs y W' (own_below hW hb) hg hy (Nat.lt_of_lt_of_le hl hb.size) ((hb.cell (p := ⟨w.heap.size, 0, none⟩) hl).trans hc))
    have d1 : decide (m < 1) = false := decide_eq_false (by omega)
    have d2 : decide (m > 8) = false := decide_eq_false (by omega)
    have HC := hide hcon; have HA := hide ha
    clear hcon ha
    go_enter Try.func24, Try.ntmps24
    go_wp2_with (go_at_call 56; (with_reducible refine ((unhide HC) _ (own_below (unhide HA) ?pb) (by simp; omega) (by simp [go_sem])).mono ?_); (case pb => exact (by repeat (first | with_reducible exact Below.refl _ _ | with_reducible assumption | (with_reducible refine Below.trans ?_ (Below.mono (by assumption) (by first | omega | (simp <;> omega)))) | with_reducible apply Below.drew | with_reducible apply below_drewN | (with_reducible refine Below.alloc ?_ (by first | omega | (simp <;> omega)) _) | (with_reducible refine Below.setCell ?_ (by first | omega | (simp <;> omega)) _)))); rintro e w1 ⟨⟨A2, d2, rfl, ho2⟩, hbw1⟩; have hz1 := hbw1.size; (try simp at hz1))
    go_ret2
    exact ⟨⟨A2, d2, rfl, ho2.mono (by simp; omega)⟩, (by repeat (first | with_reducible exact Below.refl _ _ | with_reducible assumption | (with_reducible refine Below.trans ?_ (Below.mono (by assumption) (by first | omega | (simp <;> omega)))) | with_reducible apply Below.drew | with_reducible apply below_drewN | (with_reducible refine Below.alloc ?_ (by first | omega | (simp <;> omega)) _) | (with_reducible refine Below.setCell ?_ (by first | omega | (simp <;> omega)) _)))⟩
  · have hz : poZ ps a b m = false := by unfold poZ; rw [decide_eq_false hr]; rfl
    rw [hz, poL_no hz]
    by_cases h1 : m < 1
    · have d1 : decide (m < 1) = true := decide_eq_true h1
      go_enter Try.func24, Try.ntmps24
      go_wp2_with fail
      go_ret2
      exact ⟨givesI_none _ _, (by repeat (first | with_reducible exact Below.refl _ _ | with_reducible assumption | (with_reducible refine Below.trans ?_ (Below.mono (by assumption) (by first | omega | (simp <;> omega)))) | with_reducible apply Below.drew | with_reducible apply below_drewN | (with_reducible refine Below.alloc ?_ (by first | omega | (simp <;> omega)) _) | (with_reducible refine Below.setCell ?_ (by first | omega | (simp <;> omega)) _)))⟩
    · have d1 : decide (m < 1) = false := decide_eq_false h1
      have d2 : decide (m > 8) = true := decide_eq_true (by omega)
      go_enter Try.func24, Try.ntmps24
      go_wp2_with fail
      go_ret2
      exact ⟨givesI_none _ _, (by repeat (first | with_reducible exact Below.refl _ _ | with_reducible assumption | (with_reducible refine Below.trans ?_ (Below.mono (by assumption) (by first | omega | (simp <;> omega)))) | with_reducible apply Below.drew | with_reducible apply below_drewN | (with_reducible refine Below.alloc ?_ (by first | omega | (simp <;> omega)) _) | (with_reducible refine Below.setCell ?_ (by first | omega | (simp <;> omega)) _)))⟩
end Go.Proofs.Ythccdooacbablaa

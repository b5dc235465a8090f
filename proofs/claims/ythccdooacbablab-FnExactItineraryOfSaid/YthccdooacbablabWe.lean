/-
  Chapter 6: ItineraryOf of both.
-/
import Derived.Test.YthccdooacbablabWd
import Derived.Test.YthccdooacbablabOa
import Derived.Test.YthccdooacbablabGi
import Derived.Test.YthccdooacbablabZa
namespace Go.Proofs.Ythccdooacbablab
open Go.RowKit Rm

/-- The addresses of the first j fractions. -/
def itK (qs : List QP) (l : List Rat) (j : Nat) : List Int := (l.take j).map fun y => (adQ qs y : Int)
theorem itK_len {qs : List QP} {l : List Rat} {j : Nat} (h : j ≤ l.length) : (itK qs l j).length = j := by unfold itK; rw [List.length_map, List.length_take]; omega
theorem itK_sn {qs : List QP} {l : List Rat} {j : Nat} (h : j < l.length) : ints (itK qs l (j + 1)) = ints (itK qs l j) ++ [.int .i64 (adQ qs (l.getD j 0) : Int)] := by
  unfold itK ints
  rw [List.take_succ_eq_append_getElem h, List.map_append, List.map_append]
  simp [h]
theorem itK_all {qs : List QP} {l : List Rat} : itK qs l l.length = l.map fun y => (adQ qs y : Int) := by unfold itK; rw [List.take_length]
def itZ (ps : List Pt) (a b m : Int) : Bool := lmB ps && (decide (1 ≤ m ∧ m ≤ 20) && (orbO ps a b (m - 1)).isSome)
def itL (ps : List Pt) (a b m : Int) : List Int := match itZ ps a b m with | true => ((orbO ps a b (m - 1)).getD []).map fun y => (adQ (dec ps) y : Int) | false => []
theorem itL_no {ps : List Pt} {a b m : Int} (h : itZ ps a b m = false) : itL ps a b m = [] := by unfold itL; simp only [h]
theorem itL_yes {qs : List QP} {a b m : Int} {l : List Rat} (h : itZ (qs.map qp) a b m = true) (ho : orbO (qs.map qp) a b (m - 1) = some l) : itL (qs.map qp) a b m = l.map fun y => (adQ qs y : Int) := by
  unfold itL; simp only [h, ho, dec_qp, Option.getD_some]
theorem ItineraryOf_len (ps : List Pt) (a b m : Int) : (itL ps a b m).length ≤ 1048576 := by
  cases h : itZ ps a b m with
  | false => rw [itL_no h]; simp
  | true =>
    rcases orb_cases ps a b (m - 1) with ⟨_, _, ho⟩ | ⟨qs, x, k, rfl, hg, rfl, rfl, hx, hmk, hk, hr, _, ⟨_, _, ho⟩ | ⟨hO, ho⟩⟩
    · unfold itZ at h; rw [ho] at h; simp at h
    · unfold itZ at h; rw [ho] at h; simp at h
    · rw [itL_yes h ho, List.length_map, hO.len]; omega
theorem fAt_q (l : List Rat) {k : Nat} (h : k < l.length) : fAt (l.map qf) k = ((l.getD k 0).num, ((l.getD k 0).den : Int)) := by simp [fAt, h, qf]

set_option maxRecDepth 100000 in
theorem lapNumber_any (lb B g c : Nat) (A1 : Option Addr) (n1 c1 : Nat) (qs : List QP) (y : Rat) (w : World) (hv : w.ownsRow B 67 1 (.slice A1 n1 c1) n1 (lapVals g c (lapsQ qs))) (hp : PCells w g 0 qs) (hg : GMap qs) (hy : Un y)
    (hb : lb < w.heap.size) (h0 : w.cell? ⟨lb, 0, none⟩ = some (.slice A1 n1 c1)) :
    Calls Try.prog 22 #[.agg #[.int .i64 (y.num), .int .i64 (y.den)], .pointer (some ⟨lb, 0, none⟩)] w fun e w' => e = .returned (.int .i64 (adQ qs y : Int)) ∧ Below w.heap.size w w' := by
  have hfl := fun W (hW : Below w.heap.size w W) => firstLap_any A1 n1 c1 _ g c qs y W (own_below hv hW) (hp.below hW) hg hy.fit hy.hi
  have HFL := hide hfl
  clear hfl hv hp
  generalize adQ qs y = z at *
  generalize y.num = yn at *
  generalize (y.den : Int) = yd at *
  go_enter Try.func22, Try.ntmps22
  go_wp2_with (go_at_call 23; (with_reducible refine ((unhide HFL) _ ?pb).mono ?_); (case pb => exact (by repeat (first | with_reducible exact Below.refl _ _ | with_reducible assumption | (with_reducible refine Below.trans ?_ (Below.mono (by assumption) (by first | omega | (simp <;> omega)))) | with_reducible apply Below.drew | with_reducible apply below_drewN | (with_reducible refine Below.alloc ?_ (by first | omega | (simp <;> omega)) _) | (with_reducible refine Below.setCell ?_ (by first | omega | (simp <;> omega)) _)))); rintro e w1 ⟨rfl, hbw1⟩)
  go_ret
  exact ⟨rfl, (by repeat (first | with_reducible exact Below.refl _ _ | with_reducible assumption | (with_reducible refine Below.trans ?_ (Below.mono (by assumption) (by first | omega | (simp <;> omega)))) | with_reducible apply Below.drew | with_reducible apply below_drewN | (with_reducible refine Below.alloc ?_ (by first | omega | (simp <;> omega)) _) | (with_reducible refine Below.setCell ?_ (by first | omega | (simp <;> omega)) _)))⟩

set_option maxRecDepth 100000 in
set_option maxHeartbeats 1600000 in
theorem iItineraryOf_any (A : Option Addr) (n c base : Nat) (ps : List Pt) (a b m : Int) (w : World) (ha : w.ownsRow base 45 4 (.slice A n c) n (ptcs ps)) (hn : n ≤ 1048576) :
    Calls Try.prog 8 #[.slice A n c, .agg #[.int .i64 (a), .int .i64 (b)], .int .i64 m] w fun e w' => GivesI w.heap.size (itL ps a b m) (itZ ps a b m) e w' ∧ Below w.heap.size w w' := by
  have hlw := fun W hW => lapsWith_any A n c base ps W hW hn
  have HLW := hide hlw; have HA := hide ha; clear hlw
  rcases hm : lmB ps with _ | _
  · have hz : itZ ps a b m = false := by unfold itZ; rw [hm]; rfl
    rw [hz, itL_no hz]
    have HM := Lib.hid hm
    clear hm hz ha
    go_enter Try.func8, Try.ntmps8
    go_wp2_with (go_at_call 20; (with_reducible refine ((unhide HLW) _ (own_below (unhide HA) ?pb)).mono ?_); (case pb => exact (by repeat (first | with_reducible exact Below.refl _ _ | with_reducible assumption | (with_reducible refine Below.trans ?_ (Below.mono (by assumption) (by first | omega | (simp <;> omega)))) | with_reducible apply Below.drew | with_reducible apply below_drewN | (with_reducible refine Below.alloc ?_ (by first | omega | (simp <;> omega)) _) | (with_reducible refine Below.setCell ?_ (by first | omega | (simp <;> omega)) _)))); rintro e w1 ⟨h1, _, hbw1⟩; obtain rfl := h1 HM.out; clear h1; have hz1 := hbw1.size; (try simp at hz1); (skip; (try ((have kw1w0 := (bnew hbw1) (w.heap.size) ?pf); (case pf => (first | omega | (simp; done) | (simp; omega))); obtain ⟨kcw1w0, kfw1w0, klw1w0⟩ := kw1w0))))
    go_ret2
    exact ⟨givesI_none _ _, (by repeat (first | with_reducible exact Below.refl _ _ | with_reducible assumption | (with_reducible refine Below.trans ?_ (Below.mono (by assumption) (by first | omega | (simp <;> omega)))) | with_reducible apply Below.drew | with_reducible apply below_drewN | (with_reducible refine Below.alloc ?_ (by first | omega | (simp <;> omega)) _) | (with_reducible refine Below.setCell ?_ (by first | omega | (simp <;> omega)) _)))⟩
  · obtain ⟨qs, hq, hl⟩ := lmB_of hm
    have hmb : mapB ps = true := by rw [hq]; exact hl.toGMap.mapB
    obtain ⟨g, mm, qs', hAg, hnm, hq', hg', hlen⟩ := own_form ha hmb
    obtain rfl : qs = qs' := by have := congrArg dec (hq.symm.trans hq'); rwa [dec_qp, dec_qp] at this
    subst hAg hnm hq
    have HQ := Lib.hid hl
    have hnext : ∀ (v1 : Value) (W : World) (B : Nat), W.ownsRow B 67 1 v1 (lapsQ qs).length (lapVals g c (lapsQ qs)) → ∃ A1 c1, v1 = .slice A1 (lapsQ qs).length c1 := fun v1 W B hv => own_slice hv
    have HNV := hide hnext; clear hnext
    by_cases hr : 1 ≤ m ∧ m ≤ 20
    · have e2 : decide (m < 1) = false := decide_eq_false (by omega)
      have e3 : decide (m > 20) = false := decide_eq_false (by omega)
      have hz : itZ (qs.map qp) a b m = (orbO (qs.map qp) a b (m - 1)).isSome := by unfold itZ; rw [hm, decide_eq_true hr]; rfl
      have hL : itL (qs.map qp) a b m = ((orbO (qs.map qp) a b (m - 1)).getD []).map fun y => (adQ qs y : Int) := by
        rcases ho : orbO (qs.map qp) a b (m - 1) with _ | l
        · rw [itL_no (by rw [hz, ho]; rfl)]; rfl
        · rw [itL_yes (by rw [hz, ho]; rfl) ho]; rfl
      rw [hz, hL]
      have hP := PCells.own ha
      have hnb := fun (lb B : Nat) (A1 : Option Addr) (c1 : Nat) (W : World) hW (hwW : Below w.heap.size w W) hv hlb h0 => numbersI_any (fun y => adQ qs y) (some ⟨g, 0, none⟩) (mm + 1) c base (qs.map qp) a b m lb W hW hn hr.1 (by omega)
        (fun _ y W' hy hb => lapNumber_any lb B g c A1 (lapsQ qs).length c1 qs y W' (own_below hv hb) ((hP.below hwW).below hb) hl.toGMap hy (Nat.lt_of_lt_of_le hlb hb.size) ((hb.cell (p := ⟨lb, 0, none⟩) hlb).trans h0))
      have HNB := hide hnb
      clear hm hz hL ha hl hq' hmb hg' hlen hr hP hnb
      generalize ((orbO (qs.map qp) a b (m - 1)).getD []).map (fun y => (adQ qs y : Int)) = L at *
      generalize (orbO (qs.map qp) a b (m - 1)).isSome = z at *
      go_enter Try.func8, Try.ntmps8
      go_wp2_with (first
        | (go_at_call 20; (with_reducible refine ((unhide HLW) _ (own_below (unhide HA) ?pb)).mono ?_); (case pb => exact (by repeat (first | with_reducible exact Below.refl _ _ | with_reducible assumption | (with_reducible refine Below.trans ?_ (Below.mono (by assumption) (by first | omega | (simp <;> omega)))) | with_reducible apply Below.drew | with_reducible apply below_drewN | (with_reducible refine Below.alloc ?_ (by first | omega | (simp <;> omega)) _) | (with_reducible refine Below.setCell ?_ (by first | omega | (simp <;> omega)) _)))); rintro e w1 ⟨_, h2, hbw1⟩; obtain ⟨v1, rfl, hv1⟩ := h2 g qs rfl rfl HQ.out; clear h2; have hz1 := hbw1.size; (try simp at hz1); (skip; (try ((have kw1w0 := (bnew hbw1) (w.heap.size) ?pf); (case pf => (first | omega | (simp; done) | (simp; omega))); obtain ⟨kcw1w0, kfw1w0, klw1w0⟩ := kw1w0))); obtain ⟨A1, c1, rfl⟩ := (unhide HNV) _ _ _ hv1; have HV1 := hide hv1; clear hv1)
        | (go_at_call 21; (with_reducible refine ((unhide HNB) w1.heap.size _ _ _ _ (own_below (unhide HA) ?pb) ?pc (own_below (unhide HV1) ?pd) ?pe ?pf).mono ?_); (case pb => exact (by repeat (first | with_reducible exact Below.refl _ _ | with_reducible assumption | (with_reducible refine Below.trans ?_ (Below.mono (by assumption) (by first | omega | (simp <;> omega)))) | with_reducible apply Below.drew | with_reducible apply below_drewN | (with_reducible refine Below.alloc ?_ (by first | omega | (simp <;> omega)) _) | (with_reducible refine Below.setCell ?_ (by first | omega | (simp <;> omega)) _)))); (case pc => exact (by repeat (first | with_reducible exact Below.refl _ _ | with_reducible assumption | (with_reducible refine Below.trans ?_ (Below.mono (by assumption) (by first | omega | (simp <;> omega)))) | with_reducible apply Below.drew | with_reducible apply below_drewN | (with_reducible refine Below.alloc ?_ (by first | omega | (simp <;> omega)) _) | (with_reducible refine Below.setCell ?_ (by first | omega | (simp <;> omega)) _)))); (case pd => exact (by repeat (first | with_reducible exact Below.refl _ _ | with_reducible assumption | (with_reducible refine Below.trans ?_ (Below.mono (by assumption) (by first | omega | (simp <;> omega)))) | with_reducible apply Below.drew | with_reducible apply below_drewN | (with_reducible refine Below.alloc ?_ (by first | omega | (simp <;> omega)) _) | (with_reducible refine Below.setCell ?_ (by first | omega | (simp <;> omega)) _)))); (case pe => first | (simp; done) | (simp; omega)); (case pf => simp [go_sem]); rintro e w2 ⟨⟨A2, d2, rfl, ho2⟩, hbw2⟩; have hz2 := hbw2.size; (try simp at hz2)))
      go_ret2
      exact ⟨⟨A2, d2, rfl, ho2.mono (by simp; omega)⟩, (by repeat (first | with_reducible exact Below.refl _ _ | with_reducible assumption | (with_reducible refine Below.trans ?_ (Below.mono (by assumption) (by first | omega | (simp <;> omega)))) | with_reducible apply Below.drew | with_reducible apply below_drewN | (with_reducible refine Below.alloc ?_ (by first | omega | (simp <;> omega)) _) | (with_reducible refine Below.setCell ?_ (by first | omega | (simp <;> omega)) _)))⟩
    · have hz : itZ (qs.map qp) a b m = false := by unfold itZ; rw [decide_eq_false hr]; simp
      rw [hz, itL_no hz]
      clear hm hz ha hl hq' hmb hg' hlen
      by_cases h1 : m < 1
      · go_enter Try.func8, Try.ntmps8
        go_wp2_with (go_at_call 20; (with_reducible refine ((unhide HLW) _ (own_below (unhide HA) ?pb)).mono ?_); (case pb => exact (by repeat (first | with_reducible exact Below.refl _ _ | with_reducible assumption | (with_reducible refine Below.trans ?_ (Below.mono (by assumption) (by first | omega | (simp <;> omega)))) | with_reducible apply Below.drew | with_reducible apply below_drewN | (with_reducible refine Below.alloc ?_ (by first | omega | (simp <;> omega)) _) | (with_reducible refine Below.setCell ?_ (by first | omega | (simp <;> omega)) _)))); rintro e w1 ⟨_, h2, hbw1⟩; obtain ⟨v1, rfl, hv1⟩ := h2 g qs rfl rfl HQ.out; clear h2; have hz1 := hbw1.size; (try simp at hz1); (skip; (try ((have kw1w0 := (bnew hbw1) (w.heap.size) ?pf); (case pf => (first | omega | (simp; done) | (simp; omega))); obtain ⟨kcw1w0, kfw1w0, klw1w0⟩ := kw1w0))); obtain ⟨A1, c1, rfl⟩ := (unhide HNV) _ _ _ hv1)
        go_ret2
        exact ⟨givesI_none _ _, (by repeat (first | with_reducible exact Below.refl _ _ | with_reducible assumption | (with_reducible refine Below.trans ?_ (Below.mono (by assumption) (by first | omega | (simp <;> omega)))) | with_reducible apply Below.drew | with_reducible apply below_drewN | (with_reducible refine Below.alloc ?_ (by first | omega | (simp <;> omega)) _) | (with_reducible refine Below.setCell ?_ (by first | omega | (simp <;> omega)) _)))⟩
      · have h2 : m > 20 := by omega
        clear hr
        go_enter Try.func8, Try.ntmps8
        go_wp2_with (go_at_call 20; (with_reducible refine ((unhide HLW) _ (own_below (unhide HA) ?pb)).mono ?_); (case pb => exact (by repeat (first | with_reducible exact Below.refl _ _ | with_reducible assumption | (with_reducible refine Below.trans ?_ (Below.mono (by assumption) (by first | omega | (simp <;> omega)))) | with_reducible apply Below.drew | with_reducible apply below_drewN | (with_reducible refine Below.alloc ?_ (by first | omega | (simp <;> omega)) _) | (with_reducible refine Below.setCell ?_ (by first | omega | (simp <;> omega)) _)))); rintro e w1 ⟨_, h2, hbw1⟩; obtain ⟨v1, rfl, hv1⟩ := h2 g qs rfl rfl HQ.out; clear h2; have hz1 := hbw1.size; (try simp at hz1); (skip; (try ((have kw1w0 := (bnew hbw1) (w.heap.size) ?pf); (case pf => (first | omega | (simp; done) | (simp; omega))); obtain ⟨kcw1w0, kfw1w0, klw1w0⟩ := kw1w0))); obtain ⟨A1, c1, rfl⟩ := (unhide HNV) _ _ _ hv1)
        go_ret2
        exact ⟨givesI_none _ _, (by repeat (first | with_reducible exact Below.refl _ _ | with_reducible assumption | (with_reducible refine Below.trans ?_ (Below.mono (by assumption) (by first | omega | (simp <;> omega)))) | with_reducible apply Below.drew | with_reducible apply below_drewN | (with_reducible refine Below.alloc ?_ (by first | omega | (simp <;> omega)) _) | (with_reducible refine Below.setCell ?_ (by first | omega | (simp <;> omega)) _)))⟩
end Go.Proofs.Ythccdooacbablab

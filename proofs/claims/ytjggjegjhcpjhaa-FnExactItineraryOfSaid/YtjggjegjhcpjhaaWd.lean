/-
  Chapter 6: AddressOf of both.
-/
import Derived.Test.YtjggjegjhcpjhaaWc
namespace Go.Proofs.Ytjggjegjhcpjhaa
open Go.RowKit Rm

def adZ (ps : List Pt) (a b : Int) : Bool := lmB ps && uB a b
def adI (ps : List Pt) (a b : Int) : Int := match adZ ps a b with | true => (adQ (dec ps) (Rat.divInt a b) : Int) | false => 0
theorem adI_no {ps : List Pt} {a b : Int} (h : adZ ps a b = false) : adI ps a b = 0 := by unfold adI; simp only [h]
theorem adI_map {qs : List QP} {x : Rat} (h : adZ (qs.map qp) x.num x.den = true) : adI (qs.map qp) x.num x.den = (adQ qs x : Int) := by
  unfold adI; simp only [h, dec_qp, Rat.num_divInt_den]

set_option maxRecDepth 100000 in
set_option maxHeartbeats 800000 in
theorem iAddressOf_any (A : Option Addr) (n c base : Nat) (ps : List Pt) (a b : Int) (w : World) (ha : w.ownsRow base 73 4 (.slice A n c) n (ptcs ps)) (hn : n ≤ 1048576) :
    Calls Try.prog 22 #[.slice A n c, .agg #[.int .i64 (a), .int .i64 (b)]] w fun e w' => e = .returned (.tuple #[.int .i64 (adI ps a b), .bool (adZ ps a b)]) ∧ Below w.heap.size w w' := by
  have hlw := fun W hW => lapsWith_any A n c base ps W hW hn
  have hun := fun W => isUnit_any a b W
  have HLW := hide hlw; have HA := hide ha; clear hlw
  rcases hm : lmB ps with _ | _
  · have hz : adZ ps a b = false := by unfold adZ; rw [hm]; rfl
    rw [hz, adI_no hz]
    have HM := Lib.hid hm
    clear hm hz ha hun
    go_enter Try.func22, Try.ntmps22
    go_wp2_with (go_at_call 57; (with_reducible refine ((unhide HLW) _ (own_below (unhide HA) ?pb)).mono ?_); (case pb => exact (by repeat (first | with_reducible exact Below.refl _ _ | with_reducible assumption | (with_reducible refine Below.trans ?_ (Below.mono (by assumption) (by first | omega | (simp <;> omega)))) | with_reducible apply Below.drew | with_reducible apply below_drewN | (with_reducible refine Below.alloc ?_ (by first | omega | (simp <;> omega)) _) | (with_reducible refine Below.setCell ?_ (by first | omega | (simp <;> omega)) _)))); rintro e w1 ⟨h1, _, hbw1⟩; obtain rfl := h1 HM.out; clear h1; (skip; (try ((have kw1w0 := (bnew hbw1) (w.heap.size) ?pf); (case pf => (first | omega | (simp; done) | (simp; omega))); obtain ⟨kcw1w0, kfw1w0, klw1w0⟩ := kw1w0))))
    go_ret2
    exact ⟨rfl, (by repeat (first | with_reducible exact Below.refl _ _ | with_reducible assumption | (with_reducible refine Below.trans ?_ (Below.mono (by assumption) (by first | omega | (simp <;> omega)))) | with_reducible apply Below.drew | with_reducible apply below_drewN | (with_reducible refine Below.alloc ?_ (by first | omega | (simp <;> omega)) _) | (with_reducible refine Below.setCell ?_ (by first | omega | (simp <;> omega)) _)))⟩
  · obtain ⟨qs, hq, hl⟩ := lmB_of hm
    have hmb : mapB ps = true := by rw [hq]; exact hl.toGMap.mapB
    obtain ⟨g, m, qs', hAg, hnm, hq', hg', hlen⟩ := own_form ha hmb
    obtain rfl : qs = qs' := by have := congrArg dec (hq.symm.trans hq'); rwa [dec_qp, dec_qp] at this
    subst hAg hnm hq
    have HQ := Lib.hid hl
    rcases hu : uB a b with _ | _
    · have hz : adZ (qs.map qp) a b = false := by unfold adZ; rw [hu, Bool.and_false]
      rw [hz, adI_no hz]
      rw [hu] at hun
      have HU := hide hun
      clear hm hz ha hun hl hq' hu hmb hg' hlen
      go_enter Try.func22, Try.ntmps22
      go_wp2_with (first
        | (go_at_call 57; (with_reducible refine ((unhide HLW) _ (own_below (unhide HA) ?pb)).mono ?_); (case pb => exact (by repeat (first | with_reducible exact Below.refl _ _ | with_reducible assumption | (with_reducible refine Below.trans ?_ (Below.mono (by assumption) (by first | omega | (simp <;> omega)))) | with_reducible apply Below.drew | with_reducible apply below_drewN | (with_reducible refine Below.alloc ?_ (by first | omega | (simp <;> omega)) _) | (with_reducible refine Below.setCell ?_ (by first | omega | (simp <;> omega)) _)))); rintro e w1 ⟨_, h2, hbw1⟩; obtain ⟨v1, rfl, hv1⟩ := h2 g qs rfl rfl HQ.out; clear h2; (skip; (try ((have kw1w0 := (bnew hbw1) (w.heap.size) ?pf); (case pf => (first | omega | (simp; done) | (simp; omega))); obtain ⟨kcw1w0, kfw1w0, klw1w0⟩ := kw1w0))))
        | (go_at_call 61; (with_reducible refine ((unhide HU) _).mono ?_); rintro e w2 ⟨rfl, hbw2⟩; obtain ⟨hcw2, hfw2⟩ := bcell hbw2; have hzw2 := hbw2.size; (try simp at hzw2); (try ((have kw2w0 := (bnew hbw2) (w.heap.size) ?pf); (case pf => (first | omega | (simp; done) | (simp; omega))); obtain ⟨kcw2w0, kfw2w0, klw2w0⟩ := kw2w0))))
      go_ret2
      exact ⟨rfl, (by repeat (first | with_reducible exact Below.refl _ _ | with_reducible assumption | (with_reducible refine Below.trans ?_ (Below.mono (by assumption) (by first | omega | (simp <;> omega)))) | with_reducible apply Below.drew | with_reducible apply below_drewN | (with_reducible refine Below.alloc ?_ (by first | omega | (simp <;> omega)) _) | (with_reducible refine Below.setCell ?_ (by first | omega | (simp <;> omega)) _)))⟩
    · obtain ⟨x, rfl, rfl, hxf, hx0, hx1⟩ := uB_rat hu
      have hz : adZ (qs.map qp) x.num x.den = true := by unfold adZ; rw [hm, hu]; rfl
      rw [adI_map hz, hz]
      rw [hu] at hun
      have hfl := fun (v1 : Value) (W : World) (B : Nat) (hv : W.ownsRow B 123 1 v1 (lapsQ qs).length (lapVals g c (lapsQ qs))) (hW : Below w.heap.size w W) =>
        (show ∃ A1 c1, v1 = .slice A1 (lapsQ qs).length c1 from own_slice hv)
      have hfi := fun (A1 : Option Addr) (c1 : Nat) (W : World) (B : Nat) hv hp => firstLap_any A1 (lapsQ qs).length c1 B g c qs x W hv hp hl.toGMap hxf hx1
      have hP := PCells.own ha
      have HU := hide hun; have HFL := hide hfl; have HFI := hide hfi; have HP := hide hP
      clear hm hz ha hun hl hq' hu hmb hg' hlen hfl hfi hP hxf hx0 hx1
      generalize adQ qs x = z at *
      generalize x.num = xn at *
      generalize (x.den : Int) = xd at *
      go_enter Try.func22, Try.ntmps22
      go_wp2_with (first
        | (go_at_call 57; (with_reducible refine ((unhide HLW) _ (own_below (unhide HA) ?pb)).mono ?_); (case pb => exact (by repeat (first | with_reducible exact Below.refl _ _ | with_reducible assumption | (with_reducible refine Below.trans ?_ (Below.mono (by assumption) (by first | omega | (simp <;> omega)))) | with_reducible apply Below.drew | with_reducible apply below_drewN | (with_reducible refine Below.alloc ?_ (by first | omega | (simp <;> omega)) _) | (with_reducible refine Below.setCell ?_ (by first | omega | (simp <;> omega)) _)))); rintro e w1 ⟨_, h2, hbw1⟩; obtain ⟨v1, rfl, hv1⟩ := h2 g qs rfl rfl HQ.out; clear h2; have hz1 := hbw1.size; (try simp at hz1); (skip; (try ((have kw1w0 := (bnew hbw1) (w.heap.size) ?pf); (case pf => (first | omega | (simp; done) | (simp; omega))); obtain ⟨kcw1w0, kfw1w0, klw1w0⟩ := kw1w0))); obtain ⟨A1, c1, rfl⟩ := (unhide HFL) _ _ _ hv1 (by repeat (first | with_reducible exact Below.refl _ _ | with_reducible assumption | (with_reducible refine Below.trans ?_ (Below.mono (by assumption) (by first | omega | (simp <;> omega)))) | with_reducible apply Below.drew | with_reducible apply below_drewN | (with_reducible refine Below.alloc ?_ (by first | omega | (simp <;> omega)) _) | (with_reducible refine Below.setCell ?_ (by first | omega | (simp <;> omega)) _))); have HV1 := hide hv1; clear hv1)
        | (go_at_call 61; (with_reducible refine ((unhide HU) _).mono ?_); rintro e w2 ⟨rfl, hbw2⟩; obtain ⟨hcw2, hfw2⟩ := bcell hbw2; have hzw2 := hbw2.size; (try simp at hzw2); (try ((have kw2w0 := (bnew hbw2) (w.heap.size) ?pf); (case pf => (first | omega | (simp; done) | (simp; omega))); obtain ⟨kcw2w0, kfw2w0, klw2w0⟩ := kw2w0)))
        | (go_at_call 62; (with_reducible refine ((unhide HFI) A1 c1 _ _ (own_below (unhide HV1) ?pb) ((unhide HP).below ?pc)).mono ?_); (case pb => exact (by repeat (first | with_reducible exact Below.refl _ _ | with_reducible assumption | (with_reducible refine Below.trans ?_ (Below.mono (by assumption) (by first | omega | (simp <;> omega)))) | with_reducible apply Below.drew | with_reducible apply below_drewN | (with_reducible refine Below.alloc ?_ (by first | omega | (simp <;> omega)) _) | (with_reducible refine Below.setCell ?_ (by first | omega | (simp <;> omega)) _)))); (case pc => exact (by repeat (first | with_reducible exact Below.refl _ _ | with_reducible assumption | (with_reducible refine Below.trans ?_ (Below.mono (by assumption) (by first | omega | (simp <;> omega)))) | with_reducible apply Below.drew | with_reducible apply below_drewN | (with_reducible refine Below.alloc ?_ (by first | omega | (simp <;> omega)) _) | (with_reducible refine Below.setCell ?_ (by first | omega | (simp <;> omega)) _)))); rintro e w3 ⟨rfl, hbw3⟩; (skip; (try ((have kw3w0 := (bnew hbw3) (w.heap.size) ?pf); (case pf => (first | omega | (simp; done) | (simp; omega))); obtain ⟨kcw3w0, kfw3w0, klw3w0⟩ := kw3w0)))))
      go_ret2
      exact ⟨rfl, (by repeat (first | with_reducible exact Below.refl _ _ | with_reducible assumption | (with_reducible refine Below.trans ?_ (Below.mono (by assumption) (by first | omega | (simp <;> omega)))) | with_reducible apply Below.drew | with_reducible apply below_drewN | (with_reducible refine Below.alloc ?_ (by first | omega | (simp <;> omega)) _) | (with_reducible refine Below.setCell ?_ (by first | omega | (simp <;> omega)) _)))⟩

set_option maxRecDepth 100000 in
set_option maxHeartbeats 800000 in
theorem sAddressOf_any (A : Option Addr) (n c base : Nat) (ps : List Pt) (a b : Int) (w : World) (ha : w.ownsRow base 73 4 (.slice A n c) n (ptcs ps)) (hn : n ≤ 1048576) :
    Calls Try.prog 20 #[.slice A n c, .agg #[.int .i64 (a), .int .i64 (b)]] w fun e w' => e = .returned (.tuple #[.int .i64 (adI ps a b), .bool (adZ ps a b)]) ∧ Below w.heap.size w w' := by
  have hlw := fun W hW => woMap_any A n c base ps W hW hn
  have hun := fun W => raUnit_any a b W
  have HA := hide ha
  rcases hm : lmB ps with _ | _
  · have hz : adZ ps a b = false := by unfold adZ; rw [hm]; rfl
    rw [hz, adI_no hz]
    rw [hm] at hlw
    have HLW := hide hlw
    clear hm hz ha hun hlw
    go_enter Try.func20, Try.ntmps20
    go_wp2_with (go_at_call 55; (with_reducible refine ((unhide HLW) _ (own_below (unhide HA) ?pb)).mono ?_); (case pb => exact (by repeat (first | with_reducible exact Below.refl _ _ | with_reducible assumption | (with_reducible refine Below.trans ?_ (Below.mono (by assumption) (by first | omega | (simp <;> omega)))) | with_reducible apply Below.drew | with_reducible apply below_drewN | (with_reducible refine Below.alloc ?_ (by first | omega | (simp <;> omega)) _) | (with_reducible refine Below.setCell ?_ (by first | omega | (simp <;> omega)) _)))); rintro e w1 ⟨rfl, hbw1⟩; (skip; (try ((have kw1w0 := (bnew hbw1) (w.heap.size) ?pf); (case pf => (first | omega | (simp; done) | (simp; omega))); obtain ⟨kcw1w0, kfw1w0, klw1w0⟩ := kw1w0))))
    go_ret2
    exact ⟨rfl, (by repeat (first | with_reducible exact Below.refl _ _ | with_reducible assumption | (with_reducible refine Below.trans ?_ (Below.mono (by assumption) (by first | omega | (simp <;> omega)))) | with_reducible apply Below.drew | with_reducible apply below_drewN | (with_reducible refine Below.alloc ?_ (by first | omega | (simp <;> omega)) _) | (with_reducible refine Below.setCell ?_ (by first | omega | (simp <;> omega)) _)))⟩
  · rw [hm] at hlw
    have HLW := hide hlw; clear hlw
    rcases hu : uB a b with _ | _
    · have hz : adZ ps a b = false := by unfold adZ; rw [hu, Bool.and_false]
      rw [hz, adI_no hz]
      rw [hu] at hun
      have HU := hide hun
      clear hm hz ha hun hu
      go_enter Try.func20, Try.ntmps20
      go_wp2_with (first
        | (go_at_call 55; (with_reducible refine ((unhide HLW) _ (own_below (unhide HA) ?pb)).mono ?_); (case pb => exact (by repeat (first | with_reducible exact Below.refl _ _ | with_reducible assumption | (with_reducible refine Below.trans ?_ (Below.mono (by assumption) (by first | omega | (simp <;> omega)))) | with_reducible apply Below.drew | with_reducible apply below_drewN | (with_reducible refine Below.alloc ?_ (by first | omega | (simp <;> omega)) _) | (with_reducible refine Below.setCell ?_ (by first | omega | (simp <;> omega)) _)))); rintro e w1 ⟨rfl, hbw1⟩; (skip; (try ((have kw1w0 := (bnew hbw1) (w.heap.size) ?pf); (case pf => (first | omega | (simp; done) | (simp; omega))); obtain ⟨kcw1w0, kfw1w0, klw1w0⟩ := kw1w0))))
        | (go_at_call 59; (with_reducible refine ((unhide HU) _).mono ?_); rintro e w2 ⟨rfl, hbw2⟩; obtain ⟨hcw2, hfw2⟩ := bcell hbw2; have hzw2 := hbw2.size; (try simp at hzw2); (try ((have kw2w0 := (bnew hbw2) (w.heap.size) ?pf); (case pf => (first | omega | (simp; done) | (simp; omega))); obtain ⟨kcw2w0, kfw2w0, klw2w0⟩ := kw2w0))))
      go_ret2
      exact ⟨rfl, (by repeat (first | with_reducible exact Below.refl _ _ | with_reducible assumption | (with_reducible refine Below.trans ?_ (Below.mono (by assumption) (by first | omega | (simp <;> omega)))) | with_reducible apply Below.drew | with_reducible apply below_drewN | (with_reducible refine Below.alloc ?_ (by first | omega | (simp <;> omega)) _) | (with_reducible refine Below.setCell ?_ (by first | omega | (simp <;> omega)) _)))⟩
    · obtain ⟨qs, hq, hl⟩ := lmB_of hm
      have hmb : mapB ps = true := by rw [hq]; exact hl.toGMap.mapB
      obtain ⟨g, m, qs', hAg, hnm, hq', hg', hlen⟩ := own_form ha hmb
      obtain rfl : qs = qs' := by have := congrArg dec (hq.symm.trans hq'); rwa [dec_qp, dec_qp] at this
      subst hAg hnm hq
      obtain ⟨x, rfl, rfl, hxf, hx0, hx1⟩ := uB_rat hu
      have hz : adZ (qs.map qp) x.num x.den = true := by unfold adZ; rw [hm, hu]; rfl
      rw [adI_map hz, hz]
      rw [hu] at hun
      have hfi := fun W hW => woAddress_any g m c base qs x W hW hg' hxf hx1
      have HU := hide hun; have HFI := hide hfi
      clear hm hz ha hun hl hq' hu hmb hg' hlen hfi hxf hx0 hx1
      generalize adQ qs x = z at *
      generalize x.num = xn at *
      generalize (x.den : Int) = xd at *
      go_enter Try.func20, Try.ntmps20
      go_wp2_with (first
        | (go_at_call 55; (with_reducible refine ((unhide HLW) _ (own_below (unhide HA) ?pb)).mono ?_); (case pb => exact (by repeat (first | with_reducible exact Below.refl _ _ | with_reducible assumption | (with_reducible refine Below.trans ?_ (Below.mono (by assumption) (by first | omega | (simp <;> omega)))) | with_reducible apply Below.drew | with_reducible apply below_drewN | (with_reducible refine Below.alloc ?_ (by first | omega | (simp <;> omega)) _) | (with_reducible refine Below.setCell ?_ (by first | omega | (simp <;> omega)) _)))); rintro e w1 ⟨rfl, hbw1⟩; have hz1 := hbw1.size; (try simp at hz1); (skip; (try ((have kw1w0 := (bnew hbw1) (w.heap.size) ?pf); (case pf => (first | omega | (simp; done) | (simp; omega))); obtain ⟨kcw1w0, kfw1w0, klw1w0⟩ := kw1w0))))
        | (go_at_call 59; (with_reducible refine ((unhide HU) _).mono ?_); rintro e w2 ⟨rfl, hbw2⟩; obtain ⟨hcw2, hfw2⟩ := bcell hbw2; have hzw2 := hbw2.size; (try simp at hzw2); (try ((have kw2w0 := (bnew hbw2) (w.heap.size) ?pf); (case pf => (first | omega | (simp; done) | (simp; omega))); obtain ⟨kcw2w0, kfw2w0, klw2w0⟩ := kw2w0)))
        | (go_at_call 60; (with_reducible refine ((unhide HFI) _ (own_below (unhide HA) ?pb)).mono ?_); (case pb => exact (by repeat (first | with_reducible exact Below.refl _ _ | with_reducible assumption | (with_reducible refine Below.trans ?_ (Below.mono (by assumption) (by first | omega | (simp <;> omega)))) | with_reducible apply Below.drew | with_reducible apply below_drewN | (with_reducible refine Below.alloc ?_ (by first | omega | (simp <;> omega)) _) | (with_reducible refine Below.setCell ?_ (by first | omega | (simp <;> omega)) _)))); rintro e w3 ⟨rfl, hbw3⟩; (skip; (try ((have kw3w0 := (bnew hbw3) (w.heap.size) ?pf); (case pf => (first | omega | (simp; done) | (simp; omega))); obtain ⟨kcw3w0, kfw3w0, klw3w0⟩ := kw3w0)))))
      go_ret2
      exact ⟨rfl, (by repeat (first | with_reducible exact Below.refl _ _ | with_reducible assumption | (with_reducible refine Below.trans ?_ (Below.mono (by assumption) (by first | omega | (simp <;> omega)))) | with_reducible apply Below.drew | with_reducible apply below_drewN | (with_reducible refine Below.alloc ?_ (by first | omega | (simp <;> omega)) _) | (with_reducible refine Below.setCell ?_ (by first | omega | (simp <;> omega)) _)))⟩
end Go.Proofs.Ytjggjegjhcpjhaa

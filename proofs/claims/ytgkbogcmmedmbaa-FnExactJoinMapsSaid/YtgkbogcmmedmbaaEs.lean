/-
  Chapter 5: AreSameMap of program and model.
-/
import Derived.Test.YtgkbogcmmedmbaaCe
import Derived.Test.YtgkbogcmmedmbaaSima
namespace Go.Proofs.Ytgkbogcmmedmbaa
open Go.RowKit Rm

/-- Are two maps the same? None if one of the lists is no map. -/
def smO2 (ps qs : List Pt) : Option Bool := if mapB ps && mapB qs then some (decide (simF ps = simF qs)) else none
theorem smO2_no {ps qs : List Pt} (h : mapB ps = false ∨ mapB qs = false) : smO2 ps qs = none := by
  unfold smO2
  rw [if_neg]
  rcases h with h | h <;> simp [h]


set_option maxRecDepth 100000 in
theorem coTwo_any (A B : Option Addr) (n m c d b1 b2 : Nat) (ps qs : List Pt) (w : World) (ha : w.ownsRow b1 43 4 (.slice A n c) n (ptcs ps)) (hb : w.ownsRow b2 43 4 (.slice B m d) m (ptcs qs)) (hn : n ≤ 1048576) (hm : m ≤ 1048576) :
    Calls Try.prog 22 #[.slice A n c, .slice B m d] w fun e w' => e = .returned (.bool (mapB ps && mapB qs)) ∧ Below w.heap.size w w' := by
  have hm1 := fun W hW => imGood_any A n c b1 ps W hW hn
  have hm2 := fun W hW => imGood_any B m d b2 qs W hW hm
  have HA := hide ha; have HB := hide hb; clear ha hb
  cases h1 : mapB ps with
  | false =>
    rw [h1] at hm1
    have HM1 := hide hm1; have HM2 := hide hm2; clear hm1 hm2 h1
    go_enter Try.func22, Try.ntmps22
    go_wp2_with (go_at_call 46; (with_reducible refine ((unhide HM1) _ (own_below (unhide HA) ?pb)).mono ?_); (case pb => exact (by repeat (first | with_reducible exact Below.refl _ _ | with_reducible assumption | (with_reducible refine Below.trans ?_ (Below.mono (by assumption) (by first | omega | (simp <;> omega)))) | with_reducible apply Below.drew | with_reducible apply below_drewN | (with_reducible refine Below.alloc ?_ (by first | omega | (simp <;> omega)) _) | (with_reducible refine Below.setCell ?_ (by first | omega | (simp <;> omega)) _)))); rintro e w1 ⟨rfl, hbw1⟩; have hs1 := hbw1.size)
    go_ret
    exact ⟨by simp, (by repeat (first | with_reducible exact Below.refl _ _ | with_reducible assumption | (with_reducible refine Below.trans ?_ (Below.mono (by assumption) (by first | omega | (simp <;> omega)))) | with_reducible apply Below.drew | with_reducible apply below_drewN | (with_reducible refine Below.alloc ?_ (by first | omega | (simp <;> omega)) _) | (with_reducible refine Below.setCell ?_ (by first | omega | (simp <;> omega)) _)))⟩
  | true =>
    rw [h1] at hm1
    have HM1 := hide hm1; have HM2 := hide hm2; clear hm1 hm2 h1
    rw [Bool.true_and]
    generalize mapB qs = z at *
    go_enter Try.func22, Try.ntmps22
    go_wp2_with (first
      | (go_at_call 46; (with_reducible refine ((unhide HM1) _ (own_below (unhide HA) ?pb)).mono ?_); (case pb => exact (by repeat (first | with_reducible exact Below.refl _ _ | with_reducible assumption | (with_reducible refine Below.trans ?_ (Below.mono (by assumption) (by first | omega | (simp <;> omega)))) | with_reducible apply Below.drew | with_reducible apply below_drewN | (with_reducible refine Below.alloc ?_ (by first | omega | (simp <;> omega)) _) | (with_reducible refine Below.setCell ?_ (by first | omega | (simp <;> omega)) _)))); rintro e w1 ⟨rfl, hbw1⟩; have hs1 := hbw1.size)
      | (go_at_call 46; (with_reducible refine ((unhide HM2) _ (own_below (unhide HB) ?pb)).mono ?_); (case pb => exact (by repeat (first | with_reducible exact Below.refl _ _ | with_reducible assumption | (with_reducible refine Below.trans ?_ (Below.mono (by assumption) (by first | omega | (simp <;> omega)))) | with_reducible apply Below.drew | with_reducible apply below_drewN | (with_reducible refine Below.alloc ?_ (by first | omega | (simp <;> omega)) _) | (with_reducible refine Below.setCell ?_ (by first | omega | (simp <;> omega)) _)))); rintro e w2 ⟨rfl, hbw2⟩; have hs2 := hbw2.size))
    go_ret
    exact ⟨rfl, (by repeat (first | with_reducible exact Below.refl _ _ | with_reducible assumption | (with_reducible refine Below.trans ?_ (Below.mono (by assumption) (by first | omega | (simp <;> omega)))) | with_reducible apply Below.drew | with_reducible apply below_drewN | (with_reducible refine Below.alloc ?_ (by first | omega | (simp <;> omega)) _) | (with_reducible refine Below.setCell ?_ (by first | omega | (simp <;> omega)) _)))⟩

set_option maxRecDepth 100000 in
set_option maxHeartbeats 1600000 in
theorem iAreSameMap_any (A : Option Addr) (n c b1 : Nat) (ps : List Pt) (B : Option Addr) (m d b2 : Nat) (qs : List Pt) (w : World) (ha : w.ownsRow b1 43 4 (.slice A n c) n (ptcs ps)) (hn : n ≤ 1048576) (hb : w.ownsRow b2 43 4 (.slice B m d) m (ptcs qs)) (hm : m ≤ 1048576) :
    Calls Try.prog 10 #[.slice A n c, .slice B m d] w fun e w' => e = .returned (.tuple #[.bool ((smO2 ps qs).getD false), .bool (smO2 ps qs).isSome]) ∧ Below w.heap.size w w' := by
  have hm1 := fun W hW => isMap_any A n c b1 ps W hW hn
  have hm2 := fun W hW => isMap_any B m d b2 qs W hW hm
  cases h1 : mapB ps with
  | false =>
    rw [smO2_no (.inl h1)]
    rw [h1] at hm1
    have HM1 := hide hm1; have HM2 := hide hm2; clear hm1 hm2
    have HA := hide ha; have HB := hide hb; clear ha hb h1
    go_enter Try.func10, Try.ntmps10
    go_wp2_with (first
          | (go_at_call 26; (with_reducible refine ((unhide HM1) _ (own_below (unhide HA) ?pb)).mono ?_); (case pb => exact (by repeat (first | with_reducible exact Below.refl _ _ | with_reducible assumption | (with_reducible refine Below.trans ?_ (Below.mono (by assumption) (by first | omega | (simp <;> omega)))) | with_reducible apply Below.drew | with_reducible apply below_drewN | (with_reducible refine Below.alloc ?_ (by first | omega | (simp <;> omega)) _) | (with_reducible refine Below.setCell ?_ (by first | omega | (simp <;> omega)) _)))); rintro e w1 ⟨rfl, hbw1⟩; have hs1 := hbw1.size)
          | (go_at_call 26; (with_reducible refine ((unhide HM2) _ (own_below (unhide HB) ?pb)).mono ?_); (case pb => exact (by repeat (first | with_reducible exact Below.refl _ _ | with_reducible assumption | (with_reducible refine Below.trans ?_ (Below.mono (by assumption) (by first | omega | (simp <;> omega)))) | with_reducible apply Below.drew | with_reducible apply below_drewN | (with_reducible refine Below.alloc ?_ (by first | omega | (simp <;> omega)) _) | (with_reducible refine Below.setCell ?_ (by first | omega | (simp <;> omega)) _)))); rintro e w2 ⟨rfl, hbw2⟩; have hs2 := hbw2.size))
    go_ret2
    exact ⟨rfl, (by repeat (first | with_reducible exact Below.refl _ _ | with_reducible assumption | (with_reducible refine Below.trans ?_ (Below.mono (by assumption) (by first | omega | (simp <;> omega)))) | with_reducible apply Below.drew | with_reducible apply below_drewN | (with_reducible refine Below.alloc ?_ (by first | omega | (simp <;> omega)) _) | (with_reducible refine Below.setCell ?_ (by first | omega | (simp <;> omega)) _)))⟩
  | true =>
    cases h2 : mapB qs with
    | false =>
      rw [smO2_no (.inr h2)]
      rw [h1] at hm1
      rw [h2] at hm2
      have HM1 := hide hm1; have HM2 := hide hm2; clear hm1 hm2
      have HA := hide ha; have HB := hide hb; clear ha hb h1 h2
      go_enter Try.func10, Try.ntmps10
      go_wp2_with (first
          | (go_at_call 26; (with_reducible refine ((unhide HM1) _ (own_below (unhide HA) ?pb)).mono ?_); (case pb => exact (by repeat (first | with_reducible exact Below.refl _ _ | with_reducible assumption | (with_reducible refine Below.trans ?_ (Below.mono (by assumption) (by first | omega | (simp <;> omega)))) | with_reducible apply Below.drew | with_reducible apply below_drewN | (with_reducible refine Below.alloc ?_ (by first | omega | (simp <;> omega)) _) | (with_reducible refine Below.setCell ?_ (by first | omega | (simp <;> omega)) _)))); rintro e w1 ⟨rfl, hbw1⟩; have hs1 := hbw1.size)
          | (go_at_call 26; (with_reducible refine ((unhide HM2) _ (own_below (unhide HB) ?pb)).mono ?_); (case pb => exact (by repeat (first | with_reducible exact Below.refl _ _ | with_reducible assumption | (with_reducible refine Below.trans ?_ (Below.mono (by assumption) (by first | omega | (simp <;> omega)))) | with_reducible apply Below.drew | with_reducible apply below_drewN | (with_reducible refine Below.alloc ?_ (by first | omega | (simp <;> omega)) _) | (with_reducible refine Below.setCell ?_ (by first | omega | (simp <;> omega)) _)))); rintro e w2 ⟨rfl, hbw2⟩; have hs2 := hbw2.size))
      go_ret2
      exact ⟨rfl, (by repeat (first | with_reducible exact Below.refl _ _ | with_reducible assumption | (with_reducible refine Below.trans ?_ (Below.mono (by assumption) (by first | omega | (simp <;> omega)))) | with_reducible apply Below.drew | with_reducible apply below_drewN | (with_reducible refine Below.alloc ?_ (by first | omega | (simp <;> omega)) _) | (with_reducible refine Below.setCell ?_ (by first | omega | (simp <;> omega)) _)))⟩
    | true =>
      rw [h1] at hm1
      rw [h2] at hm2
      have HM1 := hide hm1; have HM2 := hide hm2; clear hm1 hm2
      obtain ⟨g, m1, xs, rfl, rfl, rfl, hgx, hlx⟩ := own_form ha h1
      obtain ⟨g', m2, ys, rfl, rfl, rfl, hgy, hly⟩ := own_form hb h2
      have hs1 := fun W hW => iSimple_map g m1 c b1 xs W hW hgx.s
      have hs2 := fun W hW => iSimple_map g' m2 d b2 ys W hW hgy.s
      have e : smO2 (xs.map qp) (ys.map qp) = some (decide ((simK xs (m1 + 1) (m1 + 1)).map qp = (simK ys (m2 + 1) (m2 + 1)).map qp)) := by
        unfold smO2
        rw [h1, h2, simF_map hgx, simF_map hgy, hlx, hly]
        rfl
      rw [e]
      have k1 := simK_len xs (m1 + 1) (m1 + 1)
      have k2 := simK_len ys (m2 + 1) (m2 + 1)
      have x1 := hgx.hi
      have x2 := hgy.hi
      rw [hlx] at x1
      rw [hly] at x2
      have HS1 := hide hs1; have HS2 := hide hs2
      have HA := hide ha; have HB := hide hb; clear ha hb h1 h2 hs1 hs2 e hgx hgy hlx hly
      generalize simK xs (m1 + 1) (m1 + 1) = r1 at *
      generalize simK ys (m2 + 1) (m2 + 1) = r2 at *
      simp only [Option.getD_some, Option.isSome_some]
      go_enter Try.func10, Try.ntmps10
      go_wp2_with (first
          | (go_at_call 26; (with_reducible refine ((unhide HM1) _ (own_below (unhide HA) ?pb)).mono ?_); (case pb => exact (by repeat (first | with_reducible exact Below.refl _ _ | with_reducible assumption | (with_reducible refine Below.trans ?_ (Below.mono (by assumption) (by first | omega | (simp <;> omega)))) | with_reducible apply Below.drew | with_reducible apply below_drewN | (with_reducible refine Below.alloc ?_ (by first | omega | (simp <;> omega)) _) | (with_reducible refine Below.setCell ?_ (by first | omega | (simp <;> omega)) _)))); rintro e w1 ⟨rfl, hbw1⟩; have hs1 := hbw1.size)
          | (go_at_call 26; (with_reducible refine ((unhide HM2) _ (own_below (unhide HB) ?pb)).mono ?_); (case pb => exact (by repeat (first | with_reducible exact Below.refl _ _ | with_reducible assumption | (with_reducible refine Below.trans ?_ (Below.mono (by assumption) (by first | omega | (simp <;> omega)))) | with_reducible apply Below.drew | with_reducible apply below_drewN | (with_reducible refine Below.alloc ?_ (by first | omega | (simp <;> omega)) _) | (with_reducible refine Below.setCell ?_ (by first | omega | (simp <;> omega)) _)))); rintro e w2 ⟨rfl, hbw2⟩; have hs2 := hbw2.size)
          | (go_at_call 28; (with_reducible refine ((unhide HS1) _ (own_below (unhide HA) ?pb)).mono ?_); (case pb => exact (by repeat (first | with_reducible exact Below.refl _ _ | with_reducible assumption | (with_reducible refine Below.trans ?_ (Below.mono (by assumption) (by first | omega | (simp <;> omega)))) | with_reducible apply Below.drew | with_reducible apply below_drewN | (with_reducible refine Below.alloc ?_ (by first | omega | (simp <;> omega)) _) | (with_reducible refine Below.setCell ?_ (by first | omega | (simp <;> omega)) _)))); rintro e w3 ⟨v3, rfl, ho3, hbw3⟩; obtain ⟨A3, d3, rfl⟩ := own_slice ho3; have hs3 := hbw3.size; have HO3 := hide ho3; clear ho3)
          | (go_at_call 28; (with_reducible refine ((unhide HS2) _ (own_below (unhide HB) ?pb)).mono ?_); (case pb => exact (by repeat (first | with_reducible exact Below.refl _ _ | with_reducible assumption | (with_reducible refine Below.trans ?_ (Below.mono (by assumption) (by first | omega | (simp <;> omega)))) | with_reducible apply Below.drew | with_reducible apply below_drewN | (with_reducible refine Below.alloc ?_ (by first | omega | (simp <;> omega)) _) | (with_reducible refine Below.setCell ?_ (by first | omega | (simp <;> omega)) _)))); rintro e w4 ⟨v4, rfl, ho4, hbw4⟩; obtain ⟨A4, d4, rfl⟩ := own_slice ho4; have hs4 := hbw4.size; have HO4 := hide ho4; clear ho4)
          | (go_at_call 27; (with_reducible refine (slEqual_any A3 A4 r1.length r2.length d3 d4 _ _ (r1.map qp) (r2.map qp) _ (own_below (unhide HO3) ?pb) (unhide HO4) ?q1 ?q2).mono ?_); (case pb => exact (by repeat (first | with_reducible exact Below.refl _ _ | with_reducible assumption | (with_reducible refine Below.trans ?_ (Below.mono (by assumption) (by first | omega | (simp <;> omega)))) | with_reducible apply Below.drew | with_reducible apply below_drewN | (with_reducible refine Below.alloc ?_ (by first | omega | (simp <;> omega)) _) | (with_reducible refine Below.setCell ?_ (by first | omega | (simp <;> omega)) _)))); (case q1 => omega); (case q2 => omega); rintro e w5 ⟨rfl, hbw5⟩))
      go_ret2
      exact ⟨rfl, (by repeat (first | with_reducible exact Below.refl _ _ | with_reducible assumption | (with_reducible refine Below.trans ?_ (Below.mono (by assumption) (by first | omega | (simp <;> omega)))) | with_reducible apply Below.drew | with_reducible apply below_drewN | (with_reducible refine Below.alloc ?_ (by first | omega | (simp <;> omega)) _) | (with_reducible refine Below.setCell ?_ (by first | omega | (simp <;> omega)) _)))⟩

set_option maxRecDepth 100000 in
set_option maxHeartbeats 1600000 in
theorem sAreSameMap_any (A : Option Addr) (n c b1 : Nat) (ps : List Pt) (B : Option Addr) (m d b2 : Nat) (qs : List Pt) (w : World) (ha : w.ownsRow b1 43 4 (.slice A n c) n (ptcs ps)) (hn : n ≤ 1048576) (hb : w.ownsRow b2 43 4 (.slice B m d) m (ptcs qs)) (hm : m ≤ 1048576) :
    Calls Try.prog 8 #[.slice A n c, .slice B m d] w fun e w' => e = .returned (.tuple #[.bool ((smO2 ps qs).getD false), .bool (smO2 ps qs).isSome]) ∧ Below w.heap.size w w' := by
  have ht := fun W hW hV => coTwo_any A B n m c d b1 b2 ps qs W hW hV hn hm
  cases h1 : mapB ps with
  | false =>
    rw [smO2_no (.inl h1)]
    rw [h1] at ht
    have HT := hide ht; clear ht
    have HA := hide ha; have HB := hide hb; clear ha hb h1
    go_enter Try.func8, Try.ntmps8
    go_wp2_with (first
          | (go_at_call 22; (with_reducible refine ((unhide HT) _ (own_below (unhide HA) ?p1) (own_below (unhide HB) ?p2)).mono ?_); (case p1 => exact (by repeat (first | with_reducible exact Below.refl _ _ | with_reducible assumption | (with_reducible refine Below.trans ?_ (Below.mono (by assumption) (by first | omega | (simp <;> omega)))) | with_reducible apply Below.drew | with_reducible apply below_drewN | (with_reducible refine Below.alloc ?_ (by first | omega | (simp <;> omega)) _) | (with_reducible refine Below.setCell ?_ (by first | omega | (simp <;> omega)) _)))); (case p2 => exact (by repeat (first | with_reducible exact Below.refl _ _ | with_reducible assumption | (with_reducible refine Below.trans ?_ (Below.mono (by assumption) (by first | omega | (simp <;> omega)))) | with_reducible apply Below.drew | with_reducible apply below_drewN | (with_reducible refine Below.alloc ?_ (by first | omega | (simp <;> omega)) _) | (with_reducible refine Below.setCell ?_ (by first | omega | (simp <;> omega)) _)))); rintro e w0 ⟨rfl, hbw0⟩; have hs0 := hbw0.size))
    go_ret2
    exact ⟨rfl, (by repeat (first | with_reducible exact Below.refl _ _ | with_reducible assumption | (with_reducible refine Below.trans ?_ (Below.mono (by assumption) (by first | omega | (simp <;> omega)))) | with_reducible apply Below.drew | with_reducible apply below_drewN | (with_reducible refine Below.alloc ?_ (by first | omega | (simp <;> omega)) _) | (with_reducible refine Below.setCell ?_ (by first | omega | (simp <;> omega)) _)))⟩
  | true =>
    cases h2 : mapB qs with
    | false =>
      rw [smO2_no (.inr h2)]
      rw [h1] at ht
      rw [h2] at ht
      have HT := hide ht; clear ht
      have HA := hide ha; have HB := hide hb; clear ha hb h1 h2
      go_enter Try.func8, Try.ntmps8
      go_wp2_with (first
          | (go_at_call 22; (with_reducible refine ((unhide HT) _ (own_below (unhide HA) ?p1) (own_below (unhide HB) ?p2)).mono ?_); (case p1 => exact (by repeat (first | with_reducible exact Below.refl _ _ | with_reducible assumption | (with_reducible refine Below.trans ?_ (Below.mono (by assumption) (by first | omega | (simp <;> omega)))) | with_reducible apply Below.drew | with_reducible apply below_drewN | (with_reducible refine Below.alloc ?_ (by first | omega | (simp <;> omega)) _) | (with_reducible refine Below.setCell ?_ (by first | omega | (simp <;> omega)) _)))); (case p2 => exact (by repeat (first | with_reducible exact Below.refl _ _ | with_reducible assumption | (with_reducible refine Below.trans ?_ (Below.mono (by assumption) (by first | omega | (simp <;> omega)))) | with_reducible apply Below.drew | with_reducible apply below_drewN | (with_reducible refine Below.alloc ?_ (by first | omega | (simp <;> omega)) _) | (with_reducible refine Below.setCell ?_ (by first | omega | (simp <;> omega)) _)))); rintro e w0 ⟨rfl, hbw0⟩; have hs0 := hbw0.size))
      go_ret2
      exact ⟨rfl, (by repeat (first | with_reducible exact Below.refl _ _ | with_reducible assumption | (with_reducible refine Below.trans ?_ (Below.mono (by assumption) (by first | omega | (simp <;> omega)))) | with_reducible apply Below.drew | with_reducible apply below_drewN | (with_reducible refine Below.alloc ?_ (by first | omega | (simp <;> omega)) _) | (with_reducible refine Below.setCell ?_ (by first | omega | (simp <;> omega)) _)))⟩
    | true =>
      rw [h1] at ht
      rw [h2] at ht
      have HT := hide ht; clear ht
      obtain ⟨g, m1, xs, rfl, rfl, rfl, hgx, hlx⟩ := own_form ha h1
      obtain ⟨g', m2, ys, rfl, rfl, rfl, hgy, hly⟩ := own_form hb h2
      have hs1 := fun W hW => imSimple_map g m1 c b1 xs W hW hgx.s
      have hs2 := fun W hW => imSimple_map g' m2 d b2 ys W hW hgy.s
      have e : smO2 (xs.map qp) (ys.map qp) = some (decide ((simK xs (m1 + 1) (m1 + 1)).map qp = (simK ys (m2 + 1) (m2 + 1)).map qp)) := by
        unfold smO2
        rw [h1, h2, simF_map hgx, simF_map hgy, hlx, hly]
        rfl
      rw [e]
      have k1 := simK_len xs (m1 + 1) (m1 + 1)
      have k2 := simK_len ys (m2 + 1) (m2 + 1)
      have x1 := hgx.hi
      have x2 := hgy.hi
      rw [hlx] at x1
      rw [hly] at x2
      have HS1 := hide hs1; have HS2 := hide hs2
      have HA := hide ha; have HB := hide hb; clear ha hb h1 h2 hs1 hs2 e hgx hgy hlx hly
      generalize simK xs (m1 + 1) (m1 + 1) = r1 at *
      generalize simK ys (m2 + 1) (m2 + 1) = r2 at *
      simp only [Option.getD_some, Option.isSome_some]
      go_enter Try.func8, Try.ntmps8
      go_wp2_with (first
          | (go_at_call 22; (with_reducible refine ((unhide HT) _ (own_below (unhide HA) ?p1) (own_below (unhide HB) ?p2)).mono ?_); (case p1 => exact (by repeat (first | with_reducible exact Below.refl _ _ | with_reducible assumption | (with_reducible refine Below.trans ?_ (Below.mono (by assumption) (by first | omega | (simp <;> omega)))) | with_reducible apply Below.drew | with_reducible apply below_drewN | (with_reducible refine Below.alloc ?_ (by first | omega | (simp <;> omega)) _) | (with_reducible refine Below.setCell ?_ (by first | omega | (simp <;> omega)) _)))); (case p2 => exact (by repeat (first | with_reducible exact Below.refl _ _ | with_reducible assumption | (with_reducible refine Below.trans ?_ (Below.mono (by assumption) (by first | omega | (simp <;> omega)))) | with_reducible apply Below.drew | with_reducible apply below_drewN | (with_reducible refine Below.alloc ?_ (by first | omega | (simp <;> omega)) _) | (with_reducible refine Below.setCell ?_ (by first | omega | (simp <;> omega)) _)))); rintro e w0 ⟨rfl, hbw0⟩; have hs0 := hbw0.size)
          | (go_at_call 24; (with_reducible refine ((unhide HS1) _ (own_below (unhide HA) ?pb)).mono ?_); (case pb => exact (by repeat (first | with_reducible exact Below.refl _ _ | with_reducible assumption | (with_reducible refine Below.trans ?_ (Below.mono (by assumption) (by first | omega | (simp <;> omega)))) | with_reducible apply Below.drew | with_reducible apply below_drewN | (with_reducible refine Below.alloc ?_ (by first | omega | (simp <;> omega)) _) | (with_reducible refine Below.setCell ?_ (by first | omega | (simp <;> omega)) _)))); rintro e w3 ⟨v3, rfl, ho3, hbw3⟩; obtain ⟨A3, d3, rfl⟩ := own_slice ho3; have hs3 := hbw3.size; have HO3 := hide ho3; clear ho3)
          | (go_at_call 24; (with_reducible refine ((unhide HS2) _ (own_below (unhide HB) ?pb)).mono ?_); (case pb => exact (by repeat (first | with_reducible exact Below.refl _ _ | with_reducible assumption | (with_reducible refine Below.trans ?_ (Below.mono (by assumption) (by first | omega | (simp <;> omega)))) | with_reducible apply Below.drew | with_reducible apply below_drewN | (with_reducible refine Below.alloc ?_ (by first | omega | (simp <;> omega)) _) | (with_reducible refine Below.setCell ?_ (by first | omega | (simp <;> omega)) _)))); rintro e w4 ⟨v4, rfl, ho4, hbw4⟩; obtain ⟨A4, d4, rfl⟩ := own_slice ho4; have hs4 := hbw4.size; have HO4 := hide ho4; clear ho4)
          | (go_at_call 23; (with_reducible refine (coEqual_any A3 A4 r1.length r2.length d3 d4 _ _ (r1.map qp) (r2.map qp) _ (own_below (unhide HO3) ?pb) (unhide HO4) ?q1 ?q2).mono ?_); (case pb => exact (by repeat (first | with_reducible exact Below.refl _ _ | with_reducible assumption | (with_reducible refine Below.trans ?_ (Below.mono (by assumption) (by first | omega | (simp <;> omega)))) | with_reducible apply Below.drew | with_reducible apply below_drewN | (with_reducible refine Below.alloc ?_ (by first | omega | (simp <;> omega)) _) | (with_reducible refine Below.setCell ?_ (by first | omega | (simp <;> omega)) _)))); (case q1 => omega); (case q2 => omega); rintro e w5 ⟨rfl, hbw5⟩))
      go_ret2
      exact ⟨rfl, (by repeat (first | with_reducible exact Below.refl _ _ | with_reducible assumption | (with_reducible refine Below.trans ?_ (Below.mono (by assumption) (by first | omega | (simp <;> omega)))) | with_reducible apply Below.drew | with_reducible apply below_drewN | (with_reducible refine Below.alloc ?_ (by first | omega | (simp <;> omega)) _) | (with_reducible refine Below.setCell ?_ (by first | omega | (simp <;> omega)) _)))⟩
end Go.Proofs.Ytgkbogcmmedmbaa

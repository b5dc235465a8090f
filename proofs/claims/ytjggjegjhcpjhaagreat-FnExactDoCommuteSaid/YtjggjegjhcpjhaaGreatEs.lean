/-
  Chapter 5: AreSameMap of program and model.
-/
import Derived.Test.YtjggjegjhcpjhaaGreatCe
import Derived.Test.YtjggjegjhcpjhaaGreatSima
namespace Go.Proofs.YtjggjegjhcpjhaaGreat
open Go.RowKit Rm

/-- Are two maps the same? None if one of the lists is no map. -/
def smO2 (ps qs : List Pt) : Option Bool := if mapB ps && mapB qs then some (decide (simF ps = simF qs)) else none
theorem smO2_no {ps qs : List Pt} (h : mapB ps = false ∨ mapB qs = false) : smO2 ps qs = none := by
  unfold smO2
  rw [if_neg]
  rcases h with h | h <;> simp [h]


set_option maxRecDepth 100000 in
theorem coTwo_any (A B : Option Addr) (n m c d b1 b2 : Nat) (ps qs : List Pt) (w : World) (ha : w.ownsRow b1 63 4 (.slice A n c) n (ptcs ps)) (hb : w.ownsRow b2 63 4 (.slice B m d) m (ptcs qs)) (hn : n ≤ 1048576) (hm : m ≤ 1048576) :
    Calls Tryz.prog 40 #[.slice A n c, .slice B m d] w fun e w' => e = .returned (.bool (mapB ps && mapB qs)) ∧ Below w.heap.size w w' := by
  have hm1 := fun W hW => imGood_any A n c b1 ps W hW hn
  have hm2 := fun W hW => imGood_any B m d b2 qs W hW hm
  have HA := hide ha; have HB := hide hb; clear ha hb
  cases h1 : mapB ps with
  | false =>
    rw [h1] at hm1
    have HM1 := hide hm1; have HM2 := hide hm2; clear hm1 hm2 h1
    go_enter Tryz.func40, Tryz.ntmps40
    go_wp2_with (go_at_call 46; (with_reducible refine ((unhide HM1) _ (own_below (unhide HA) ?pb)).mono ?_); (case pb => exact (by repeat (first | with_reducible exact Below.refl _ _ | with_reducible assumption | (with_reducible refine Below.trans ?_ (Below.mono (by assumption) (by first | omega | (simp <;> omega)))) | with_reducible apply Below.drew | with_reducible apply below_drewN | (with_reducible refine Below.alloc ?_ (by first | omega | (simp <;> omega)) _) | (with_reducible refine Below.setCell ?_ (by first | omega | (simp <;> omega)) _)))); rintro e w1 ⟨rfl, hbw1⟩; have hs1 := hbw1.size)
    go_ret
    exact ⟨by simp, (by repeat (first | with_reducible exact Below.refl _ _ | with_reducible assumption | (with_reducible refine Below.trans ?_ (Below.mono (by assumption) (by first | omega | (simp <;> omega)))) | with_reducible apply Below.drew | with_reducible apply below_drewN | (with_reducible refine Below.alloc ?_ (by first | omega | (simp <;> omega)) _) | (with_reducible refine Below.setCell ?_ (by first | omega | (simp <;> omega)) _)))⟩
  | true =>
    rw [h1] at hm1
    have HM1 := hide hm1; have HM2 := hide hm2; clear hm1 hm2 h1
    rw [Bool.true_and]
    generalize mapB qs = z at *
    go_enter Tryz.func40, Tryz.ntmps40
    go_wp2_with (first
      | (go_at_call 46; (with_reducible refine ((unhide HM1) _ (own_below (unhide HA) ?pb)).mono ?_); (case pb => exact (by repeat (first | with_reducible exact Below.refl _ _ | with_reducible assumption | (with_reducible refine Below.trans ?_ (Below.mono (by assumption) (by first | omega | (simp <;> omega)))) | with_reducible apply Below.drew | with_reducible apply below_drewN | (with_reducible refine Below.alloc ?_ (by first | omega | (simp <;> omega)) _) | (with_reducible refine Below.setCell ?_ (by first | omega | (simp <;> omega)) _)))); rintro e w1 ⟨rfl, hbw1⟩; have hs1 := hbw1.size)
      | (go_at_call 46; (with_reducible refine ((unhide HM2) _ (own_below (unhide HB) ?pb)).mono ?_); (case pb => exact (by repeat (first | with_reducible exact Below.refl _ _ | with_reducible assumption | (with_reducible refine Below.trans ?_ (Below.mono (by assumption) (by first | omega | (simp <;> omega)))) | with_reducible apply Below.drew | with_reducible apply below_drewN | (with_reducible refine Below.alloc ?_ (by first | omega | (simp <;> omega)) _) | (with_reducible refine Below.setCell ?_ (by first | omega | (simp <;> omega)) _)))); rintro e w2 ⟨rfl, hbw2⟩; have hs2 := hbw2.size))
    go_ret
    exact ⟨rfl, (by repeat (first | with_reducible exact Below.refl _ _ | with_reducible assumption | (with_reducible refine Below.trans ?_ (Below.mono (by assumption) (by first | omega | (simp <;> omega)))) | with_reducible apply Below.drew | with_reducible apply below_drewN | (with_reducible refine Below.alloc ?_ (by first | omega | (simp <;> omega)) _) | (with_reducible refine Below.setCell ?_ (by first | omega | (simp <;> omega)) _)))⟩

end Go.Proofs.YtjggjegjhcpjhaaGreat

/-
  Chapter 6: the law of IsLapMap.
-/
import Derived.Test.YtjggjegjhcpjhaaWb
namespace Go.Proofs.Ytjggjegjhcpjhaa
open Go.RowKit Rm

set_option maxRecDepth 100000 in
set_option maxHeartbeats 800000 in
theorem lawIsLapMap (A : Option Addr) (n c : Nat) (ps : List Pt) (w : World) (ha : ArgP w A n ps) (hn : n ≤ maxLen) :
    Calls Try.prog 3 #[.slice A n c] w fun e w' => e = .returned (.bool true) ∧ Below w.heap.size w w' := by
  have hsz := szPointS_any A n c hn w
  by_cases hs : n ≤ 1048576
  · rw [if_pos hs] at hsz
    have HSZ := hide hsz; clear hsz
    have HA := hide ha; clear ha
    rcases hm : lmB ps with _ | _
    all_goals
      have HM := Lib.hid hm; clear hm
      go_enter Try.func3, Try.ntmps3
      go_wp2_with fail
      refine (unhide HSZ).mono ?_
      rintro e w' ⟨rfl, rfl⟩
      go_wp2_with fail
      refine (toPointS_any A n c ps w (unhide HA) hs).mono ?_
      rintro e w1 ⟨g1, rfl, ho1, hb1⟩
      have HO1 := hide ho1; clear ho1
      go_wp2_with fail
      refine (sIsLapMap_any _ n n _ ps w1 (unhide HO1) hs).mono ?_
      rintro e w2 ⟨he, hb2⟩
      rw [HM.out] at he
      subst he
      have HA2 := hide ((unhide HA).below (hb1.trans (hb2.mono hb1.size)))
      go_wp2_with fail
      refine (toPointS_any A n c ps w2 (unhide HA2) hs).mono ?_
      rintro e w3 ⟨g3, rfl, ho3, hb3⟩
      have HO3 := hide ho3; clear ho3
      go_wp2_with fail
      refine (iIsLapMap_any _ n n _ ps w3 (unhide HO3) hs).mono ?_
      rintro e w4 ⟨he, hb4⟩
      rw [HM.out] at he
      subst he
      have HA4 := hide ((unhide HA2).below (hb3.trans (hb4.mono hb3.size)))
      go_wp2_with fail
      refine (toPointS_any A n c ps w4 (unhide HA4) hs).mono ?_
      rintro e w5 ⟨g5, rfl, ho5, hb5⟩
      have HO5 := hide ho5; clear ho5
      have HO3' := hide (own_below (unhide HO3) (hb4.trans (hb5.mono hb4.size)))
      go_wp2_with fail
      refine (eqPointS_same _ _ n n n _ _ ps w5 (unhide HO3') (unhide HO5) hs).mono ?_
      rintro e w6 ⟨rfl, hb6⟩
      have hz1 := hb1.size
      have hz2 := hb2.size
      have hz3 := hb3.size
      have hz4 := hb4.size
      have hz5 := hb5.size
      go_wp2_with fail
      go_ret
      exact ⟨rfl, (by repeat (first | with_reducible exact Below.refl _ _ | with_reducible assumption | (with_reducible refine Below.trans ?_ (Below.mono (by assumption) (by first | omega | (simp <;> omega)))) | with_reducible apply Below.drew | with_reducible apply below_drewN | (with_reducible refine Below.alloc ?_ (by first | omega | (simp <;> omega)) _) | (with_reducible refine Below.setCell ?_ (by first | omega | (simp <;> omega)) _)))⟩
  · rw [if_neg hs] at hsz
    have HSZ := hide hsz; clear hsz ha
    go_enter Try.func3, Try.ntmps3
    go_wp2_with (go_at_call 15; (with_reducible refine (unhide HSZ).mono ?_); rintro e w' ⟨rfl, rfl⟩)
    go_ret
    exact ⟨rfl, (by repeat (first | with_reducible exact Below.refl _ _ | with_reducible assumption | (with_reducible refine Below.trans ?_ (Below.mono (by assumption) (by first | omega | (simp <;> omega)))) | with_reducible apply Below.drew | with_reducible apply below_drewN | (with_reducible refine Below.alloc ?_ (by first | omega | (simp <;> omega)) _) | (with_reducible refine Below.setCell ?_ (by first | omega | (simp <;> omega)) _)))⟩
end Go.Proofs.Ytjggjegjhcpjhaa

/-
  Chapter 4: the law of IsCycle.
-/
import Derived.Test.YtmkejopkmdcfeaaJe
import Derived.Test.YtmkejopkmdcfeaaRr
namespace Go.Proofs.Ytmkejopkmdcfeaa
open Go.RowKit Rm

set_option maxRecDepth 100000 in
set_option maxHeartbeats 1600000 in
theorem lawIsCycle (A : Option Addr) (n c : Nat) (ps : List Pt) (B : Option Addr) (n1 c1 : Nat) (xs : List Fr) (w : World) (ha : ArgP w A n ps) (hn : n ≤ maxLen) (hx : ArgR w B n1 xs) (hn1 : n1 ≤ maxLen) :
    Calls Try.prog 14 #[.slice A n c, .slice B n1 c1] w fun e w' => e = .returned (.bool true) ∧ Below w.heap.size w w' := by
  have hsz := fun W => szPointS_any A n c hn W
  by_cases hs : n ≤ 1048576
  · rw [if_pos hs] at hsz
    have hsr := fun W => szRatS_any B n1 c1 (1048576 - (n : Int)) hn1 (by omega) (by omega) W
    by_cases hs1 : (n1 : Int) ≤ 1048576 - (n : Int)
    · rw [if_pos hs1] at hsr
      have hs2 : n1 ≤ 1048576 := by omega
      have hk0 : decide (1048576 - (n : Int) < 0) = false := decide_eq_false (by omega)
      have hk1 : decide (1048576 - (n : Int) - (n1 : Int) < 0) = false := decide_eq_false (by omega)
      have HSZ := hide hsz; have HSR := hide hsr; clear hsz hsr
      have HA := hide ha; have HX := hide hx; clear ha hx
      have hsv := fun (W : World) (g base g1 base1 : Nat) hW hV => sIsCycle_any (some ⟨g, 0, none⟩) (some ⟨g1, 0, none⟩) n n base n1 n1 base1 ps xs W hW hV hs hs2
      have hiv := fun (W : World) (g base g1 base1 : Nat) hW hV => iIsCycle_any (some ⟨g, 0, none⟩) (some ⟨g1, 0, none⟩) n n base n1 n1 base1 ps xs W hW hV hs hs2
      generalize (icO ps xs n1).getD false = z1 at *
      generalize (icO ps xs n1).isSome = z2 at *
      have HSV := hide hsv; have HIV := hide hiv; clear hsv hiv
      cases z1 <;> cases z2
      all_goals
        go_enter Try.func14, Try.ntmps14
        go_wp2_with fail
        refine ((unhide HSZ) _).mono ?_
        rintro e w' ⟨rfl, rfl⟩
        go_wp2_with fail
        refine ((unhide HSR) _).mono ?_
        rintro e w' ⟨rfl, rfl⟩
        go_wp2_with fail
        refine (toPointS_any A n c ps w (unhide HA) hs).mono ?_
        rintro e w1 ⟨g1, rfl, ho1, hb1⟩
        have hz1 := hb1.size
        have HO1 := hide ho1
        have HX1 := hide ((unhide HX).below hb1)
        clear ho1
        go_wp2_with fail
        refine (toRatS_any B n1 c1 xs w1 (unhide HX1) hs2).mono ?_
        rintro e w2 ⟨g2, rfl, ho2, hb2⟩
        have hz2 := hb2.size
        have HO2 := hide ho2
        have HO12 := hide (own_below (unhide HO1) hb2)
        clear ho2
        go_wp2_with fail
        refine ((unhide HSV) w2 g1 _ g2 _ (unhide HO12) (unhide HO2)).mono ?_
        rintro e w3 ⟨rfl, hb3⟩
        have hz3 := hb3.size
        have hw3 : Below w.heap.size w w3 := (hb1.trans (hb2.mono hb1.size)).trans (hb3.mono (by omega))
        have HW3 := hide hw3
        have HA3 := hide ((unhide HA).below hw3)
        clear hb1 hb2 hb3 hw3
        go_wp2_with fail
        refine (toPointS_any A n c ps w3 (unhide HA3) hs).mono ?_
        rintro e w4 ⟨g4, rfl, ho4, hb4⟩
        have hz4 := hb4.size
        have HO4 := hide ho4
        have hw4 : Below w.heap.size w w4 := (unhide HW3).trans (hb4.mono (unhide HW3).size)
        have HW4 := hide hw4
        have HX4 := hide ((unhide HX).below hw4)
        clear ho4 hb4 hw4
        go_wp2_with fail
        refine (toRatS_any B n1 c1 xs w4 (unhide HX4) hs2).mono ?_
        rintro e w5 ⟨g5, rfl, ho5, hb5⟩
        have hz5 := hb5.size
        have HO5 := hide ho5
        have HO45 := hide (own_below (unhide HO4) hb5)
        have HW5 := hide ((unhide HW4).trans (hb5.mono (unhide HW4).size))
        clear ho5 hb5
        go_wp2_with fail
        refine ((unhide HIV) w5 g4 _ g5 _ (unhide HO45) (unhide HO5)).mono ?_
        rintro e w6 ⟨rfl, hb6⟩
        have hz6 := hb6.size
        have HO46 := hide (own_below (unhide HO45) hb6)
        have HO56 := hide (own_below (unhide HO5) hb6)
        have hw6 : Below w.heap.size w w6 := (unhide HW5).trans (hb6.mono (unhide HW5).size)
        have HW6 := hide hw6
        have HA6 := hide ((unhide HA).below hw6)
        clear hb6 hw6
        go_wp2_with fail
        refine (toPointS_any A n c ps w6 (unhide HA6) hs).mono ?_
        rintro e w7 ⟨g7, rfl, ho7, hb7⟩
        have hz7 := hb7.size
        have HO7 := hide ho7
        have HO47 := hide (own_below (unhide HO46) hb7)
        have HO57 := hide (own_below (unhide HO56) hb7)
        have HW7 := hide ((unhide HW6).trans (hb7.mono (unhide HW6).size))
        clear ho7 hb7
        go_wp2_with fail
        refine (eqPointS_same _ _ n n n _ _ ps w7 (unhide HO47) (unhide HO7) hs).mono ?_
        rintro e w8 ⟨rfl, hb8⟩
        have hz8 := hb8.size
        have HO58 := hide (own_below (unhide HO57) hb8)
        have hw8 : Below w.heap.size w w8 := (unhide HW7).trans (hb8.mono (unhide HW7).size)
        have HW8 := hide hw8
        have HX8 := hide ((unhide HX).below hw8)
        clear hb8 hw8
        go_wp2_with fail
        refine (toRatS_any B n1 c1 xs w8 (unhide HX8) hs2).mono ?_
        rintro e w9 ⟨g9, rfl, ho9, hb9⟩
        have hz9 := hb9.size
        have HO9 := hide ho9
        have HO59 := hide (own_below (unhide HO58) hb9)
        have HW9 := hide ((unhide HW8).trans (hb9.mono (unhide HW8).size))
        clear ho9 hb9
        go_wp2_with fail
        refine (eqRatS_same _ _ n1 n1 n1 _ _ xs w9 (unhide HO59) (unhide HO9) hs2).mono ?_
        rintro e w10 ⟨rfl, hb10⟩
        have hw10 : Below w.heap.size w w10 := (unhide HW9).trans (hb10.mono (unhide HW9).size)
        go_wp2_with fail
        go_ret
        exact ⟨rfl, hw10⟩
    · rw [if_neg hs1] at hsr
      have hk0 : decide (1048576 - (n : Int) < 0) = false := decide_eq_false (by omega)
      have HSZ := hide hsz; have HSR := hide hsr; clear hsz hsr ha hx
      go_enter Try.func14, Try.ntmps14
      go_wp2_with fail
      refine ((unhide HSZ) _).mono ?_
      rintro e w' ⟨rfl, rfl⟩
      go_wp2_with fail
      refine ((unhide HSR) _).mono ?_
      rintro e w' ⟨rfl, rfl⟩
      go_wp2_with fail
      go_ret
      exact ⟨rfl, Below.refl _ _⟩
  · rw [if_neg hs] at hsz
    have HSZ := hide hsz; clear hsz ha hx
    go_enter Try.func14, Try.ntmps14
    go_wp2_with (go_at_call 15; (with_reducible refine ((unhide HSZ) _).mono ?_); rintro e w' ⟨rfl, rfl⟩)
    go_ret
    exact ⟨rfl, (by repeat (first | with_reducible exact Below.refl _ _ | with_reducible assumption | (with_reducible refine Below.trans ?_ (Below.mono (by assumption) (by first | omega | (simp <;> omega)))) | with_reducible apply Below.drew | with_reducible apply below_drewN | (with_reducible refine Below.alloc ?_ (by first | omega | (simp <;> omega)) _) | (with_reducible refine Below.setCell ?_ (by first | omega | (simp <;> omega)) _)))⟩
end Go.Proofs.Ytmkejopkmdcfeaa

/-
  Chapter 6: the law of WordText.
-/
import Derived.Test.YtjggjegjhcpjhaaWu
import Derived.Test.YtjggjegjhcpjhaaNl
namespace Go.Proofs.Ytjggjegjhcpjhaa
open Go.RowKit Rm

set_option maxRecDepth 100000 in
set_option maxHeartbeats 1600000 in
theorem lawWordText (A : Option Addr) (n c : Nat) (r : List Int) (w : World) (ha : ArgI w A n r) (_hn : n ≤ maxLen) :
    Calls Try.prog 12 #[.slice A n c] w fun e w' => e = .returned (.bool true) ∧ Below w.heap.size w w' := by
  by_cases hs : n ≤ 1048576
  · have hl1 : decide ((n : Int) > 1048576) = false := decide_eq_false (by omega)
    have HA := hide ha; clear ha
    have hsv := fun (W : World) (g base : Nat) hW => sWordText_any g n n base r W hW hs
    have hiv := fun (W : World) (g base : Nat) hW => iWordText_any g n n base r W hW hs
    generalize wtT r = xs at *
    generalize wtZ r = z at *
    have HSV := hide hsv; have HIV := hide hiv; clear hsv hiv
    cases z
    all_goals
      go_enter Try.func12, Try.ntmps12
      go_wp2_with fail
      refine (toIntS_any A n c r w (unhide HA) hs).mono ?_
      rintro e w1 ⟨g1, rfl, ho1, hb1⟩
      have hz1 := hb1.size
      have HO1 := hide ho1; clear ho1
      go_wp2_with fail
      refine ((unhide HSV) w1 g1 _ (unhide HO1)).mono ?_
      rintro e w2 ⟨rfl, hb2⟩
      have hz2 := hb2.size
      have hw2 := hb1.trans (hb2.mono hb1.size)
      have HW2 := hide hw2
      have HA2 := hide ((unhide HA).below hw2)
      clear hb1 hb2 hw2
      go_wp2_with fail
      refine (toIntS_any A n c r w2 (unhide HA2) hs).mono ?_
      rintro e w3 ⟨g3, rfl, ho3, hb3⟩
      have hz3 := hb3.size
      have HO3 := hide ho3; clear ho3
      have HW3 := hide ((unhide HW2).trans (hb3.mono (unhide HW2).size))
      clear hb3
      go_wp2_with fail
      refine ((unhide HIV) w3 g3 _ (unhide HO3)).mono ?_
      rintro e w4 ⟨rfl, hb4⟩
      have hz4 := hb4.size
      have hw4 := (unhide HW3).trans (hb4.mono (unhide HW3).size)
      have HW4 := hide hw4
      have HO4 := hide (own_below (unhide HO3) hb4)
      have HA4 := hide ((unhide HA).below hw4)
      clear hw4 hb4
      go_wp2_with fail
      refine (toIntS_any A n c r w4 (unhide HA4) hs).mono ?_
      rintro e w5 ⟨g5, rfl, ho5, hb5⟩
      have hz5 := hb5.size
      have HO5 := hide ho5; clear ho5
      have HO45 := hide (own_below (unhide HO4) hb5)
      have HW5 := hide ((unhide HW4).trans (hb5.mono (unhide HW4).size))
      clear hb5
      go_wp2_with fail
      refine (eqIntS_same _ _ n n n _ _ r w5 (unhide HO45) (unhide HO5) hs).mono ?_
      rintro e w6 ⟨rfl, hb6⟩
      have hz6 := hb6.size
      have HW6 := hide ((unhide HW5).trans (hb6.mono (unhide HW5).size))
      clear hb6
      go_wp2_with fail
      go_ret
      exact ⟨rfl, unhide HW6⟩
  · have hl1 : decide ((n : Int) > 1048576) = true := decide_eq_true (by omega)
    clear ha
    go_enter Try.func12, Try.ntmps12
    go_wp2_with fail
    go_ret
    exact ⟨rfl, Below.refl _ _⟩
end Go.Proofs.Ytjggjegjhcpjhaa

/-
  Chapter 2: the laws of the functions that give a slice.
-/
import Derived.Test.YteannojgicpbnabRfa
namespace Go.Proofs.Yteannojgicpbnab
open Go.RowKit Rm


set_option maxRecDepth 100000 in
set_option maxHeartbeats 1600000 in
theorem lawReflectMap (A : Option Addr) (n c : Nat) (ps : List Pt) (w : World) (ha : ArgP w A n ps) (hn : n ≤ maxLen) :
    Calls Try.prog 5 #[.slice A n c] w fun e w' => e = .returned (.bool true) ∧ Below w.heap.size w w' := by
  have hsz := fun W => szPointS_any A n c hn W
  by_cases hs : n ≤ 1048576
  · rw [if_pos hs] at hsz
    have HSZ := hide hsz; clear hsz
    have HA := hide ha; clear ha
    have hsv := fun (W : World) (g base : Nat) hW => sReflectMap_any (some ⟨g, 0, none⟩) n n base ps W hW hs
    have hiv := fun (W : World) (g base : Nat) hW => iReflectMap_any (some ⟨g, 0, none⟩) n n base ps W hW hs
    have hxl := rmF_len ps
    generalize rmF ps = xs at *
    generalize mapB ps = z at *
    have HSV := hide hsv; have HIV := hide hiv; clear hsv hiv
    cases z
    all_goals
      go_enter Try.func5, Try.ntmps5
      go_wp2_with fail
      refine ((unhide HSZ) _).mono ?_
      rintro e w' ⟨rfl, rfl⟩
      go_wp2_with fail
      refine (toPointS_any A n c ps w (unhide HA) hs).mono ?_
      rintro e w1 ⟨g1, rfl, ho1, hb1⟩
      have hz1 := hb1.size
      have HO1 := hide ho1; clear ho1
      go_wp2_with fail
      refine ((unhide HSV) w1 g1 _ (unhide HO1)).mono ?_
      rintro e w2 ⟨⟨B1, d1, rfl, hoB1⟩, hb2⟩
      have hz2 := hb2.size
      have HB1 := hide hoB1; clear hoB1
      have hw2 := hb1.trans (hb2.mono hb1.size)
      have HW2 := hide hw2
      have HA2 := hide ((unhide HA).below hw2)
      clear hb1 hb2 hw2
      go_wp2_with fail
      refine (toPointS_any A n c ps w2 (unhide HA2) hs).mono ?_
      rintro e w3 ⟨g3, rfl, ho3, hb3⟩
      have hz3 := hb3.size
      have HO3 := hide ho3; clear ho3
      have HB3 := hide hb3; clear hb3
      go_wp2_with fail
      refine ((unhide HIV) w3 g3 _ (unhide HO3)).mono ?_
      rintro e w4 ⟨⟨B2, d2, rfl, hoB2⟩, hb4⟩
      have hz4 := hb4.size
      have HB2 := hide hoB2; clear hoB2
      have HB1' := hide (own_below (own_below (unhide HB1) (unhide HB3)) hb4)
      have hw4 := ((unhide HW2).trans ((unhide HB3).mono (unhide HW2).size)).trans (hb4.mono (by have := (unhide HW2).size; omega))
      have HW4 := hide hw4
      have HO3' := hide (own_below (unhide HO3) hb4)
      clear hw4 hb4
      go_wp2_with fail
      refine (eqPointS_same _ _ _ _ _ _ _ xs w4 (unhide HB2) (unhide HB1') hxl).mono ?_
      rintro e w5 ⟨rfl, hb5⟩
      have hz5 := hb5.size
      have HB2' := hide (own_below (unhide HB2) hb5)
      have HB1'' := hide (own_below (unhide HB1') hb5)
      have HO3'' := hide (own_below (unhide HO3') hb5)
      have hw5 := (unhide HW4).trans (hb5.mono (unhide HW4).size)
      have HW5 := hide hw5
      have HA5 := hide ((unhide HA).below hw5)
      clear hw5 hb5
      go_wp2_with fail
      refine (toPointS_any A n c ps w5 (unhide HA5) hs).mono ?_
      rintro e w6 ⟨g6, rfl, ho6, hb6⟩
      have hz6 := hb6.size
      have HO6 := hide ho6; clear ho6
      have HB6 := hide hb6; clear hb6
      go_wp2_with fail
      refine (eqPointS_same _ _ n n n _ _ ps w6 (own_below (unhide HO3'') (unhide HB6)) (unhide HO6) hs).mono ?_
      rintro e w7 ⟨rfl, hb7⟩
      have hz7 := hb7.size
      have hb57 := (unhide HB6).trans (hb7.mono (unhide HB6).size)
      have HB57 := hide hb57
      have HO37 := hide (own_below (unhide HO3'') hb57)
      have HB27 := hide (own_below (unhide HB2') hb57)
      have HB17 := hide (own_below (unhide HB1'') hb57)
      have HW7 := hide ((unhide HW5).trans (hb57.mono (unhide HW5).size))
      clear hb57 hb7
      go_wp2_with fail
      refine (markPointS_any _ n n _ _ w7 (unhide HO37) hs).mono ?_
      rintro e w8 ⟨rfl, _, hg8⟩
      have hl3 := (unhide HO3).lt g3 rfl
      have hB28 := own_kept (unhide HB27) hg8 (fun k hk e => by
        have e1 : k = g3 := Option.some.inj e
        have := (unhide HB2).lt k hk; omega)
      have hB18 := own_kept (unhide HB17) hg8 (fun k hk e => by
        have e1 : k = g3 := Option.some.inj e
        have := (unhide HB1).lt k hk; omega)
      have hw8 : Below w.heap.size w w8 := (unhide HW7).grown hg8 (unhide HW7).size (fun k e => by
        have e1 : g3 = k := Option.some.inj e
        have := (unhide HW2).size; omega)
      have HB28 := hide hB28; have HB18 := hide hB18; have HW8 := hide hw8
      have hz8 := hw8.size
      clear hB28 hB18 hw8 hg8
      have hk0 : decide (1 + 4 * (n : Int) < 0) = false := decide_eq_false (by omega)
      go_wp2_with fail
      refine (eqPointS_same _ _ _ _ _ _ _ xs w8 (unhide HB28) (unhide HB18) hxl).mono ?_
      rintro e w9 ⟨rfl, hb9⟩
      have hz9 := hb9.size
      have HB29 := hide (own_below (unhide HB28) hb9)
      have HB19 := hide (own_below (unhide HB18) hb9)
      have HW9 := hide ((unhide HW8).trans (hb9.mono (unhide HW8).size))
      clear hb9
      go_wp2_with fail
      refine (markPointS_any _ _ _ _ _ w9 (unhide HB29) hxl).mono ?_
      rintro e w10 ⟨rfl, hoM, hg10⟩
      have hB110 := own_kept (unhide HB19) hg10 (fun k hk e => by
        have h1 := (unhide HB1).lt k hk
        have h2 := (unhide HB2).lt k e.symm
        omega)
      have hw10 : Below w.heap.size w w10 := (unhide HW9).grown hg10 (unhide HW9).size (fun k e => by
        have h2 := (unhide HB2).lt k e
        have := (unhide HW2).size; omega)
      have HM10 := hide hoM; have HB110 := hide hB110; have HW10 := hide hw10
      clear hoM hB110 hw10 hg10
      have hm0 : decide (1 + 4 * (xs.length : Int) < 0) = false := decide_eq_false (by omega)
      go_wp2_with fail
      refine (heldPointS_any _ _ _ _ w10 (unhide HM10) hxl).mono ?_
      rintro e w' ⟨rfl, rfl⟩
      have HA10 := hide ((unhide HA).below (unhide HW10))
      go_wp2_with fail
      refine (toPointS_any A n c ps w10 (unhide HA10) hs).mono ?_
      rintro e w11 ⟨g11, rfl, ho11, hb11⟩
      have hz11 := hb11.size
      have HO11 := hide ho11; clear ho11
      have HB11 := hide hb11; clear hb11
      go_wp2_with fail
      refine ((unhide HIV) w11 g11 _ (unhide HO11)).mono ?_
      rintro e w12 ⟨⟨B3, d3, rfl, hoB3⟩, hb12⟩
      have hz12 := hb12.size
      have HB3' := hide hoB3; clear hoB3
      have hb1012 := (unhide HB11).trans (hb12.mono (unhide HB11).size)
      have HB112 := hide (own_below (unhide HB110) hb1012)
      have HM12 := hide (own_below (unhide HM10) hb1012)
      have HW12 := hide ((unhide HW10).trans (hb1012.mono (unhide HW10).size))
      clear hb1012 hb12
      go_wp2_with fail
      refine (eqPointS_same _ _ _ _ _ _ _ xs w12 (unhide HB3') (unhide HB112) hxl).mono ?_
      rintro e w13 ⟨rfl, hb13⟩
      have hz13 := hb13.size
      have HM13 := hide (own_below (unhide HM12) hb13)
      have HW13 := hide ((unhide HW12).trans (hb13.mono (unhide HW12).size))
      clear hb13
      go_wp2_with fail
      refine (heldPointS_any _ _ _ _ w13 (unhide HM13) hxl).mono ?_
      rintro e w' ⟨rfl, rfl⟩
      go_wp2_with fail
      go_ret
      exact ⟨rfl, unhide HW13⟩
  · rw [if_neg hs] at hsz
    have HSZ := hide hsz; clear hsz ha
    go_enter Try.func5, Try.ntmps5
    go_wp2_with (go_at_call 6; (with_reducible refine ((unhide HSZ) _).mono ?_); rintro e w' ⟨rfl, rfl⟩)
    go_ret
    exact ⟨rfl, (by repeat (first | with_reducible exact Below.refl _ _ | with_reducible assumption | (with_reducible refine Below.trans ?_ (Below.mono (by assumption) (by first | omega | (simp <;> omega)))) | with_reducible apply Below.drew | with_reducible apply below_drewN | (with_reducible refine Below.alloc ?_ (by first | omega | (simp <;> omega)) _) | (with_reducible refine Below.setCell ?_ (by first | omega | (simp <;> omega)) _)))⟩
end Go.Proofs.Yteannojgicpbnab

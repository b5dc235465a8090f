/-
  Chapter 24: the law of PatternOfValues.
-/
import Derived.Test.YtfiaioohkidgbaaPvs
import Derived.Test.YtfiaioohkidgbaaNl
namespace Go.Proofs.Ytfiaioohkidgbaa
open Go.RowKit Rm

set_option maxRecDepth 100000 in
set_option maxHeartbeats 3200000 in
theorem lawPatternOfValues (A0 : Option Addr) (n0 c0 : Nat) (rs0 : List Int) (w : World) (ha0 : ArgI w A0 n0 rs0) (_hn0 : n0 ≤ maxLen) :
    Calls Try.prog 3 #[.slice A0 n0 c0] w fun e w' => e = .returned (.bool true) ∧ Below w.heap.size w w' := by
  by_cases hs : n0 ≤ 1048576
  · have hl1 : decide ((n0 : Int) > 1048576) = false := decide_eq_false (by omega)
    have hsv := fun (W : World) (g base : Nat) hW => sPatternOfValues_any (some ⟨g, 0, none⟩) n0 n0 base rs0 W hW hs
    have hiv := fun (W : World) (g base : Nat) hW => iPatternOfValues_any (some ⟨g, 0, none⟩) n0 n0 base rs0 W hW hs
    have hxl := pv_le rs0
    generalize pvL rs0 = xs at *
    generalize pvZ rs0 = z at *
    have HA := hide ha0; have HSV := hide hsv; have HIV := hide hiv; clear hsv hiv ha0
    cases z
    all_goals
      go_enter Try.func3, Try.ntmps3
      go_wp2_with fail
      refine (toIntS_any A0 n0 c0 rs0 w (unhide HA) hs).mono ?_
      rintro e w1 ⟨ga, rfl, hoa, hba⟩
      have hz1 := hba.size
      have HW1 := hide hba
      have HOa := hide hoa
      clear hoa hba
      go_wp2_with fail
      refine ((unhide HSV) w1 ga _ (unhide HOa)).mono ?_
      rintro e w2 ⟨⟨B1, d1, rfl, hoB1⟩, hb2⟩
      have hz2 := hb2.size
      have HB1 := hide (hoB1.mono hz1); clear hoB1
      have HW2 := hide ((unhide HW1).trans (hb2.mono hz1))
      clear hb2 HOa HW1
      go_wp2_with fail
      refine (toIntS_any A0 n0 c0 rs0 w2 ((unhide HA).below (unhide HW2)) hs).mono ?_
      rintro e w3 ⟨gx, rfl, hox, hb3⟩
      have hz3 := hb3.size
      have HB13 := hide (own_below (unhide HB1) hb3)
      have HW3 := hide ((unhide HW2).trans (hb3.mono (unhide HW2).size))
      have hltx := hox.lt gx rfl
      have HOx := hide hox
      clear hox hb3
      go_wp2_with fail
      refine ((unhide HIV) w3 gx _ (unhide HOx)).mono ?_
      rintro e w4 ⟨⟨B2, d2, rfl, hoB2⟩, hb4⟩
      have hz4 := hb4.size
      have hlt2 := hoB2.lt
      have HL2 := hide hlt2
      have HB2 := hide hoB2; clear hoB2 hlt2
      have HB14 := hide (own_below (unhide HB13) hb4)
      have HOx4 := hide (own_below (unhide HOx) hb4)
      have HW4 := hide ((unhide HW3).trans (hb4.mono (unhide HW3).size))
      clear hb4
      go_wp2_with fail
      refine (eqIntS_same _ _ _ _ _ _ _ xs w4 (unhide HB2) (unhide HB14) hxl).mono ?_
      rintro e w5 ⟨rfl, hb5⟩
      have hz5 := hb5.size
      have HB25 := hide (own_below (unhide HB2) hb5)
      have HB15 := hide (own_below (unhide HB14) hb5)
      have HOx5 := hide (own_below (unhide HOx4) hb5)
      have HW5 := hide ((unhide HW4).trans (hb5.mono (unhide HW4).size))
      clear hb5
      go_wp2_with fail
      refine (toIntS_any A0 n0 c0 rs0 w5 ((unhide HA).below (unhide HW5)) hs).mono ?_
      rintro e w6 ⟨gb, rfl, hob, hb6⟩
      have hz6 := hb6.size
      have HOb := hide hob; clear hob
      have HOx6 := hide (own_below (unhide HOx5) hb6)
      have HB6 := hide hb6; clear hb6
      go_wp2_with fail
      refine (eqIntS_same _ _ _ _ _ _ _ rs0 w6 (unhide HOx6) (unhide HOb) hs).mono ?_
      rintro e w7 ⟨rfl, hb7⟩
      have hz7 := hb7.size
      have hb57 := (unhide HB6).trans (hb7.mono (unhide HB6).size)
      have HOx7 := hide (own_below (unhide HOx5) hb57)
      have HB27 := hide (own_below (unhide HB25) hb57)
      have HB17 := hide (own_below (unhide HB15) hb57)
      have HW7 := hide ((unhide HW5).trans (hb57.mono (unhide HW5).size))
      clear hb57 hb7
      go_wp2_with fail
      refine (markIntS_any _ _ _ _ 1 _ w7 (unhide HOx7) hs (by omega) (by omega)).mono ?_
      rintro e w8 ⟨rfl, _, hg8⟩
      have hB28 := own_kept (unhide HB27) hg8 (fun k hk e => by
        have e1 : k = gx := Option.some.inj e
        have h2 := (unhide HB2).lt k hk
        omega)
      have hB18 := own_kept (unhide HB17) hg8 (fun k hk e => by
        have e1 : k = gx := Option.some.inj e
        have h2 := (unhide HB1).lt k hk
        omega)
      have hw8 : Below w.heap.size w w8 := (unhide HW7).grown hg8 (unhide HW7).size (fun k e => by
        have e1 : gx = k := Option.some.inj e
        omega)
      have HB28 := hide hB28; have HB18 := hide hB18; have HW8 := hide hw8
      have hz8 := hw8.size
      clear hB28 hB18 hw8 hg8
      have hk0 : decide (1 + (n0 : Int) < 0) = false := decide_eq_false (by omega)
      go_wp2_with fail
      refine (eqIntS_same _ _ _ _ _ _ _ xs w8 (unhide HB28) (unhide HB18) hxl).mono ?_
      rintro e w9 ⟨rfl, hb9⟩
      have hz9 := hb9.size
      have HB29 := hide (own_below (unhide HB28) hb9)
      have HB19 := hide (own_below (unhide HB18) hb9)
      have HW9 := hide ((unhide HW8).trans (hb9.mono (unhide HW8).size))
      clear hb9
      go_wp2_with fail
      refine (markIntS_any _ _ _ _ 1 _ w9 (unhide HB29) hxl (by omega) (by omega)).mono ?_
      rintro e w10 ⟨rfl, hoM, hg10⟩
      have hB110 := own_kept (unhide HB19) hg10 (fun k hk e => by
        have h1 := (unhide HB1).lt k hk
        have h2 := (unhide HB2).lt k e.symm
        omega)
      have hw10 : Below w.heap.size w w10 := (unhide HW9).grown hg10 (unhide HW9).size (fun k e => by
        have h2 := (unhide HB2).lt k e
        omega)
      have HM10 := hide hoM; have HB110 := hide hB110; have HW10 := hide hw10
      clear hoM hB110 hw10 hg10
      have hm0 : decide (1 + (xs.length : Int) < 0) = false := decide_eq_false (by omega)
      go_wp2_with fail
      refine (heldIntS_any _ _ _ _ 1 w10 (unhide HM10) hxl (by omega) (by omega)).mono ?_
      rintro e w' ⟨rfl, rfl⟩
      go_wp2_with fail
      refine (toIntS_any A0 n0 c0 rs0 w10 ((unhide HA).below (unhide HW10)) hs).mono ?_
      rintro e w11 ⟨gy, rfl, hoy, hb11⟩
      have hz11 := hb11.size
      have HOy := hide hoy; clear hoy
      have HB11 := hide hb11; clear hb11
      go_wp2_with fail
      refine ((unhide HIV) w11 gy _ (unhide HOy)).mono ?_
      rintro e w12 ⟨⟨B3, d3, rfl, hoB3⟩, hb12'⟩
      have hb12 := (unhide HB11).trans (hb12'.mono hz11)
      have hz12 := hb12.size
      have HB3' := hide hoB3; clear hoB3
      have HB112 := hide (own_below (unhide HB110) hb12)
      have HM12 := hide (own_below (unhide HM10) hb12)
      have HW12 := hide ((unhide HW10).trans (hb12.mono (unhide HW10).size))
      clear hb12 hb12'
      go_wp2_with fail
      refine (eqIntS_same _ _ _ _ _ _ _ xs w12 (unhide HB3') (unhide HB112) hxl).mono ?_
      rintro e w13 ⟨rfl, hb13⟩
      have HM13 := hide (own_below (unhide HM12) hb13)
      have HW13 := hide ((unhide HW12).trans (hb13.mono (unhide HW12).size))
      clear hb13
      go_wp2_with fail
      refine (heldIntS_any _ _ _ _ 1 w13 (unhide HM13) hxl (by omega) (by omega)).mono ?_
      rintro e w' ⟨rfl, rfl⟩
      go_wp2_with fail
      go_ret
      exact ⟨rfl, unhide HW13⟩
  · have hl1 : decide ((n0 : Int) > 1048576) = true := decide_eq_true (by omega)
    go_enter Try.func3, Try.ntmps3
    go_wp2_with fail
    go_ret
    exact ⟨rfl, (by repeat (first | with_reducible exact Below.refl _ _ | with_reducible assumption | (with_reducible refine Below.trans ?_ (Below.mono (by assumption) (by first | omega | (simp <;> omega)))) | with_reducible apply Below.drew | with_reducible apply below_drewN | (with_reducible refine Below.alloc ?_ (by first | omega | (simp <;> omega)) _) | (with_reducible refine Below.setCell ?_ (by first | omega | (simp <;> omega)) _)))⟩
end Go.Proofs.Ytfiaioohkidgbaa

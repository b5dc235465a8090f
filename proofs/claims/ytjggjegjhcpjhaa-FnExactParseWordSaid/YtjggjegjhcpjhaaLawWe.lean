/-
  Chapter 6: the law of ParseWord.
-/
import Derived.Test.YtjggjegjhcpjhaaWp
import Derived.Test.YtjggjegjhcpjhaaNl
namespace Go.Proofs.Ytjggjegjhcpjhaa
open Go.RowKit Rm

set_option maxRecDepth 100000 in
set_option maxHeartbeats 1600000 in
theorem lawParseWord (s : ByteArray) (w : World) :
    Calls Try.prog 13 #[.string s] w fun e w' => e = .returned (.bool true) ∧ Below w.heap.size w w' := by
  by_cases hs : s.size ≤ 1048576
  · have hsv := fun W => sParseWord_any s W hs
    have hiv := fun W => iParseWord_any s W hs
    have hxl := ParseWord_len s.data.toList
    generalize pwL s.data.toList = xs at *
    generalize pwZ s.data.toList = z at *
    have HSV := hide hsv; have HIV := hide hiv; clear hsv hiv
    cases z
    all_goals
      go_enter Try.func13, Try.ntmps13
      go_wp2_with fail
      refine ((unhide HSV) _).mono ?_
      rintro e w2 ⟨⟨B1, d1, rfl, hoB1⟩, hw2⟩
      have hz2 := hw2.size
      have HB1 := hide hoB1; clear hoB1
      have HW2 := hide hw2; clear hw2
      go_wp2_with fail
      refine ((unhide HIV) w2).mono ?_
      rintro e w4 ⟨⟨B2, d2, rfl, hoB2⟩, hb4⟩
      have hz4 := hb4.size
      have HB2 := hide hoB2; clear hoB2
      have HB1' := hide (own_below (unhide HB1) hb4)
      have HW4 := hide ((unhide HW2).trans (hb4.mono (unhide HW2).size))
      clear hb4
      go_wp2_with fail
      refine (eqIntS_same _ _ _ _ _ _ _ xs w4 (unhide HB2) (unhide HB1') hxl).mono ?_
      rintro e w9 ⟨rfl, hb9⟩
      have hz9 := hb9.size
      have HB29 := hide (own_below (unhide HB2) hb9)
      have HB19 := hide (own_below (unhide HB1') hb9)
      have HW9 := hide ((unhide HW4).trans (hb9.mono (unhide HW4).size))
      clear hb9
      go_wp2_with fail
      refine (markIntS_any _ _ _ _ 1 _ w9 (unhide HB29) hxl (by omega) (by omega)).mono ?_
      rintro e w10 ⟨rfl, hoM, hg10⟩
      have hB110 := own_kept (unhide HB19) hg10 (fun k hk e => by
        have h1 := (unhide HB1).lt k hk
        have h2 := (unhide HB2).lt k e.symm
        omega)
      have hw10 : Below w.heap.size w w10 := (unhide HW9).grown hg10 (unhide HW9).size (fun k e => by
        have h2 := (unhide HB2).lt k e
        omega)
      have HM10 := hide hoM; have HB110 := hide hB110; have HW10 := hide hw10
      clear hoM hB110 hw10 hg10
      have hm0 : decide (1 + (xs.length : Int) < 0) = false := decide_eq_false (by omega)
      go_wp2_with fail
      refine (heldIntS_any _ _ _ _ 1 w10 (unhide HM10) hxl (by omega) (by omega)).mono ?_
      rintro e w' ⟨rfl, rfl⟩
      go_wp2_with fail
      refine ((unhide HIV) w10).mono ?_
      rintro e w12 ⟨⟨B3, d3, rfl, hoB3⟩, hb12⟩
      have hz12 := hb12.size
      have HB3' := hide hoB3; clear hoB3
      have HB112 := hide (own_below (unhide HB110) hb12)
      have HM12 := hide (own_below (unhide HM10) hb12)
      have HW12 := hide ((unhide HW10).trans (hb12.mono (unhide HW10).size))
      clear hb12
      go_wp2_with fail
      refine (eqIntS_same _ _ _ _ _ _ _ xs w12 (unhide HB3') (unhide HB112) hxl).mono ?_
      rintro e w13 ⟨rfl, hb13⟩
      have HM13 := hide (own_below (unhide HM12) hb13)
      have HW13 := hide ((unhide HW12).trans (hb13.mono (unhide HW12).size))
      clear hb13
      go_wp2_with fail
      refine (heldIntS_any _ _ _ _ 1 w13 (unhide HM13) hxl (by omega) (by omega)).mono ?_
      rintro e w' ⟨rfl, rfl⟩
      go_wp2_with fail
      go_ret
      exact ⟨rfl, unhide HW13⟩
  · go_enter Try.func13, Try.ntmps13
    go_wp2_with fail
    go_ret
    exact ⟨rfl, (by repeat (first | with_reducible exact Below.refl _ _ | with_reducible assumption | (with_reducible refine Below.trans ?_ (Below.mono (by assumption) (by first | omega | (simp <;> omega)))) | with_reducible apply Below.drew | with_reducible apply below_drewN | (with_reducible refine Below.alloc ?_ (by first | omega | (simp <;> omega)) _) | (with_reducible refine Below.setCell ?_ (by first | omega | (simp <;> omega)) _)))⟩
end Go.Proofs.Ytjggjegjhcpjhaa

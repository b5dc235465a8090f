/-
  Laws of functions of several slices.
-/
import Derived.Test.YtldmgjeecomddaaTb
import Derived.Test.YtldmgjeecomddaaLw
namespace Go.Proofs.Ytldmgjeecomddaa
open Go.RowKit Rm

set_option maxRecDepth 100000 in
set_option maxHeartbeats 3200000 in
theorem lawTurningValues (A0 : Option Addr) (n0 c0 : Nat) (ps0 : List Pt) (m1 : Int) (w : World) (ha0 : ArgP w A0 n0 ps0) (hn0 : n0 ≤ maxLen) :
    Calls Try.prog 5 #[.slice A0 n0 c0, .int .i64 m1] w fun e w' => e = .returned (.bool true) ∧ Below w.heap.size w w' := by
  have hsz0 := fun (h0 : (0 : Int) ≤ 1048576) W => szPointS_left A0 n0 c0 (1048576) hn0 h0 (by omega) W
  by_cases hs0 : (n0 : Int) ≤ 1048576
  case neg =>
    have hq0 := hsz0 (by omega)
    rw [if_neg hs0] at hq0
    have HQ0 := hide hq0
    clear hq0
    clear hsz0 ha0
    go_enter Try.func5, Try.ntmps5
    go_wp2_with fail
    refine ((unhide HQ0) _).mono ?_
    rintro e w' ⟨rfl, rfl⟩
    go_wp2_with fail
    go_ret
    exact ⟨rfl, Below.refl _ _⟩
  case pos =>
    have hq0 := hsz0 (by omega)
    rw [if_pos hs0] at hq0
    have HQ0 := hide hq0
    have hk0 : decide (1048576 - (n0 : Int) < 0) = false := decide_eq_false (by omega)
    have hh0 : n0 ≤ 1048576 := by omega
    have HA0 := hide ha0
    clear hq0 hsz0 ha0
    have hsv := fun (W : World) (g0 base0 : Nat) hW0 => sTurningValues_any (some ⟨g0, 0, none⟩) n0 n0 base0 ps0 m1 W hW0 hh0
    have hiv := fun (W : World) (g0 base0 : Nat) hW0 => iTurningValues_any (some ⟨g0, 0, none⟩) n0 n0 base0 ps0 m1 W hW0 hh0
    have hxl := TurningValues_len ps0 m1
    generalize ((tvO ps0 m1).getD []).map qf = xs at *
    generalize (tvO ps0 m1).isSome = z at *
    have HSV := hide hsv; have HIV := hide hiv; clear hsv hiv
    cases z
    all_goals
      go_enter Try.func5, Try.ntmps5
      go_wp2_with fail
      refine ((unhide HQ0) _).mono ?_
      rintro e w' ⟨rfl, rfl⟩
      go_wp2_with fail
      refine (toPointS_any A0 n0 c0 ps0 w (unhide HA0) hh0).mono ?_
      rintro e w1 ⟨ga0, rfl, hoa0, hba0⟩
      have hz_w1 := hba0.size
      have HW := hide hba0
      have hlta0 := hoa0.lt ga0 rfl
      have HOa0 := hide hoa0
      clear hoa0 hba0
      go_wp2_with fail
      refine ((unhide HSV) w1 ga0 _ (unhide HOa0)).mono ?_
      rintro e w2 ⟨⟨BS, dS, rfl, hoS⟩, hbS⟩
      have hz_w2 := hbS.size
      have HOa0' := hide (own_below (unhide HOa0) hbS); clear HOa0; have HOa0 := HOa0'; clear HOa0'
      have HW' := hide ((unhide HW).trans (hbS.mono (unhide HW).size)); clear HW; have HW := HW'; clear HW'
      have HLS := hide (fun k e => hoS.lt (k := k) e)
      have HOS := hide hoS
      clear hoS hbS
      clear HOa0
      go_wp2_with fail
      refine (toPointS_any A0 n0 c0 ps0 w2 ((unhide HA0).below (unhide HW)) hh0).mono ?_
      rintro e w3 ⟨gx0, rfl, hox0, hbx0⟩
      have hz_w3 := hbx0.size
      have HOS' := hide ((unhide HOS).below hbx0); clear HOS; have HOS := HOS'; clear HOS'
      have HW' := hide ((unhide HW).trans (hbx0.mono (unhide HW).size)); clear HW; have HW := HW'; clear HW'
      have hltx0 := hox0.lt gx0 rfl
      have HOx0 := hide hox0
      clear hox0 hbx0
      go_wp2_with fail
      refine ((unhide HIV) w3 gx0 _ (unhide HOx0)).mono ?_
      rintro e w4 ⟨⟨BG, dG, rfl, hoG⟩, hbG⟩
      have hz_w4 := hbG.size
      have HOS' := hide ((unhide HOS).below hbG); clear HOS; have HOS := HOS'; clear HOS'
      have HOx0' := hide (own_below (unhide HOx0) hbG); clear HOx0; have HOx0 := HOx0'; clear HOx0'
      have HW' := hide ((unhide HW).trans (hbG.mono (unhide HW).size)); clear HW; have HW := HW'; clear HW'
      have HLG := hide hoG.lt
      have HOG := hide hoG
      clear hoG hbG
      go_wp2_with fail
      refine (eqRatS_rs _ _ _ _ _ _ _ xs w4 (unhide HOG) (unhide HOS) hxl).mono ?_
      rintro e w5 ⟨rfl, hq⟩
      have hz_w5 := hq.size
      have HOS' := hide ((unhide HOS).below hq); clear HOS; have HOS := HOS'; clear HOS'
      have HOx0' := hide (own_below (unhide HOx0) hq); clear HOx0; have HOx0 := HOx0'; clear HOx0'
      have HOG' := hide (own_below (unhide HOG) hq); clear HOG; have HOG := HOG'; clear HOG'
      have HW' := hide ((unhide HW).trans (hq.mono (unhide HW).size)); clear HW; have HW := HW'; clear HW'
      clear hq
      go_wp2_with fail
      refine (toPointS_any A0 n0 c0 ps0 w5 ((unhide HA0).below (unhide HW)) hh0).mono ?_
      rintro e w6 ⟨gb0, rfl, hob0, hbb0⟩
      have hz_w6 := hbb0.size
      have HOS' := hide ((unhide HOS).below hbb0); clear HOS; have HOS := HOS'; clear HOS'
      have HOx0' := hide (own_below (unhide HOx0) hbb0); clear HOx0; have HOx0 := HOx0'; clear HOx0'
      have HOG' := hide (own_below (unhide HOG) hbb0); clear HOG; have HOG := HOG'; clear HOG'
      have HW' := hide ((unhide HW).trans (hbb0.mono (unhide HW).size)); clear HW; have HW := HW'; clear HW'
      have hltb0 := hob0.lt gb0 rfl
      have HOb0 := hide hob0
      clear hob0 hbb0
      go_wp2_with fail
      refine (eqPointS_same _ _ _ _ _ _ _ ps0 w6 (unhide HOx0) (unhide HOb0) hh0).mono ?_
      rintro e w7 ⟨rfl, hq⟩
      have hz_w7 := hq.size
      have HOS' := hide ((unhide HOS).below hq); clear HOS; have HOS := HOS'; clear HOS'
      have HOx0' := hide (own_below (unhide HOx0) hq); clear HOx0; have HOx0 := HOx0'; clear HOx0'
      have HOG' := hide (own_below (unhide HOG) hq); clear HOG; have HOG := HOG'; clear HOG'
      have HOb0' := hide (own_below (unhide HOb0) hq); clear HOb0; have HOb0 := HOb0'; clear HOb0'
      have HW' := hide ((unhide HW).trans (hq.mono (unhide HW).size)); clear HW; have HW := HW'; clear HW'
      clear hq
      clear HOb0
      go_wp2_with fail
      refine (markPointS_from _ n0 n0 _ _ (1) w7 (unhide HOx0) hh0 (by omega) (by omega)).mono ?_
      rintro e w8 ⟨rfl, hg⟩
      have hz_w8 := hg.size
      clear HOx0
      have HOS' := hide ((unhide HOS).kept hg (fun k hk _ _ e => by have e1 : gx0 = k := Option.some.inj hk; have e2 := (unhide HLS) k e; omega)); clear HOS; have HOS := HOS'; clear HOS'
      have HOG' := hide (own_kept (unhide HOG) hg (fun k hk e => by have e1 : k = gx0 := Option.some.inj e; have e2 := (unhide HLG) k hk; omega)); clear HOG; have HOG := HOG'; clear HOG'
      have HW' := hide ((unhide HW).grown hg (unhide HW).size (fun k e => by have e1 : gx0 = k := Option.some.inj e; have e2 := (unhide HW).size; omega)); clear HW; have HW := HW'; clear HW' hg
      have hkk : decide (1 + 4 * (n0 : Int) < 0) = false := decide_eq_false (by omega)
      go_wp2_with fail
      refine (eqRatS_rs _ _ _ _ _ _ _ xs w8 (unhide HOG) (unhide HOS) hxl).mono ?_
      rintro e w9 ⟨rfl, hq⟩
      have hz_w9 := hq.size
      have HOS' := hide ((unhide HOS).below hq); clear HOS; have HOS := HOS'; clear HOS'
      have HOG' := hide (own_below (unhide HOG) hq); clear HOG; have HOG := HOG'; clear HOG'
      have HW' := hide ((unhide HW).trans (hq.mono (unhide HW).size)); clear HW; have HW := HW'; clear HW'
      clear hq
      go_wp2_with fail
      refine (markRatS_any _ _ _ _ _ w9 (unhide HOG) hxl).mono ?_
      rintro e w10 ⟨rfl, hoM, hg⟩
      have hz_w10 := hg.size
      have HOS' := hide ((unhide HOS).kept hg (fun k hk _ _ e => by have e1 := (unhide HLS) k e; have e2 := (unhide HLG) k hk; omega)); clear HOS; have HOS := HOS'; clear HOS'
      have HW' := hide ((unhide HW).grown hg (unhide HW).size (fun k e => by have e1 := (unhide HLG) k e; have e2 := (unhide HW).size; omega)); clear HW; have HW := HW'; clear HW' hg HOG
      have HOG := hide hoM; clear hoM
      have hmm : decide (1 + 2 * (xs.length : Int) < 0) = false := decide_eq_false (by omega)
      go_wp2_with fail
      refine (heldRatS_any _ _ _ _ w10 (unhide HOG) hxl).mono ?_
      rintro e w' ⟨rfl, rfl⟩
      go_wp2_with fail
      refine (toPointS_any A0 n0 c0 ps0 w10 ((unhide HA0).below (unhide HW)) hh0).mono ?_
      rintro e w11 ⟨gy0, rfl, hoy0, hby0⟩
      have hz_w11 := hby0.size
      have HOS' := hide ((unhide HOS).below hby0); clear HOS; have HOS := HOS'; clear HOS'
      have HOG' := hide (own_below (unhide HOG) hby0); clear HOG; have HOG := HOG'; clear HOG'
      have HW' := hide ((unhide HW).trans (hby0.mono (unhide HW).size)); clear HW; have HW := HW'; clear HW'
      have hlty0 := hoy0.lt gy0 rfl
      have HOy0 := hide hoy0
      clear hoy0 hby0
      go_wp2_with fail
      refine ((unhide HIV) w11 gy0 _ (unhide HOy0)).mono ?_
      rintro e w12 ⟨⟨BH, dH, rfl, hoH⟩, hbH⟩
      have hz_w12 := hbH.size
      have HOS' := hide ((unhide HOS).below hbH); clear HOS; have HOS := HOS'; clear HOS'
      have HOG' := hide (own_below (unhide HOG) hbH); clear HOG; have HOG := HOG'; clear HOG'
      have HOy0' := hide (own_below (unhide HOy0) hbH); clear HOy0; have HOy0 := HOy0'; clear HOy0'
      have HW' := hide ((unhide HW).trans (hbH.mono (unhide HW).size)); clear HW; have HW := HW'; clear HW'
      have HLH := hide hoH.lt
      have HOH := hide hoH
      clear hoH hbH
      go_wp2_with fail
      refine (eqRatS_rs _ _ _ _ _ _ _ xs w12 (unhide HOH) (unhide HOS) hxl).mono ?_
      rintro e w13 ⟨rfl, hq⟩
      have hz_w13 := hq.size
      have HOS' := hide ((unhide HOS).below hq); clear HOS; have HOS := HOS'; clear HOS'
      have HOG' := hide (own_below (unhide HOG) hq); clear HOG; have HOG := HOG'; clear HOG'
      have HOy0' := hide (own_below (unhide HOy0) hq); clear HOy0; have HOy0 := HOy0'; clear HOy0'
      have HOH' := hide (own_below (unhide HOH) hq); clear HOH; have HOH := HOH'; clear HOH'
      have HW' := hide ((unhide HW).trans (hq.mono (unhide HW).size)); clear HW; have HW := HW'; clear HW'
      clear hq
      go_wp2_with fail
      refine (heldRatS_any _ _ _ _ w13 (unhide HOG) hxl).mono ?_
      rintro e w' ⟨rfl, rfl⟩
      go_wp2_with fail
      go_ret
      exact ⟨rfl, unhide HW⟩
end Go.Proofs.Ytldmgjeecomddaa

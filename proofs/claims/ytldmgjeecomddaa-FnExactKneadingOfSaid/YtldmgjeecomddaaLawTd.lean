/-
  Laws of functions of several slices.
-/
import Derived.Test.YtldmgjeecomddaaTe
import Derived.Test.YtldmgjeecomddaaLw
namespace Go.Proofs.Ytldmgjeecomddaa
open Go.RowKit Rm

set_option maxRecDepth 100000 in
set_option maxHeartbeats 3200000 in
theorem lawKneadingOf (A0 : Option Addr) (n0 c0 : Nat) (ps0 : List Pt) (m1 : Int) (w : World) (ha0 : ArgP w A0 n0 ps0) (hn0 : n0 ≤ maxLen) :
    Calls Try.prog 3 #[.slice A0 n0 c0, .int .i64 m1] w fun e w' => e = .returned (.bool true) ∧ Below w.heap.size w w' := by
  have hsz0 := fun (h0 : (0 : Int) ≤ 1048576) W => szPointS_left A0 n0 c0 (1048576) hn0 h0 (by omega) W
  by_cases hs0 : (n0 : Int) ≤ 1048576
  case neg =>
    have hq0 := hsz0 (by omega)
    rw [if_neg hs0] at hq0
    have HQ0 := hide hq0
    clear hq0
    clear hsz0 ha0
    go_enter Try.func3, Try.ntmps3
    go_wp2_with fail
    refine ((unhide HQ0) _).mono ?_
    rintro e w' ⟨rfl, rfl⟩
    go_wp2_with fail
    go_ret
    exact ⟨rfl, Below.refl _ _⟩
  case pos =>
    have hq0 := hsz0 (by omega)
    rw [if_pos hs0] at hq0
    have HQ0 := hide hq0
    have hk0 : decide (1048576 - (n0 : Int) < 0) = false := decide_eq_false (by omega)
    have hh0 : n0 ≤ 1048576 := by omega
    have HA0 := hide ha0
    clear hq0 hsz0 ha0
    have hsv := fun (W : World) (g0 base0 : Nat) hW0 => sKneadingOf_any (some ⟨g0, 0, none⟩) n0 n0 base0 ps0 m1 W hW0 hh0
    have hiv := fun (W : World) (g0 base0 : Nat) hW0 => iKneadingOf_any (some ⟨g0, 0, none⟩) n0 n0 base0 ps0 m1 W hW0 hh0
    generalize knT ps0 m1 = u0 at *
    generalize (ocO ps0 m1).isSome = z1 at *
    have HSV := hide hsv; have HIV := hide hiv; clear hsv hiv
    cases z1
    all_goals
      go_enter Try.func3, Try.ntmps3
      go_wp2_with fail
      refine ((unhide HQ0) _).mono ?_
      rintro e w' ⟨rfl, rfl⟩
      go_wp2_with fail
      refine (toPointS_any A0 n0 c0 ps0 w (unhide HA0) hh0).mono ?_
      rintro e w1 ⟨ga0, rfl, hoa0, hba0⟩
      have hz_w1 := hba0.size
      have HW := hide hba0
      have hlta0 := hoa0.lt ga0 rfl
      have HOa0 := hide hoa0
      clear hoa0 hba0
      go_wp2_with fail
      refine ((unhide HSV) w1 ga0 _ (unhide HOa0)).mono ?_
      rintro e w2 ⟨rfl, hbS⟩
      have hz_w2 := hbS.size
      have HOa0' := hide (own_below (unhide HOa0) hbS); clear HOa0; have HOa0 := HOa0'; clear HOa0'
      have HW' := hide ((unhide HW).trans (hbS.mono (unhide HW).size)); clear HW; have HW := HW'; clear HW'
      clear hbS
      clear HOa0
      go_wp2_with fail
      refine (toPointS_any A0 n0 c0 ps0 w2 ((unhide HA0).below (unhide HW)) hh0).mono ?_
      rintro e w3 ⟨gx0, rfl, hox0, hbx0⟩
      have hz_w3 := hbx0.size
      have HW' := hide ((unhide HW).trans (hbx0.mono (unhide HW).size)); clear HW; have HW := HW'; clear HW'
      have hltx0 := hox0.lt gx0 rfl
      have HOx0 := hide hox0
      clear hox0 hbx0
      go_wp2_with fail
      refine ((unhide HIV) w3 gx0 _ (unhide HOx0)).mono ?_
      rintro e w4 ⟨rfl, hbG⟩
      have hz_w4 := hbG.size
      have HOx0' := hide (own_below (unhide HOx0) hbG); clear HOx0; have HOx0 := HOx0'; clear HOx0'
      have HW' := hide ((unhide HW).trans (hbG.mono (unhide HW).size)); clear HW; have HW := HW'; clear HW'
      clear hbG
      go_wp2_with fail
      refine (toPointS_any A0 n0 c0 ps0 w4 ((unhide HA0).below (unhide HW)) hh0).mono ?_
      rintro e w5 ⟨gb0, rfl, hob0, hbb0⟩
      have hz_w5 := hbb0.size
      have HOx0' := hide (own_below (unhide HOx0) hbb0); clear HOx0; have HOx0 := HOx0'; clear HOx0'
      have HW' := hide ((unhide HW).trans (hbb0.mono (unhide HW).size)); clear HW; have HW := HW'; clear HW'
      have hltb0 := hob0.lt gb0 rfl
      have HOb0 := hide hob0
      clear hob0 hbb0
      go_wp2_with fail
      refine (eqPointS_same _ _ _ _ _ _ _ ps0 w5 (unhide HOx0) (unhide HOb0) hh0).mono ?_
      rintro e w6 ⟨rfl, hq⟩
      have hz_w6 := hq.size
      have HOx0' := hide (own_below (unhide HOx0) hq); clear HOx0; have HOx0 := HOx0'; clear HOx0'
      have HOb0' := hide (own_below (unhide HOb0) hq); clear HOb0; have HOb0 := HOb0'; clear HOb0'
      have HW' := hide ((unhide HW).trans (hq.mono (unhide HW).size)); clear HW; have HW := HW'; clear HW'
      clear hq
      clear HOb0
      go_wp2_with fail
      go_ret
      exact ⟨rfl, unhide HW⟩
end Go.Proofs.Ytldmgjeecomddaa

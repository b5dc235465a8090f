/-
  Laws of functions of several slices.
-/
import Derived.Test.YtjggjegjhcpjhaaWj
import Derived.Test.YtjggjegjhcpjhaaLw
import Derived.Test.YtjggjegjhcpjhaaNl
import Derived.Test.YtjggjegjhcpjhaaRi
namespace Go.Proofs.Ytjggjegjhcpjhaa
open Go.RowKit Rm

set_option maxRecDepth 100000 in
set_option maxHeartbeats 3200000 in
theorem lawCompareWords (A0 : Option Addr) (n0 c0 : Nat) (ps0 : List Pt) (A1 : Option Addr) (n1 c1 : Nat) (rs1 : List Int) (A2 : Option Addr) (n2 c2 : Nat) (rs2 : List Int) (w : World) (ha0 : ArgP w A0 n0 ps0) (hn0 : n0 ≤ maxLen) (ha1 : ArgI w A1 n1 rs1) (_hn1 : n1 ≤ maxLen) (ha2 : ArgI w A2 n2 rs2) (_hn2 : n2 ≤ maxLen) :
    Calls Try.prog 7 #[.slice A0 n0 c0, .slice A1 n1 c1, .slice A2 n2 c2] w fun e w' => e = .returned (.bool true) ∧ Below w.heap.size w w' := by
  have hsz0 := fun (h0 : (0 : Int) ≤ 1048576) W => szPointS_left A0 n0 c0 (1048576) hn0 h0 (by omega) W
  by_cases hs1 : (n1 : Int) ≤ 1048576
  case neg =>
    have hl1 : decide ((n1 : Int) > 1048576) = true := decide_eq_true (by omega)
    clear hsz0 ha0 ha1 ha2
    go_enter Try.func7, Try.ntmps7
    go_wp2_with fail
    go_ret
    exact ⟨rfl, Below.refl _ _⟩
  case pos =>
    by_cases hs2 : (n2 : Int) ≤ 1048576
    case neg =>
      have hl1 : decide ((n1 : Int) > 1048576) = false := decide_eq_false (by omega)
      have hl2 : decide ((n2 : Int) > 1048576) = true := decide_eq_true (by omega)
      clear hsz0 ha0 ha1 ha2
      go_enter Try.func7, Try.ntmps7
      go_wp2_with fail
      go_ret
      exact ⟨rfl, Below.refl _ _⟩
    case pos =>
      have hl1 : decide ((n1 : Int) > 1048576) = false := decide_eq_false (by omega)
      have hl2 : decide ((n2 : Int) > 1048576) = false := decide_eq_false (by omega)
      by_cases hs0 : (n0 : Int) ≤ 1048576
      case neg =>
        have hq0 := hsz0 (by omega)
        rw [if_neg hs0] at hq0
        have HQ0 := hide hq0
        clear hq0
        clear hsz0 ha0 ha1 ha2
        go_enter Try.func7, Try.ntmps7
        go_wp2_with fail
        refine ((unhide HQ0) _).mono ?_
        rintro e w' ⟨rfl, rfl⟩
        go_wp2_with fail
        go_ret
        exact ⟨rfl, Below.refl _ _⟩
      case pos =>
        have hh1 : n1 ≤ 1048576 := by omega
        have HA1 := hide ha1
        clear ha1
        have hh2 : n2 ≤ 1048576 := by omega
        have HA2 := hide ha2
        clear ha2
        have hq0 := hsz0 (by omega)
        rw [if_pos hs0] at hq0
        have HQ0 := hide hq0
        have hk0 : decide (1048576 - (n0 : Int) < 0) = false := decide_eq_false (by omega)
        have hh0 : n0 ≤ 1048576 := by omega
        have HA0 := hide ha0
        clear hq0 hsz0 ha0
        have hsv := fun (W : World) (g0 base0 : Nat) (g1 base1 : Nat) (g2 base2 : Nat) hW0 hW1 hW2 => sCompareWords_any (some ⟨g0, 0, none⟩) n0 n0 base0 ps0 g1 n1 n1 base1 rs1 g2 n2 n2 base2 rs2 W hW0 hh0 hW1 hh1 hW2 hh2
        have hiv := fun (W : World) (g0 base0 : Nat) (g1 base1 : Nat) (g2 base2 : Nat) hW0 hW1 hW2 => iCompareWords_any (some ⟨g0, 0, none⟩) n0 n0 base0 ps0 g1 n1 n1 base1 rs1 g2 n2 n2 base2 rs2 W hW0 hh0 hW1 hh1 hW2 hh2
        generalize cwI ps0 rs1 rs2 = u0 at *
        generalize cwZ ps0 rs1 rs2 = z1 at *
        have HSV := hide hsv; have HIV := hide hiv; clear hsv hiv
        cases z1
        all_goals
          go_enter Try.func7, Try.ntmps7
          go_wp2_with fail
          refine ((unhide HQ0) _).mono ?_
          rintro e w' ⟨rfl, rfl⟩
          go_wp2_with fail
          refine (toPointS_any A0 n0 c0 ps0 w (unhide HA0) hh0).mono ?_
          rintro e w1 ⟨ga0, rfl, hoa0, hba0⟩
          have hz_w1 := hba0.size
          have HW := hide hba0
          have hlta0 := hoa0.lt ga0 rfl
          have HOa0 := hide hoa0
          clear hoa0 hba0
          go_wp2_with fail
          refine (toIntS_any A1 n1 c1 rs1 w1 ((unhide HA1).below (unhide HW)) hh1).mono ?_
          rintro e w2 ⟨ga1, rfl, hoa1, hba1⟩
          have hz_w2 := hba1.size
          have HOa0' := hide (own_below (unhide HOa0) hba1); clear HOa0; have HOa0 := HOa0'; clear HOa0'
          have HW' := hide ((unhide HW).trans (hba1.mono (unhide HW).size)); clear HW; have HW := HW'; clear HW'
          have hlta1 := hoa1.lt ga1 rfl
          have HOa1 := hide hoa1
          clear hoa1 hba1
          go_wp2_with fail
          refine (toIntS_any A2 n2 c2 rs2 w2 ((unhide HA2).below (unhide HW)) hh2).mono ?_
          rintro e w3 ⟨ga2, rfl, hoa2, hba2⟩
          have hz_w3 := hba2.size
          have HOa0' := hide (own_below (unhide HOa0) hba2); clear HOa0; have HOa0 := HOa0'; clear HOa0'
          have HOa1' := hide (own_below (unhide HOa1) hba2); clear HOa1; have HOa1 := HOa1'; clear HOa1'
          have HW' := hide ((unhide HW).trans (hba2.mono (unhide HW).size)); clear HW; have HW := HW'; clear HW'
          have hlta2 := hoa2.lt ga2 rfl
          have HOa2 := hide hoa2
          clear hoa2 hba2
          go_wp2_with fail
          refine ((unhide HSV) w3 ga0 _ ga1 _ ga2 _ (unhide HOa0) (unhide HOa1) (unhide HOa2)).mono ?_
          rintro e w4 ⟨rfl, hbS⟩
          have hz_w4 := hbS.size
          have HOa0' := hide (own_below (unhide HOa0) hbS); clear HOa0; have HOa0 := HOa0'; clear HOa0'
          have HOa1' := hide (own_below (unhide HOa1) hbS); clear HOa1; have HOa1 := HOa1'; clear HOa1'
          have HOa2' := hide (own_below (unhide HOa2) hbS); clear HOa2; have HOa2 := HOa2'; clear HOa2'
          have HW' := hide ((unhide HW).trans (hbS.mono (unhide HW).size)); clear HW; have HW := HW'; clear HW'
          clear hbS
          clear HOa0
          clear HOa1
          clear HOa2
          go_wp2_with fail
          refine (toPointS_any A0 n0 c0 ps0 w4 ((unhide HA0).below (unhide HW)) hh0).mono ?_
          rintro e w5 ⟨gx0, rfl, hox0, hbx0⟩
          have hz_w5 := hbx0.size
          have HW' := hide ((unhide HW).trans (hbx0.mono (unhide HW).size)); clear HW; have HW := HW'; clear HW'
          have hltx0 := hox0.lt gx0 rfl
          have HOx0 := hide hox0
          clear hox0 hbx0
          go_wp2_with fail
          refine (toIntS_any A1 n1 c1 rs1 w5 ((unhide HA1).below (unhide HW)) hh1).mono ?_
          rintro e w6 ⟨gx1, rfl, hox1, hbx1⟩
          have hz_w6 := hbx1.size
          have HOx0' := hide (own_below (unhide HOx0) hbx1); clear HOx0; have HOx0 := HOx0'; clear HOx0'
          have HW' := hide ((unhide HW).trans (hbx1.mono (unhide HW).size)); clear HW; have HW := HW'; clear HW'
          have hltx1 := hox1.lt gx1 rfl
          have HOx1 := hide hox1
          clear hox1 hbx1
          go_wp2_with fail
          refine (toIntS_any A2 n2 c2 rs2 w6 ((unhide HA2).below (unhide HW)) hh2).mono ?_
          rintro e w7 ⟨gx2, rfl, hox2, hbx2⟩
          have hz_w7 := hbx2.size
          have HOx0' := hide (own_below (unhide HOx0) hbx2); clear HOx0; have HOx0 := HOx0'; clear HOx0'
          have HOx1' := hide (own_below (unhide HOx1) hbx2); clear HOx1; have HOx1 := HOx1'; clear HOx1'
          have HW' := hide ((unhide HW).trans (hbx2.mono (unhide HW).size)); clear HW; have HW := HW'; clear HW'
          have hltx2 := hox2.lt gx2 rfl
          have HOx2 := hide hox2
          clear hox2 hbx2
          go_wp2_with fail
          refine ((unhide HIV) w7 gx0 _ gx1 _ gx2 _ (unhide HOx0) (unhide HOx1) (unhide HOx2)).mono ?_
          rintro e w8 ⟨rfl, hbG⟩
          have hz_w8 := hbG.size
          have HOx0' := hide (own_below (unhide HOx0) hbG); clear HOx0; have HOx0 := HOx0'; clear HOx0'
          have HOx1' := hide (own_below (unhide HOx1) hbG); clear HOx1; have HOx1 := HOx1'; clear HOx1'
          have HOx2' := hide (own_below (unhide HOx2) hbG); clear HOx2; have HOx2 := HOx2'; clear HOx2'
          have HW' := hide ((unhide HW).trans (hbG.mono (unhide HW).size)); clear HW; have HW := HW'; clear HW'
          clear hbG
          go_wp2_with fail
          refine (toPointS_any A0 n0 c0 ps0 w8 ((unhide HA0).below (unhide HW)) hh0).mono ?_
          rintro e w9 ⟨gb0, rfl, hob0, hbb0⟩
          have hz_w9 := hbb0.size
          have HOx0' := hide (own_below (unhide HOx0) hbb0); clear HOx0; have HOx0 := HOx0'; clear HOx0'
          have HOx1' := hide (own_below (unhide HOx1) hbb0); clear HOx1; have HOx1 := HOx1'; clear HOx1'
          have HOx2' := hide (own_below (unhide HOx2) hbb0); clear HOx2; have HOx2 := HOx2'; clear HOx2'
          have HW' := hide ((unhide HW).trans (hbb0.mono (unhide HW).size)); clear HW; have HW := HW'; clear HW'
          have hltb0 := hob0.lt gb0 rfl
          have HOb0 := hide hob0
          clear hob0 hbb0
          go_wp2_with fail
          refine (eqPointS_same _ _ _ _ _ _ _ ps0 w9 (unhide HOx0) (unhide HOb0) hh0).mono ?_
          rintro e w10 ⟨rfl, hq⟩
          have hz_w10 := hq.size
          have HOx0' := hide (own_below (unhide HOx0) hq); clear HOx0; have HOx0 := HOx0'; clear HOx0'
          have HOx1' := hide (own_below (unhide HOx1) hq); clear HOx1; have HOx1 := HOx1'; clear HOx1'
          have HOx2' := hide (own_below (unhide HOx2) hq); clear HOx2; have HOx2 := HOx2'; clear HOx2'
          have HOb0' := hide (own_below (unhide HOb0) hq); clear HOb0; have HOb0 := HOb0'; clear HOb0'
          have HW' := hide ((unhide HW).trans (hq.mono (unhide HW).size)); clear HW; have HW := HW'; clear HW'
          clear hq
          clear HOb0
          go_wp2_with fail
          refine (toIntS_any A1 n1 c1 rs1 w10 ((unhide HA1).below (unhide HW)) hh1).mono ?_
          rintro e w11 ⟨gb1, rfl, hob1, hbb1⟩
          have hz_w11 := hbb1.size
          have HOx0' := hide (own_below (unhide HOx0) hbb1); clear HOx0; have HOx0 := HOx0'; clear HOx0'
          have HOx1' := hide (own_below (unhide HOx1) hbb1); clear HOx1; have HOx1 := HOx1'; clear HOx1'
          have HOx2' := hide (own_below (unhide HOx2) hbb1); clear HOx2; have HOx2 := HOx2'; clear HOx2'
          have HW' := hide ((unhide HW).trans (hbb1.mono (unhide HW).size)); clear HW; have HW := HW'; clear HW'
          have hltb1 := hob1.lt gb1 rfl
          have HOb1 := hide hob1
          clear hob1 hbb1
          go_wp2_with fail
          refine (eqIntS_same _ _ _ _ _ _ _ rs1 w11 (unhide HOx1) (unhide HOb1) hh1).mono ?_
          rintro e w12 ⟨rfl, hq⟩
          have hz_w12 := hq.size
          have HOx0' := hide (own_below (unhide HOx0) hq); clear HOx0; have HOx0 := HOx0'; clear HOx0'
          have HOx1' := hide (own_below (unhide HOx1) hq); clear HOx1; have HOx1 := HOx1'; clear HOx1'
          have HOx2' := hide (own_below (unhide HOx2) hq); clear HOx2; have HOx2 := HOx2'; clear HOx2'
          have HOb1' := hide (own_below (unhide HOb1) hq); clear HOb1; have HOb1 := HOb1'; clear HOb1'
          have HW' := hide ((unhide HW).trans (hq.mono (unhide HW).size)); clear HW; have HW := HW'; clear HW'
          clear hq
          clear HOb1
          go_wp2_with fail
          refine (toIntS_any A2 n2 c2 rs2 w12 ((unhide HA2).below (unhide HW)) hh2).mono ?_
          rintro e w13 ⟨gb2, rfl, hob2, hbb2⟩
          have hz_w13 := hbb2.size
          have HOx0' := hide (own_below (unhide HOx0) hbb2); clear HOx0; have HOx0 := HOx0'; clear HOx0'
          have HOx1' := hide (own_below (unhide HOx1) hbb2); clear HOx1; have HOx1 := HOx1'; clear HOx1'
          have HOx2' := hide (own_below (unhide HOx2) hbb2); clear HOx2; have HOx2 := HOx2'; clear HOx2'
          have HW' := hide ((unhide HW).trans (hbb2.mono (unhide HW).size)); clear HW; have HW := HW'; clear HW'
          have hltb2 := hob2.lt gb2 rfl
          have HOb2 := hide hob2
          clear hob2 hbb2
          go_wp2_with fail
          refine (eqIntS_same _ _ _ _ _ _ _ rs2 w13 (unhide HOx2) (unhide HOb2) hh2).mono ?_
          rintro e w14 ⟨rfl, hq⟩
          have hz_w14 := hq.size
          have HOx0' := hide (own_below (unhide HOx0) hq); clear HOx0; have HOx0 := HOx0'; clear HOx0'
          have HOx1' := hide (own_below (unhide HOx1) hq); clear HOx1; have HOx1 := HOx1'; clear HOx1'
          have HOx2' := hide (own_below (unhide HOx2) hq); clear HOx2; have HOx2 := HOx2'; clear HOx2'
          have HOb2' := hide (own_below (unhide HOb2) hq); clear HOb2; have HOb2 := HOb2'; clear HOb2'
          have HW' := hide ((unhide HW).trans (hq.mono (unhide HW).size)); clear HW; have HW := HW'; clear HW'
          clear hq
          clear HOb2
          go_wp2_with fail
          go_ret
          exact ⟨rfl, unhide HW⟩
end Go.Proofs.Ytjggjegjhcpjhaa

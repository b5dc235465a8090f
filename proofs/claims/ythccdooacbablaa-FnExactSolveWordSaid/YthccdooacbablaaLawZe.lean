/-
  Laws of functions of several slices.
-/
import Derived.Test.YthccdooacbablaaZw
import Derived.Test.YthccdooacbablaaLw
import Derived.Test.YthccdooacbablaaNl
import Derived.Test.YthccdooacbablaaRi
namespace Go.Proofs.Ythccdooacbablaa
open Go.RowKit Rm

set_option maxRecDepth 100000 in
set_option maxHeartbeats 3200000 in
theorem lawSolveWord (A0 : Option Addr) (n0 c0 : Nat) (ps0 : List Pt) (A1 : Option Addr) (n1 c1 : Nat) (rs1 : List Int) (w : World) (ha0 : ArgP w A0 n0 ps0) (hn0 : n0 ≤ maxLen) (ha1 : ArgI w A1 n1 rs1) (_hn1 : n1 ≤ maxLen) :
    Calls Try.prog 4 #[.slice A0 n0 c0, .slice A1 n1 c1] w fun e w' => e = .returned (.bool true) ∧ Below w.heap.size w w' := by
  have hsz0 := fun (h0 : (0 : Int) ≤ 1048576) W => szPointS_left A0 n0 c0 (1048576) hn0 h0 (by omega) W
  by_cases hs1 : (n1 : Int) ≤ 1048576
  case neg =>
    have hl1 : decide ((n1 : Int) > 1048576) = true := decide_eq_true (by omega)
    clear hsz0 ha0 ha1
    go_enter Try.func4, Try.ntmps4
    go_wp2_with fail
    go_ret
    exact ⟨rfl, Below.refl _ _⟩
  case pos =>
    have hl1 : decide ((n1 : Int) > 1048576) = false := decide_eq_false (by omega)
    by_cases hs0 : (n0 : Int) ≤ 1048576
    case neg =>
      have hq0 := hsz0 (by omega)
      rw [if_neg hs0] at hq0
      have HQ0 := hide hq0
      clear hq0
      clear hsz0 ha0 ha1
      go_enter Try.func4, Try.ntmps4
      go_wp2_with fail
      refine ((unhide HQ0) _).mono ?_
      rintro e w' ⟨rfl, rfl⟩
      go_wp2_with fail
      go_ret
      exact ⟨rfl, Below.refl _ _⟩
    case pos =>
      have hh1 : n1 ≤ 1048576 := by omega
      have HA1 := hide ha1
      clear ha1
      have hq0 := hsz0 (by omega)
      rw [if_pos hs0] at hq0
      have HQ0 := hide hq0
      have hk0 : decide (1048576 - (n0 : Int) < 0) = false := decide_eq_false (by omega)
      have hh0 : n0 ≤ 1048576 := by omega
      have HA0 := hide ha0
      clear hq0 hsz0 ha0
      have hsv := fun (W : World) (g0 base0 : Nat) (g1 base1 : Nat) hW0 hW1 => sSolveWord_any (some ⟨g0, 0, none⟩) n0 n0 base0 ps0 g1 n1 n1 base1 rs1 W hW0 hh0 hW1 hh1
      have hiv := fun (W : World) (g0 base0 : Nat) (g1 base1 : Nat) hW0 hW1 => iSolveWord_any (some ⟨g0, 0, none⟩) n0 n0 base0 ps0 g1 n1 n1 base1 rs1 W hW0 hh0 hW1 hh1
      generalize oN (svO ps0 rs1) = u0 at *
      generalize oD (svO ps0 rs1) = v0 at *
      generalize (svO ps0 rs1).isSome = z1 at *
      have HSV := hide hsv; have HIV := hide hiv; clear hsv hiv
      cases z1
      all_goals
        go_enter Try.func4, Try.ntmps4
        go_wp2_with fail
        refine ((unhide HQ0) _).mono ?_
        rintro e w' ⟨rfl, rfl⟩
        go_wp2_with fail
        refine (toPointS_any A0 n0 c0 ps0 w (unhide HA0) hh0).mono ?_
        rintro e w1 ⟨ga0, rfl, hoa0, hba0⟩
        have hz_w1 := hba0.size
        have HW := hide hba0
        have hlta0 := hoa0.lt ga0 rfl
        have HOa0 := hide hoa0
        clear hoa0 hba0
        go_wp2_with fail
        refine (toIntS_any A1 n1 c1 rs1 w1 ((unhide HA1).below (unhide HW)) hh1).mono ?_
        rintro e w2 ⟨ga1, rfl, hoa1, hba1⟩
        have hz_w2 := hba1.size
        have HOa0' := hide (own_below (unhide HOa0) hba1); clear HOa0; have HOa0 := HOa0'; clear HOa0'
        have HW' := hide ((unhide HW).trans (hba1.mono (unhide HW).size)); clear HW; have HW := HW'; clear HW'
        have hlta1 := hoa1.lt ga1 rfl
        have HOa1 := hide hoa1
        clear hoa1 hba1
        go_wp2_with fail
        refine ((unhide HSV) w2 ga0 _ ga1 _ (unhide HOa0) (unhide HOa1)).mono ?_
        rintro e w3 ⟨rfl, hbS⟩
        have hz_w3 := hbS.size
        have HOa0' := hide (own_below (unhide HOa0) hbS); clear HOa0; have HOa0 := HOa0'; clear HOa0'
        have HOa1' := hide (own_below (unhide HOa1) hbS); clear HOa1; have HOa1 := HOa1'; clear HOa1'
        have HW' := hide ((unhide HW).trans (hbS.mono (unhide HW).size)); clear HW; have HW := HW'; clear HW'
        clear hbS
        go_wp2_with fail
        have hbxS : Below w3.heap.size w3 (w3.alloc (.cells #[.int .i64 u0, .int .i64 v0] 26)) := (by repeat (first | with_reducible exact Below.refl _ _ | with_reducible assumption | (with_reducible refine Below.trans ?_ (Below.mono (by assumption) (by first | omega | (simp <;> omega)))) | with_reducible apply Below.drew | with_reducible apply below_drewN | (with_reducible refine Below.alloc ?_ (by first | omega | (simp <;> omega)) _) | (with_reducible refine Below.setCell ?_ (by first | omega | (simp <;> omega)) _)))
        have cS0 : (w3.alloc (.cells #[.int .i64 u0, .int .i64 v0] 26)).cell? ⟨w3.heap.size, 0, none⟩ = some (.int .i64 u0) := by simp [go_sem]
        have cS1 : (w3.alloc (.cells #[.int .i64 u0, .int .i64 v0] 26)).cell? ⟨w3.heap.size, 1, none⟩ = some (.int .i64 v0) := by simp [go_sem]
        have hXS : w3.heap.size < (w3.alloc (.cells #[.int .i64 u0, .int .i64 v0] 26)).heap.size := by (simp <;> omega)
        generalize (w3.alloc (.cells #[.int .i64 u0, .int .i64 v0] 26)) = w4 at *
        have hz_w4 := hbxS.size
        have HOa0' := hide (own_below (unhide HOa0) hbxS); clear HOa0; have HOa0 := HOa0'; clear HOa0'
        have HOa1' := hide (own_below (unhide HOa1) hbxS); clear HOa1; have HOa1 := HOa1'; clear HOa1'
        have HW' := hide ((unhide HW).trans (hbxS.mono (unhide HW).size)); clear HW; have HW := HW'; clear HW'
        clear hbxS
        generalize hXeS : w3.heap.size = XS at *
        clear HOa0
        clear HOa1
        refine (toPointS_any A0 n0 c0 ps0 w4 ((unhide HA0).below (unhide HW)) hh0).mono ?_
        rintro e w5 ⟨gx0, rfl, hox0, hbx0⟩
        have hz_w5 := hbx0.size
        have hXSn := Nat.lt_of_lt_of_le hXS hbx0.size
        have cS0n := (hbx0.cell (p := ⟨XS, 0, none⟩) hXS).trans cS0; clear cS0; have cS0 := cS0n; clear cS0n
        have cS1n := (hbx0.cell (p := ⟨XS, 1, none⟩) hXS).trans cS1; clear cS1; have cS1 := cS1n; clear cS1n
        clear hXS; have hXS := hXSn; clear hXSn
        have HW' := hide ((unhide HW).trans (hbx0.mono (unhide HW).size)); clear HW; have HW := HW'; clear HW'
        have hltx0 := hox0.lt gx0 rfl
        have HOx0 := hide hox0
        clear hox0 hbx0
        go_wp2_with fail
        refine (toIntS_any A1 n1 c1 rs1 w5 ((unhide HA1).below (unhide HW)) hh1).mono ?_
        rintro e w6 ⟨gx1, rfl, hox1, hbx1⟩
        have hz_w6 := hbx1.size
        have HOx0' := hide (own_below (unhide HOx0) hbx1); clear HOx0; have HOx0 := HOx0'; clear HOx0'
        have hXSn := Nat.lt_of_lt_of_le hXS hbx1.size
        have cS0n := (hbx1.cell (p := ⟨XS, 0, none⟩) hXS).trans cS0; clear cS0; have cS0 := cS0n; clear cS0n
        have cS1n := (hbx1.cell (p := ⟨XS, 1, none⟩) hXS).trans cS1; clear cS1; have cS1 := cS1n; clear cS1n
        clear hXS; have hXS := hXSn; clear hXSn
        have HW' := hide ((unhide HW).trans (hbx1.mono (unhide HW).size)); clear HW; have HW := HW'; clear HW'
        have hltx1 := hox1.lt gx1 rfl
        have HOx1 := hide hox1
        clear hox1 hbx1
        go_wp2_with fail
        refine ((unhide HIV) w6 gx0 _ gx1 _ (unhide HOx0) (unhide HOx1)).mono ?_
        rintro e w7 ⟨rfl, hbG⟩
        have hz_w7 := hbG.size
        have HOx0' := hide (own_below (unhide HOx0) hbG); clear HOx0; have HOx0 := HOx0'; clear HOx0'
        have HOx1' := hide (own_below (unhide HOx1) hbG); clear HOx1; have HOx1 := HOx1'; clear HOx1'
        have hXSn := Nat.lt_of_lt_of_le hXS hbG.size
        have cS0n := (hbG.cell (p := ⟨XS, 0, none⟩) hXS).trans cS0; clear cS0; have cS0 := cS0n; clear cS0n
        have cS1n := (hbG.cell (p := ⟨XS, 1, none⟩) hXS).trans cS1; clear cS1; have cS1 := cS1n; clear cS1n
        clear hXS; have hXS := hXSn; clear hXSn
        have HW' := hide ((unhide HW).trans (hbG.mono (unhide HW).size)); clear HW; have HW := HW'; clear HW'
        clear hbG
        go_wp2_with fail
        have hbxG : Below w7.heap.size w7 (w7.alloc (.cells #[.int .i64 u0, .int .i64 v0] 26)) := (by repeat (first | with_reducible exact Below.refl _ _ | with_reducible assumption | (with_reducible refine Below.trans ?_ (Below.mono (by assumption) (by first | omega | (simp <;> omega)))) | with_reducible apply Below.drew | with_reducible apply below_drewN | (with_reducible refine Below.alloc ?_ (by first | omega | (simp <;> omega)) _) | (with_reducible refine Below.setCell ?_ (by first | omega | (simp <;> omega)) _)))
        have cG0 : (w7.alloc (.cells #[.int .i64 u0, .int .i64 v0] 26)).cell? ⟨w7.heap.size, 0, none⟩ = some (.int .i64 u0) := by simp [go_sem]
        have cG1 : (w7.alloc (.cells #[.int .i64 u0, .int .i64 v0] 26)).cell? ⟨w7.heap.size, 1, none⟩ = some (.int .i64 v0) := by simp [go_sem]
        have hXG : w7.heap.size < (w7.alloc (.cells #[.int .i64 u0, .int .i64 v0] 26)).heap.size := by (simp <;> omega)
        generalize (w7.alloc (.cells #[.int .i64 u0, .int .i64 v0] 26)) = w8 at *
        have hz_w8 := hbxG.size
        have HOx0' := hide (own_below (unhide HOx0) hbxG); clear HOx0; have HOx0 := HOx0'; clear HOx0'
        have HOx1' := hide (own_below (unhide HOx1) hbxG); clear HOx1; have HOx1 := HOx1'; clear HOx1'
        have hXSn := Nat.lt_of_lt_of_le hXS hbxG.size
        have cS0n := (hbxG.cell (p := ⟨XS, 0, none⟩) hXS).trans cS0; clear cS0; have cS0 := cS0n; clear cS0n
        have cS1n := (hbxG.cell (p := ⟨XS, 1, none⟩) hXS).trans cS1; clear cS1; have cS1 := cS1n; clear cS1n
        clear hXS; have hXS := hXSn; clear hXSn
        have HW' := hide ((unhide HW).trans (hbxG.mono (unhide HW).size)); clear HW; have HW := HW'; clear HW'
        clear hbxG
        generalize hXeG : w7.heap.size = XG at *
        refine (eqRat_same u0 v0 w8).mono ?_
        rintro e w9 ⟨rfl, hq⟩
        have hz_w9 := hq.size
        have HOx0' := hide (own_below (unhide HOx0) hq); clear HOx0; have HOx0 := HOx0'; clear HOx0'
        have HOx1' := hide (own_below (unhide HOx1) hq); clear HOx1; have HOx1 := HOx1'; clear HOx1'
        have hXSn := Nat.lt_of_lt_of_le hXS hq.size
        have cS0n := (hq.cell (p := ⟨XS, 0, none⟩) hXS).trans cS0; clear cS0; have cS0 := cS0n; clear cS0n
        have cS1n := (hq.cell (p := ⟨XS, 1, none⟩) hXS).trans cS1; clear cS1; have cS1 := cS1n; clear cS1n
        clear hXS; have hXS := hXSn; clear hXSn
        have hXGn := Nat.lt_of_lt_of_le hXG hq.size
        have cG0n := (hq.cell (p := ⟨XG, 0, none⟩) hXG).trans cG0; clear cG0; have cG0 := cG0n; clear cG0n
        have cG1n := (hq.cell (p := ⟨XG, 1, none⟩) hXG).trans cG1; clear cG1; have cG1 := cG1n; clear cG1n
        clear hXG; have hXG := hXGn; clear hXGn
        have HW' := hide ((unhide HW).trans (hq.mono (unhide HW).size)); clear HW; have HW := HW'; clear HW'
        clear hq
        clear cS0 cS1 hXS cG0 cG1 hXG
        go_wp2_with fail
        refine (toPointS_any A0 n0 c0 ps0 w9 ((unhide HA0).below (unhide HW)) hh0).mono ?_
        rintro e w10 ⟨gb0, rfl, hob0, hbb0⟩
        have hz_w10 := hbb0.size
        have HOx0' := hide (own_below (unhide HOx0) hbb0); clear HOx0; have HOx0 := HOx0'; clear HOx0'
        have HOx1' := hide (own_below (unhide HOx1) hbb0); clear HOx1; have HOx1 := HOx1'; clear HOx1'
        have HW' := hide ((unhide HW).trans (hbb0.mono (unhide HW).size)); clear HW; have HW := HW'; clear HW'
        have hltb0 := hob0.lt gb0 rfl
        have HOb0 := hide hob0
        clear hob0 hbb0
        go_wp2_with fail
        refine (eqPointS_same _ _ _ _ _ _ _ ps0 w10 (unhide HOx0) (unhide HOb0) hh0).mono ?_
        rintro e w11 ⟨rfl, hq⟩
        have hz_w11 := hq.size
        have HOx0' := hide (own_below (unhide HOx0) hq); clear HOx0; have HOx0 := HOx0'; clear HOx0'
        have HOx1' := hide (own_below (unhide HOx1) hq); clear HOx1; have HOx1 := HOx1'; clear HOx1'
        have HOb0' := hide (own_below (unhide HOb0) hq); clear HOb0; have HOb0 := HOb0'; clear HOb0'
        have HW' := hide ((unhide HW).trans (hq.mono (unhide HW).size)); clear HW; have HW := HW'; clear HW'
        clear hq
        clear HOb0
        go_wp2_with fail
        refine (toIntS_any A1 n1 c1 rs1 w11 ((unhide HA1).below (unhide HW)) hh1).mono ?_
        rintro e w12 ⟨gb1, rfl, hob1, hbb1⟩
        have hz_w12 := hbb1.size
        have HOx0' := hide (own_below (unhide HOx0) hbb1); clear HOx0; have HOx0 := HOx0'; clear HOx0'
        have HOx1' := hide (own_below (unhide HOx1) hbb1); clear HOx1; have HOx1 := HOx1'; clear HOx1'
        have HW' := hide ((unhide HW).trans (hbb1.mono (unhide HW).size)); clear HW; have HW := HW'; clear HW'
        have hltb1 := hob1.lt gb1 rfl
        have HOb1 := hide hob1
        clear hob1 hbb1
        go_wp2_with fail
        refine (eqIntS_same _ _ _ _ _ _ _ rs1 w12 (unhide HOx1) (unhide HOb1) hh1).mono ?_
        rintro e w13 ⟨rfl, hq⟩
        have hz_w13 := hq.size
        have HOx0' := hide (own_below (unhide HOx0) hq); clear HOx0; have HOx0 := HOx0'; clear HOx0'
        have HOx1' := hide (own_below (unhide HOx1) hq); clear HOx1; have HOx1 := HOx1'; clear HOx1'
        have HOb1' := hide (own_below (unhide HOb1) hq); clear HOb1; have HOb1 := HOb1'; clear HOb1'
        have HW' := hide ((unhide HW).trans (hq.mono (unhide HW).size)); clear HW; have HW := HW'; clear HW'
        clear hq
        clear HOb1
        go_wp2_with fail
        go_ret
        exact ⟨rfl, unhide HW⟩
end Go.Proofs.Ythccdooacbablaa

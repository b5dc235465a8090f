/-
  Laws of functions of several slices.
-/
import Derived.Test.YtgkbogcmmedmbaaEv
import Derived.Test.YtgkbogcmmedmbaaLw
namespace Go.Proofs.Ytgkbogcmmedmbaa
open Go.RowKit Rm

set_option maxRecDepth 100000 in
set_option maxHeartbeats 3200000 in
theorem lawJoinMaps (A0 : Option Addr) (n0 c0 : Nat) (ps0 : List Pt) (A1 : Option Addr) (n1 c1 : Nat) (ps1 : List Pt) (a2 b2 : Int) (w : World) (ha0 : ArgP w A0 n0 ps0) (hn0 : n0 ≤ maxLen) (ha1 : ArgP w A1 n1 ps1) (hn1 : n1 ≤ maxLen) :
    Calls Try.prog 5 #[.slice A0 n0 c0, .slice A1 n1 c1, .agg #[.int .i64 (a2), .int .i64 (b2)]] w fun e w' => e = .returned (.bool true) ∧ Below w.heap.size w w' := by
  have hsz0 := fun (h0 : (0 : Int) ≤ 1048576) W => szPointS_left A0 n0 c0 (1048576) hn0 h0 (by omega) W
  have hsz1 := fun (h0 : (0 : Int) ≤ 1048576 - (n0 : Int)) W => szPointS_left A1 n1 c1 (1048576 - (n0 : Int)) hn1 h0 (by omega) W
  by_cases hs0 : (n0 : Int) ≤ 1048576
  case neg =>
    have hq0 := hsz0 (by omega)
    rw [if_neg hs0] at hq0
    have HQ0 := hide hq0
    clear hq0
    clear hsz0 ha0 hsz1 ha1
    go_enter Try.func5, Try.ntmps5
    go_wp2_with fail
    refine ((unhide HQ0) _).mono ?_
    rintro e w' ⟨rfl, rfl⟩
    go_wp2_with fail
    go_ret
    exact ⟨rfl, (by repeat (first | with_reducible exact Below.refl _ _ | with_reducible assumption | (with_reducible refine Below.trans ?_ (Below.mono (by assumption) (by first | omega | (simp <;> omega)))) | with_reducible apply Below.drew | with_reducible apply below_drewN | (with_reducible refine Below.alloc ?_ (by first | omega | (simp <;> omega)) _) | (with_reducible refine Below.setCell ?_ (by first | omega | (simp <;> omega)) _)))⟩
  case pos =>
    by_cases hs1 : (n1 : Int) ≤ 1048576 - (n0 : Int)
    case neg =>
      have hq0 := hsz0 (by omega)
      rw [if_pos hs0] at hq0
      have HQ0 := hide hq0
      clear hq0
      have hk0 : decide (1048576 - (n0 : Int) < 0) = false := decide_eq_false (by omega)
      have hq1 := hsz1 (by omega)
      rw [if_neg hs1] at hq1
      have HQ1 := hide hq1
      clear hq1
      clear hsz0 ha0 hsz1 ha1
      go_enter Try.func5, Try.ntmps5
      go_wp2_with fail
      refine ((unhide HQ0) _).mono ?_
      rintro e w' ⟨rfl, rfl⟩
      go_wp2_with fail
      refine ((unhide HQ1) _).mono ?_
      rintro e w' ⟨rfl, rfl⟩
      go_wp2_with fail
      go_ret
      exact ⟨rfl, (by repeat (first | with_reducible exact Below.refl _ _ | with_reducible assumption | (with_reducible refine Below.trans ?_ (Below.mono (by assumption) (by first | omega | (simp <;> omega)))) | with_reducible apply Below.drew | with_reducible apply below_drewN | (with_reducible refine Below.alloc ?_ (by first | omega | (simp <;> omega)) _) | (with_reducible refine Below.setCell ?_ (by first | omega | (simp <;> omega)) _)))⟩
    case pos =>
      have hq0 := hsz0 (by omega)
      rw [if_pos hs0] at hq0
      have HQ0 := hide hq0
      have hk0 : decide (1048576 - (n0 : Int) < 0) = false := decide_eq_false (by omega)
      have hh0 : n0 ≤ 1048576 := by omega
      have HA0 := hide ha0
      clear hq0 hsz0 ha0
      have hq1 := hsz1 (by omega)
      rw [if_pos hs1] at hq1
      have HQ1 := hide hq1
      have hk1 : decide (1048576 - (n0 : Int) - (n1 : Int) < 0) = false := decide_eq_false (by omega)
      have hh1 : n1 ≤ 1048576 := by omega
      have HA1 := hide ha1
      clear hq1 hsz1 ha1
      have hsv := fun (W : World) (g0 base0 : Nat) (g1 base1 : Nat) hW0 hW1 => sJoinMaps_any (some ⟨g0, 0, none⟩) n0 n0 base0 ps0 (some ⟨g1, 0, none⟩) n1 n1 base1 ps1 a2 b2 W hW0 hh0 hW1 hh1
      have hiv := fun (W : World) (g0 base0 : Nat) (g1 base1 : Nat) hW0 hW1 => iJoinMaps_any (some ⟨g0, 0, none⟩) n0 n0 base0 ps0 (some ⟨g1, 0, none⟩) n1 n1 base1 ps1 a2 b2 W hW0 hh0 hW1 hh1
      have hxl := JoinMaps_len ps0 ps1 a2 b2
      generalize ((jnM ps0 ps1 a2 b2).getD []).map qp = xs at *
      generalize (jnM ps0 ps1 a2 b2).isSome = z at *
      have HSV := hide hsv; have HIV := hide hiv; clear hsv hiv
      cases z
      all_goals
        go_enter Try.func5, Try.ntmps5
        go_wp2_with fail
        refine ((unhide HQ0) _).mono ?_
        rintro e w' ⟨rfl, rfl⟩
        go_wp2_with fail
        refine ((unhide HQ1) _).mono ?_
        rintro e w' ⟨rfl, rfl⟩
        go_upto_region 8 with fail
        have hbb : Below w.heap.size w (w.alloc (.cells #[.int .i64 a2, .int .i64 b2] 35)) := (by repeat (first | with_reducible exact Below.refl _ _ | with_reducible assumption | (with_reducible refine Below.trans ?_ (Below.mono (by assumption) (by first | omega | (simp <;> omega)))) | with_reducible apply Below.drew | with_reducible apply below_drewN | (with_reducible refine Below.alloc ?_ (by first | omega | (simp <;> omega)) _) | (with_reducible refine Below.setCell ?_ (by first | omega | (simp <;> omega)) _)))
        have cb0 : (w.alloc (.cells #[.int .i64 a2, .int .i64 b2] 35)).cell? ⟨w.heap.size, 0, none⟩ = some (.int .i64 a2) := by simp [go_sem]
        have cb1 : (w.alloc (.cells #[.int .i64 a2, .int .i64 b2] 35)).cell? ⟨w.heap.size, 1, none⟩ = some (.int .i64 b2) := by simp [go_sem]
        have hwbl : w.heap.size < (w.alloc (.cells #[.int .i64 a2, .int .i64 b2] 35)).heap.size := by simp
        generalize (w.alloc (.cells #[.int .i64 a2, .int .i64 b2] 35)) = wb at *
        have HC0 := hide ((unhide HA0).below hbb)
        have HC1 := hide ((unhide HA1).below hbb)
        have HBB := hide hbb; clear hbb HA0 HA1
        have HW := hide (Below.refl wb.heap.size wb)
        have HA0 := HC0
        have HA1 := HC1
        go_upto_region 8 with fail
        go_cut [8, 9] (fun s8 s9 wx => s9 = .bool _ ∧ ∃ (BS : Option Addr) (dS : Nat), s8 = .slice BS xs.length dS ∧ wx.ownsRow wb.heap.size 43 4 (.slice BS xs.length dS) xs.length (ptcs xs) ∧ Below wb.heap.size wb wx)
        case first =>
          go_region_held3 (fun w' => w'.cell? ⟨w.heap.size, 0, none⟩ = some (.int .i64 a2) ∧ w'.cell? ⟨w.heap.size, 1, none⟩ = some (.int .i64 b2)) (simp [go_sem, *])
            (first
              | (go_at_call 9; (with_reducible refine (toPointS_any A0 n0 c0 ps0 _ ((unhide HC0).below ?pb) hh0).mono ?_); (case pb => exact (by repeat (first | with_reducible exact Below.refl _ _ | with_reducible assumption | (with_reducible refine Below.trans ?_ (Below.mono (by assumption) (by first | omega | (simp <;> omega)))) | with_reducible apply Below.drew | with_reducible apply below_drewN | (with_reducible refine Below.alloc ?_ (by first | omega | (simp <;> omega)) _) | (with_reducible refine Below.setCell ?_ (by first | omega | (simp <;> omega)) _)))); rintro e wrS0 ⟨gr0, rfl, hor0, hbwrS0⟩; have hzrS0 := hbwrS0.size; (try simp at hzrS0); (skip; (try ((have kwrS0w.heap.sizeX0 := (bnew hbwrS0) (w.heap.size) ?pf); (case pf => (first | omega | (simp; done) | (simp; omega))); obtain ⟨kcwrS0w.heap.sizeX0, kfwrS0w.heap.sizeX0, klwrS0w.heap.sizeX0⟩ := kwrS0w.heap.sizeX0))); have HOr0 := hide hor0; clear hor0)
              | (go_at_call 9; (with_reducible refine (toPointS_any A1 n1 c1 ps1 _ ((unhide HC1).below ?pb) hh1).mono ?_); (case pb => exact (by repeat (first | with_reducible exact Below.refl _ _ | with_reducible assumption | (with_reducible refine Below.trans ?_ (Below.mono (by assumption) (by first | omega | (simp <;> omega)))) | with_reducible apply Below.drew | with_reducible apply below_drewN | (with_reducible refine Below.alloc ?_ (by first | omega | (simp <;> omega)) _) | (with_reducible refine Below.setCell ?_ (by first | omega | (simp <;> omega)) _)))); rintro e wrS1 ⟨gr1, rfl, hor1, hbwrS1⟩; have hzrS1 := hbwrS1.size; (try simp at hzrS1); (skip; (try ((have kwrS1w.heap.sizeX0 := (bnew hbwrS1) (w.heap.size) ?pf); (case pf => (first | omega | (simp; done) | (simp; omega))); obtain ⟨kcwrS1w.heap.sizeX0, kfwrS1w.heap.sizeX0, klwrS1w.heap.sizeX0⟩ := kwrS1w.heap.sizeX0))); have HOr1 := hide hor1; clear hor1)
              | (go_at_call 16; (with_reducible refine (toRat_any a2 b2 _).mono ?_); rintro e wqS ⟨rfl, hbwqS⟩; obtain ⟨hcwqS, hfwqS⟩ := bcell hbwqS; have hzwqS := hbwqS.size; (try simp at hzwqS); (try ((have kwqSw.heap.sizeX0 := (bnew hbwqS) (w.heap.size) ?pf); (case pf => (first | omega | (simp; done) | (simp; omega))); obtain ⟨kcwqSw.heap.sizeX0, kfwqSw.heap.sizeX0, klwqSw.heap.sizeX0⟩ := kwqSw.heap.sizeX0)))
              | (go_at_call 15; (with_reducible refine ((unhide HSV) _ gr0 _ gr1 _ (own_below (unhide HOr0) ?pb0) (own_below (unhide HOr1) ?pb1)).mono ?_); (case pb0 => exact (by repeat (first | with_reducible exact Below.refl _ _ | with_reducible assumption | (with_reducible refine Below.trans ?_ (Below.mono (by assumption) (by first | omega | (simp <;> omega)))) | with_reducible apply Below.drew | with_reducible apply below_drewN | (with_reducible refine Below.alloc ?_ (by first | omega | (simp <;> omega)) _) | (with_reducible refine Below.setCell ?_ (by first | omega | (simp <;> omega)) _)))); (case pb1 => exact (by repeat (first | with_reducible exact Below.refl _ _ | with_reducible assumption | (with_reducible refine Below.trans ?_ (Below.mono (by assumption) (by first | omega | (simp <;> omega)))) | with_reducible apply Below.drew | with_reducible apply below_drewN | (with_reducible refine Below.alloc ?_ (by first | omega | (simp <;> omega)) _) | (with_reducible refine Below.setCell ?_ (by first | omega | (simp <;> omega)) _)))); rintro e wzS ⟨⟨BS, dS, rfl, hoS⟩, hbwzS⟩; have hzzS := hbwzS.size; (try simp at hzzS); (skip; (try ((have kwzSw.heap.sizeX0 := (bnew hbwzS) (w.heap.size) ?pf); (case pf => (first | omega | (simp; done) | (simp; omega))); obtain ⟨kcwzSw.heap.sizeX0, kfwzSw.heap.sizeX0, klwzSw.heap.sizeX0⟩ := kwzSw.heap.sizeX0))); have HOS := hide hoS; clear hoS))
          all_goals
            go_wp2_with fail
            go_meet
            exact ⟨rfl, _, _, rfl, (unhide HOS).mono (by omega), (by repeat (first | with_reducible exact Below.refl _ _ | with_reducible assumption | (with_reducible refine Below.trans ?_ (Below.mono (by assumption) (by first | omega | (simp <;> omega)))) | with_reducible apply Below.drew | with_reducible apply below_drewN | (with_reducible refine Below.alloc ?_ (by first | omega | (simp <;> omega)) _) | (with_reducible refine Below.setCell ?_ (by first | omega | (simp <;> omega)) _)))⟩
        case rest =>
        obtain ⟨rfl, BS, dS, rfl, hoS, hbS⟩ := hcut
        obtain ⟨w1, rfl⟩ : ∃ x, x = wc := ⟨wc, rfl⟩
        have hz_w1 := hbS.size
        have HW' := hide ((unhide HW).trans (hbS.mono (unhide HW).size)); clear HW; have HW := HW'; clear HW'
        have HLS := hide hoS.lt
        have HOS := hide hoS
        clear hoS hbS
        clear HC0
        clear HC1
        go_wp2_with fail
        refine (toPointS_any A0 n0 c0 ps0 w1 ((unhide HA0).below (unhide HW)) hh0).mono ?_
        rintro e w2 ⟨gx0, rfl, hox0, hbx0⟩
        have hz_w2 := hbx0.size
        have HOS' := hide (own_below (unhide HOS) hbx0); clear HOS; have HOS := HOS'; clear HOS'
        have HW' := hide ((unhide HW).trans (hbx0.mono (unhide HW).size)); clear HW; have HW := HW'; clear HW'
        have hltx0 := hox0.lt gx0 rfl
        have HOx0 := hide hox0
        clear hox0 hbx0
        go_wp2_with fail
        refine (toPointS_any A1 n1 c1 ps1 w2 ((unhide HA1).below (unhide HW)) hh1).mono ?_
        rintro e w3 ⟨gx1, rfl, hox1, hbx1⟩
        have hz_w3 := hbx1.size
        have HOS' := hide (own_below (unhide HOS) hbx1); clear HOS; have HOS := HOS'; clear HOS'
        have HOx0' := hide (own_below (unhide HOx0) hbx1); clear HOx0; have HOx0 := HOx0'; clear HOx0'
        have HW' := hide ((unhide HW).trans (hbx1.mono (unhide HW).size)); clear HW; have HW := HW'; clear HW'
        have hltx1 := hox1.lt gx1 rfl
        have HOx1 := hide hox1
        clear hox1 hbx1
        have xq0 := ((unhide HW).cell (p := ⟨w.heap.size, 0, none⟩) hwbl).trans cb0
        have xq1 := ((unhide HW).cell (p := ⟨w.heap.size, 1, none⟩) hwbl).trans cb1
        have hwx : w.heap.size < w3.heap.size := Nat.lt_of_lt_of_le hwbl (unhide HW).size
        go_wp2_with ((go_at_call 16; (with_reducible refine (toRat_any a2 b2 _).mono ?_); rintro e w4 ⟨rfl, hbw4⟩; obtain ⟨hcw4, hfw4⟩ := bcell hbw4; have hzw4 := hbw4.size; (try simp at hzw4)))
        have HOS' := hide (own_below (unhide HOS) hbw4); clear HOS; have HOS := HOS'; clear HOS'
        have HOx0' := hide (own_below (unhide HOx0) hbw4); clear HOx0; have HOx0 := HOx0'; clear HOx0'
        have HOx1' := hide (own_below (unhide HOx1) hbw4); clear HOx1; have HOx1 := HOx1'; clear HOx1'
        have HW' := hide ((unhide HW).trans (hbw4.mono (unhide HW).size)); clear HW; have HW := HW'; clear HW'
        clear hbw4 hcw4 hfw4 xq0 xq1 hwx
        skip
        refine ((unhide HIV) w4 gx0 _ gx1 _ (unhide HOx0) (unhide HOx1)).mono ?_
        rintro e w5 ⟨⟨BG, dG, rfl, hoG⟩, hbG⟩
        have hz_w5 := hbG.size
        have HOS' := hide (own_below (unhide HOS) hbG); clear HOS; have HOS := HOS'; clear HOS'
        have HOx0' := hide (own_below (unhide HOx0) hbG); clear HOx0; have HOx0 := HOx0'; clear HOx0'
        have HOx1' := hide (own_below (unhide HOx1) hbG); clear HOx1; have HOx1 := HOx1'; clear HOx1'
        have HW' := hide ((unhide HW).trans (hbG.mono (unhide HW).size)); clear HW; have HW := HW'; clear HW'
        have HLG := hide hoG.lt
        have HOG := hide hoG
        clear hoG hbG
        go_wp2_with fail
        refine (eqPointS_same _ _ _ _ _ _ _ xs w5 (unhide HOG) (unhide HOS) hxl).mono ?_
        rintro e w6 ⟨rfl, hq⟩
        have hz_w6 := hq.size
        have HOS' := hide (own_below (unhide HOS) hq); clear HOS; have HOS := HOS'; clear HOS'
        have HOx0' := hide (own_below (unhide HOx0) hq); clear HOx0; have HOx0 := HOx0'; clear HOx0'
        have HOx1' := hide (own_below (unhide HOx1) hq); clear HOx1; have HOx1 := HOx1'; clear HOx1'
        have HOG' := hide (own_below (unhide HOG) hq); clear HOG; have HOG := HOG'; clear HOG'
        have HW' := hide ((unhide HW).trans (hq.mono (unhide HW).size)); clear HW; have HW := HW'; clear HW'
        clear hq
        go_wp2_with fail
        refine (toPointS_any A0 n0 c0 ps0 w6 ((unhide HA0).below (unhide HW)) hh0).mono ?_
        rintro e w7 ⟨gb0, rfl, hob0, hbb0⟩
        have hz_w7 := hbb0.size
        have HOS' := hide (own_below (unhide HOS) hbb0); clear HOS; have HOS := HOS'; clear HOS'
        have HOx0' := hide (own_below (unhide HOx0) hbb0); clear HOx0; have HOx0 := HOx0'; clear HOx0'
        have HOx1' := hide (own_below (unhide HOx1) hbb0); clear HOx1; have HOx1 := HOx1'; clear HOx1'
        have HOG' := hide (own_below (unhide HOG) hbb0); clear HOG; have HOG := HOG'; clear HOG'
        have HW' := hide ((unhide HW).trans (hbb0.mono (unhide HW).size)); clear HW; have HW := HW'; clear HW'
        have hltb0 := hob0.lt gb0 rfl
        have HOb0 := hide hob0
        clear hob0 hbb0
        go_wp2_with fail
        refine (eqPointS_same _ _ _ _ _ _ _ ps0 w7 (unhide HOx0) (unhide HOb0) hh0).mono ?_
        rintro e w8 ⟨rfl, hq⟩
        have hz_w8 := hq.size
        have HOS' := hide (own_below (unhide HOS) hq); clear HOS; have HOS := HOS'; clear HOS'
        have HOx0' := hide (own_below (unhide HOx0) hq); clear HOx0; have HOx0 := HOx0'; clear HOx0'
        have HOx1' := hide (own_below (unhide HOx1) hq); clear HOx1; have HOx1 := HOx1'; clear HOx1'
        have HOG' := hide (own_below (unhide HOG) hq); clear HOG; have HOG := HOG'; clear HOG'
        have HOb0' := hide (own_below (unhide HOb0) hq); clear HOb0; have HOb0 := HOb0'; clear HOb0'
        have HW' := hide ((unhide HW).trans (hq.mono (unhide HW).size)); clear HW; have HW := HW'; clear HW'
        clear hq
        clear HOb0
        go_wp2_with fail
        refine (toPointS_any A1 n1 c1 ps1 w8 ((unhide HA1).below (unhide HW)) hh1).mono ?_
        rintro e w9 ⟨gb1, rfl, hob1, hbb1⟩
        have hz_w9 := hbb1.size
        have HOS' := hide (own_below (unhide HOS) hbb1); clear HOS; have HOS := HOS'; clear HOS'
        have HOx0' := hide (own_below (unhide HOx0) hbb1); clear HOx0; have HOx0 := HOx0'; clear HOx0'
        have HOx1' := hide (own_below (unhide HOx1) hbb1); clear HOx1; have HOx1 := HOx1'; clear HOx1'
        have HOG' := hide (own_below (unhide HOG) hbb1); clear HOG; have HOG := HOG'; clear HOG'
        have HW' := hide ((unhide HW).trans (hbb1.mono (unhide HW).size)); clear HW; have HW := HW'; clear HW'
        have hltb1 := hob1.lt gb1 rfl
        have HOb1 := hide hob1
        clear hob1 hbb1
        go_wp2_with fail
        refine (eqPointS_same _ _ _ _ _ _ _ ps1 w9 (unhide HOx1) (unhide HOb1) hh1).mono ?_
        rintro e w10 ⟨rfl, hq⟩
        have hz_w10 := hq.size
        have HOS' := hide (own_below (unhide HOS) hq); clear HOS; have HOS := HOS'; clear HOS'
        have HOx0' := hide (own_below (unhide HOx0) hq); clear HOx0; have HOx0 := HOx0'; clear HOx0'
        have HOx1' := hide (own_below (unhide HOx1) hq); clear HOx1; have HOx1 := HOx1'; clear HOx1'
        have HOG' := hide (own_below (unhide HOG) hq); clear HOG; have HOG := HOG'; clear HOG'
        have HOb1' := hide (own_below (unhide HOb1) hq); clear HOb1; have HOb1 := HOb1'; clear HOb1'
        have HW' := hide ((unhide HW).trans (hq.mono (unhide HW).size)); clear HW; have HW := HW'; clear HW'
        clear hq
        clear HOb1
        go_wp2_with fail
        refine (markPointS_from _ n0 n0 _ _ (1) w10 (unhide HOx0) hh0 (by omega) (by omega)).mono ?_
        rintro e w11 ⟨rfl, hg⟩
        have hz_w11 := hg.size
        clear HOx0
        have HOS' := hide (own_kept (unhide HOS) hg (fun k hk e => by have e1 : k = gx0 := Option.some.inj e; have e2 := (unhide HLS) k hk; omega)); clear HOS; have HOS := HOS'; clear HOS'
        have HOx1' := hide (own_kept (unhide HOx1) hg (fun k hk e => by have e1 : k = gx0 := Option.some.inj e; have e2 : gx1 = k := Option.some.inj hk; omega)); clear HOx1; have HOx1 := HOx1'; clear HOx1'
        have HOG' := hide (own_kept (unhide HOG) hg (fun k hk e => by have e1 : k = gx0 := Option.some.inj e; have e2 := (unhide HLG) k hk; omega)); clear HOG; have HOG := HOG'; clear HOG'
        have HW' := hide ((unhide HW).grown hg (unhide HW).size (fun k e => by have e1 : gx0 = k := Option.some.inj e; have e2 := (unhide HW).size; omega)); clear HW; have HW := HW'; clear HW' hg
        go_wp2_with fail
        refine (markPointS_from _ n1 n1 _ _ (1 + 4 * (n0 : Int)) w11 (unhide HOx1) hh1 (by omega) (by omega)).mono ?_
        rintro e w12 ⟨rfl, hg⟩
        have hz_w12 := hg.size
        clear HOx1
        have HOS' := hide (own_kept (unhide HOS) hg (fun k hk e => by have e1 : k = gx1 := Option.some.inj e; have e2 := (unhide HLS) k hk; omega)); clear HOS; have HOS := HOS'; clear HOS'
        have HOG' := hide (own_kept (unhide HOG) hg (fun k hk e => by have e1 : k = gx1 := Option.some.inj e; have e2 := (unhide HLG) k hk; omega)); clear HOG; have HOG := HOG'; clear HOG'
        have HW' := hide ((unhide HW).grown hg (unhide HW).size (fun k e => by have e1 : gx1 = k := Option.some.inj e; have e2 := (unhide HW).size; omega)); clear HW; have HW := HW'; clear HW' hg
        have hkk : decide (1 + 4 * (n0 : Int) + 4 * (n1 : Int) < 0) = false := decide_eq_false (by omega)
        go_wp2_with fail
        refine (eqPointS_same _ _ _ _ _ _ _ xs w12 (unhide HOG) (unhide HOS) hxl).mono ?_
        rintro e w13 ⟨rfl, hq⟩
        have hz_w13 := hq.size
        have HOS' := hide (own_below (unhide HOS) hq); clear HOS; have HOS := HOS'; clear HOS'
        have HOG' := hide (own_below (unhide HOG) hq); clear HOG; have HOG := HOG'; clear HOG'
        have HW' := hide ((unhide HW).trans (hq.mono (unhide HW).size)); clear HW; have HW := HW'; clear HW'
        clear hq
        go_wp2_with fail
        refine (markPointS_any _ _ _ _ _ w13 (unhide HOG) hxl).mono ?_
        rintro e w14 ⟨rfl, hoM, hg⟩
        have hz_w14 := hg.size
        have HOS' := hide (own_kept (unhide HOS) hg (fun k hk e => by have e1 := (unhide HLS) k hk; have e2 := (unhide HLG) k e.symm; omega)); clear HOS; have HOS := HOS'; clear HOS'
        have HW' := hide ((unhide HW).grown hg (unhide HW).size (fun k e => by have e1 := (unhide HLG) k e; have e2 := (unhide HW).size; omega)); clear HW; have HW := HW'; clear HW' hg HOG
        have HOG := hide hoM; clear hoM
        have hmm : decide (1 + 4 * (xs.length : Int) < 0) = false := decide_eq_false (by omega)
        go_wp2_with fail
        refine (heldPointS_any _ _ _ _ w14 (unhide HOG) hxl).mono ?_
        rintro e w' ⟨rfl, rfl⟩
        have HC0 := hide ((unhide HA0).below (unhide HW))
        have HC1 := hide ((unhide HA1).below (unhide HW))
        have xq0 := ((unhide HW).cell (p := ⟨w.heap.size, 0, none⟩) hwbl).trans cb0
        have xq1 := ((unhide HW).cell (p := ⟨w.heap.size, 1, none⟩) hwbl).trans cb1
        have hwx : w.heap.size < w14.heap.size := Nat.lt_of_lt_of_le hwbl (unhide HW).size
        go_upto_region 31 with fail
        go_cut [17, 18] (fun s17 s18 wx => s18 = .bool _ ∧ ∃ (BH : Option Addr) (dH : Nat), s17 = .slice BH xs.length dH ∧ wx.ownsRow w14.heap.size 43 4 (.slice BH xs.length dH) xs.length (ptcs xs) ∧ Below w14.heap.size w14 wx)
        case first =>
          go_region_held3 (fun w' => w'.cell? ⟨w.heap.size, 0, none⟩ = some (.int .i64 a2) ∧ w'.cell? ⟨w.heap.size, 1, none⟩ = some (.int .i64 b2)) (simp [go_sem, *])
            (first
              | (go_at_call 9; (with_reducible refine (toPointS_any A0 n0 c0 ps0 _ ((unhide HC0).below ?pb) hh0).mono ?_); (case pb => exact (by repeat (first | with_reducible exact Below.refl _ _ | with_reducible assumption | (with_reducible refine Below.trans ?_ (Below.mono (by assumption) (by first | omega | (simp <;> omega)))) | with_reducible apply Below.drew | with_reducible apply below_drewN | (with_reducible refine Below.alloc ?_ (by first | omega | (simp <;> omega)) _) | (with_reducible refine Below.setCell ?_ (by first | omega | (simp <;> omega)) _)))); rintro e wrH0 ⟨gr0, rfl, hor0, hbwrH0⟩; have hzrH0 := hbwrH0.size; (try simp at hzrH0); (skip; (try ((have kwrH0w.heap.sizeX0 := (bnew hbwrH0) (w.heap.size) ?pf); (case pf => (first | omega | (simp; done) | (simp; omega))); obtain ⟨kcwrH0w.heap.sizeX0, kfwrH0w.heap.sizeX0, klwrH0w.heap.sizeX0⟩ := kwrH0w.heap.sizeX0))); have HOr0 := hide hor0; clear hor0)
              | (go_at_call 9; (with_reducible refine (toPointS_any A1 n1 c1 ps1 _ ((unhide HC1).below ?pb) hh1).mono ?_); (case pb => exact (by repeat (first | with_reducible exact Below.refl _ _ | with_reducible assumption | (with_reducible refine Below.trans ?_ (Below.mono (by assumption) (by first | omega | (simp <;> omega)))) | with_reducible apply Below.drew | with_reducible apply below_drewN | (with_reducible refine Below.alloc ?_ (by first | omega | (simp <;> omega)) _) | (with_reducible refine Below.setCell ?_ (by first | omega | (simp <;> omega)) _)))); rintro e wrH1 ⟨gr1, rfl, hor1, hbwrH1⟩; have hzrH1 := hbwrH1.size; (try simp at hzrH1); (skip; (try ((have kwrH1w.heap.sizeX0 := (bnew hbwrH1) (w.heap.size) ?pf); (case pf => (first | omega | (simp; done) | (simp; omega))); obtain ⟨kcwrH1w.heap.sizeX0, kfwrH1w.heap.sizeX0, klwrH1w.heap.sizeX0⟩ := kwrH1w.heap.sizeX0))); have HOr1 := hide hor1; clear hor1)
              | (go_at_call 16; (with_reducible refine (toRat_any a2 b2 _).mono ?_); rintro e wqH ⟨rfl, hbwqH⟩; obtain ⟨hcwqH, hfwqH⟩ := bcell hbwqH; have hzwqH := hbwqH.size; (try simp at hzwqH); (try ((have kwqHw.heap.sizeX0 := (bnew hbwqH) (w.heap.size) ?pf); (case pf => (first | omega | (simp; done) | (simp; omega))); obtain ⟨kcwqHw.heap.sizeX0, kfwqHw.heap.sizeX0, klwqHw.heap.sizeX0⟩ := kwqHw.heap.sizeX0)))
              | (go_at_call 17; (with_reducible refine ((unhide HIV) _ gr0 _ gr1 _ (own_below (unhide HOr0) ?pb0) (own_below (unhide HOr1) ?pb1)).mono ?_); (case pb0 => exact (by repeat (first | with_reducible exact Below.refl _ _ | with_reducible assumption | (with_reducible refine Below.trans ?_ (Below.mono (by assumption) (by first | omega | (simp <;> omega)))) | with_reducible apply Below.drew | with_reducible apply below_drewN | (with_reducible refine Below.alloc ?_ (by first | omega | (simp <;> omega)) _) | (with_reducible refine Below.setCell ?_ (by first | omega | (simp <;> omega)) _)))); (case pb1 => exact (by repeat (first | with_reducible exact Below.refl _ _ | with_reducible assumption | (with_reducible refine Below.trans ?_ (Below.mono (by assumption) (by first | omega | (simp <;> omega)))) | with_reducible apply Below.drew | with_reducible apply below_drewN | (with_reducible refine Below.alloc ?_ (by first | omega | (simp <;> omega)) _) | (with_reducible refine Below.setCell ?_ (by first | omega | (simp <;> omega)) _)))); rintro e wzH ⟨⟨BH, dH, rfl, hoH⟩, hbwzH⟩; have hzzH := hbwzH.size; (try simp at hzzH); (skip; (try ((have kwzHw.heap.sizeX0 := (bnew hbwzH) (w.heap.size) ?pf); (case pf => (first | omega | (simp; done) | (simp; omega))); obtain ⟨kcwzHw.heap.sizeX0, kfwzHw.heap.sizeX0, klwzHw.heap.sizeX0⟩ := kwzHw.heap.sizeX0))); have HOH := hide hoH; clear hoH))
          all_goals
            go_wp2_with fail
            go_meet
            exact ⟨rfl, _, _, rfl, (unhide HOH).mono (by omega), (by repeat (first | with_reducible exact Below.refl _ _ | with_reducible assumption | (with_reducible refine Below.trans ?_ (Below.mono (by assumption) (by first | omega | (simp <;> omega)))) | with_reducible apply Below.drew | with_reducible apply below_drewN | (with_reducible refine Below.alloc ?_ (by first | omega | (simp <;> omega)) _) | (with_reducible refine Below.setCell ?_ (by first | omega | (simp <;> omega)) _)))⟩
        case rest =>
        obtain ⟨rfl, BH, dH, rfl, hoH, hbH⟩ := hcut
        obtain ⟨w15, rfl⟩ : ∃ x, x = wc := ⟨wc, rfl⟩
        have hz_w15 := hbH.size
        have HOS' := hide (own_below (unhide HOS) hbH); clear HOS; have HOS := HOS'; clear HOS'
        have HOG' := hide (own_below (unhide HOG) hbH); clear HOG; have HOG := HOG'; clear HOG'
        have HW' := hide ((unhide HW).trans (hbH.mono (unhide HW).size)); clear HW; have HW := HW'; clear HW'
        have HLH := hide hoH.lt
        have HOH := hide hoH
        clear hoH hbH
        clear xq0 xq1 hwx
        go_wp2_with fail
        refine (eqPointS_same _ _ _ _ _ _ _ xs w15 (unhide HOH) (unhide HOS) hxl).mono ?_
        rintro e w16 ⟨rfl, hq⟩
        have hz_w16 := hq.size
        have HOS' := hide (own_below (unhide HOS) hq); clear HOS; have HOS := HOS'; clear HOS'
        have HOG' := hide (own_below (unhide HOG) hq); clear HOG; have HOG := HOG'; clear HOG'
        have HOH' := hide (own_below (unhide HOH) hq); clear HOH; have HOH := HOH'; clear HOH'
        have HW' := hide ((unhide HW).trans (hq.mono (unhide HW).size)); clear HW; have HW := HW'; clear HW'
        clear hq
        go_wp2_with fail
        refine (heldPointS_any _ _ _ _ w16 (unhide HOG) hxl).mono ?_
        rintro e w' ⟨rfl, rfl⟩
        go_wp2_with fail
        go_ret
        exact ⟨rfl, (unhide HBB).trans ((unhide HW).mono (unhide HBB).size)⟩
end Go.Proofs.Ytgkbogcmmedmbaa

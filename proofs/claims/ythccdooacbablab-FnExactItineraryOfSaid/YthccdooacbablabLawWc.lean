/-
  Chapter 4: laws that give a slice of integers.
-/
import Derived.Test.YthccdooacbablabWf
import Derived.Test.YthccdooacbablabNl
namespace Go.Proofs.Ythccdooacbablab
open Go.RowKit Rm


set_option maxRecDepth 100000 in
set_option maxHeartbeats 1600000 in
theorem lawItineraryOf (A : Option Addr) (n c : Nat) (ps : List Pt) (a b m : Int) (w : World) (ha : ArgP w A n ps) (hn : n ≤ maxLen) :
    Calls Try.prog 3 #[.slice A n c, .agg #[.int .i64 (a), .int .i64 (b)], .int .i64 m] w fun e w' => e = .returned (.bool true) ∧ Below w.heap.size w w' := by
  have hsz := fun W => szPointS_any A n c hn W
  by_cases hs : n ≤ 1048576
  · rw [if_pos hs] at hsz
    have HSZ := hide hsz; clear hsz
    have HA := hide ha; clear ha
    have hsv := fun (W : World) (g base : Nat) hW => sItineraryOf_any (some ⟨g, 0, none⟩) n n base ps a b m W hW hs
    have hiv := fun (W : World) (g base : Nat) hW => iItineraryOf_any (some ⟨g, 0, none⟩) n n base ps a b m W hW hs
    have hxl := ItineraryOf_len ps a b m
    generalize itL ps a b m = xs at *
    generalize itZ ps a b m = z at *
    have HSV := hide hsv; have HIV := hide hiv; clear hsv hiv
    cases z
    all_goals
      go_enter Try.func3, Try.ntmps3
      go_upto_region 5 with (go_at_call 4; (with_reducible refine ((unhide HSZ) _).mono ?_); rintro e w' ⟨rfl, rfl⟩)
      have hbb : Below w.heap.size w (w.alloc (.cells #[.int .i64 a, .int .i64 b] 24)) := (by repeat (first | with_reducible exact Below.refl _ _ | with_reducible assumption | (with_reducible refine Below.trans ?_ (Below.mono (by assumption) (by first | omega | (simp <;> omega)))) | with_reducible apply Below.drew | with_reducible apply below_drewN | (with_reducible refine Below.alloc ?_ (by first | omega | (simp <;> omega)) _) | (with_reducible refine Below.setCell ?_ (by first | omega | (simp <;> omega)) _)))
      have cb0 : (w.alloc (.cells #[.int .i64 a, .int .i64 b] 24)).cell? ⟨w.heap.size, 0, none⟩ = some (.int .i64 a) := by simp [go_sem]
      have cb1 : (w.alloc (.cells #[.int .i64 a, .int .i64 b] 24)).cell? ⟨w.heap.size, 1, none⟩ = some (.int .i64 b) := by simp [go_sem]
      have hwbl : w.heap.size < (w.alloc (.cells #[.int .i64 a, .int .i64 b] 24)).heap.size := by simp
      generalize (w.alloc (.cells #[.int .i64 a, .int .i64 b] 24)) = wb at *
      have HA1 := hide ((unhide HA).below hbb)
      have HBB := hide hbb
      clear hbb HA
      have HA := HA1
      go_cut [8, 9] (fun s8 s9 wx => s9 = .bool _ ∧ ∃ (B1 : Option Addr) (d1 : Nat), s8 = .slice B1 xs.length d1 ∧ wx.ownsRow wb.heap.size 3 1 (.slice B1 xs.length d1) xs.length (ints xs) ∧ Below wb.heap.size wb wx)
      case first =>
        go_region_held3 (fun w' => w'.cell? ⟨w.heap.size, 0, none⟩ = some (.int .i64 a) ∧ w'.cell? ⟨w.heap.size, 1, none⟩ = some (.int .i64 b)) (simp [go_sem, *])
          (first
            | (go_at_call 6; (with_reducible refine (toPointS_any A n c ps _ ((unhide HA).below ?pb) hs).mono ?_); (case pb => exact (by repeat (first | with_reducible exact Below.refl _ _ | with_reducible assumption | (with_reducible refine Below.trans ?_ (Below.mono (by assumption) (by first | omega | (simp <;> omega)))) | with_reducible apply Below.drew | with_reducible apply below_drewN | (with_reducible refine Below.alloc ?_ (by first | omega | (simp <;> omega)) _) | (with_reducible refine Below.setCell ?_ (by first | omega | (simp <;> omega)) _)))); rintro e w1 ⟨g1, rfl, ho1, hbw1⟩; have hz1 := hbw1.size; (try simp at hz1); (skip; (try ((have kw1w.heap.sizeX0 := (bnew hbw1) (w.heap.size) ?pf); (case pf => (first | omega | (simp; done) | (simp; omega))); obtain ⟨kcw1w.heap.sizeX0, kfw1w.heap.sizeX0, klw1w.heap.sizeX0⟩ := kw1w.heap.sizeX0))); have HO1 := hide ho1; clear ho1)
            | (go_at_call 7; (with_reducible refine (toRat_any a b _).mono ?_); rintro e w2 ⟨rfl, hbw2⟩; obtain ⟨hcw2, hfw2⟩ := bcell hbw2; have hzw2 := hbw2.size; (try simp at hzw2); (try ((have kw2w.heap.sizeX0 := (bnew hbw2) (w.heap.size) ?pf); (case pf => (first | omega | (simp; done) | (simp; omega))); obtain ⟨kcw2w.heap.sizeX0, kfw2w.heap.sizeX0, klw2w.heap.sizeX0⟩ := kw2w.heap.sizeX0)))
            | (go_at_call 5; (with_reducible refine ((unhide HSV) _ g1 _ (own_below (unhide HO1) ?pb)).mono ?_); (case pb => exact (by repeat (first | with_reducible exact Below.refl _ _ | with_reducible assumption | (with_reducible refine Below.trans ?_ (Below.mono (by assumption) (by first | omega | (simp <;> omega)))) | with_reducible apply Below.drew | with_reducible apply below_drewN | (with_reducible refine Below.alloc ?_ (by first | omega | (simp <;> omega)) _) | (with_reducible refine Below.setCell ?_ (by first | omega | (simp <;> omega)) _)))); rintro e w3 ⟨⟨B1, d1, rfl, ho3⟩, hbw3⟩; have hz3 := hbw3.size; (try simp at hz3); (skip; (try ((have kw3w.heap.sizeX0 := (bnew hbw3) (w.heap.size) ?pf); (case pf => (first | omega | (simp; done) | (simp; omega))); obtain ⟨kcw3w.heap.sizeX0, kfw3w.heap.sizeX0, klw3w.heap.sizeX0⟩ := kw3w.heap.sizeX0))); have HO3 := hide ho3; clear ho3))
        all_goals
          go_wp2_with fail
          go_meet
          exact ⟨rfl, _, _, rfl, (unhide HO3).mono (by omega), (by repeat (first | with_reducible exact Below.refl _ _ | with_reducible assumption | (with_reducible refine Below.trans ?_ (Below.mono (by assumption) (by first | omega | (simp <;> omega)))) | with_reducible apply Below.drew | with_reducible apply below_drewN | (with_reducible refine Below.alloc ?_ (by first | omega | (simp <;> omega)) _) | (with_reducible refine Below.setCell ?_ (by first | omega | (simp <;> omega)) _)))⟩
      case rest =>
      obtain ⟨rfl, B1, d1, rfl, hoB1, hw2⟩ := hcut
      have hz2 := hw2.size
      have HB1 := hide hoB1; clear hoB1
      have HW2 := hide hw2
      have HA2 := hide ((unhide HA).below hw2)
      clear hw2
      go_wp2_with fail
      refine (toPointS_any A n c ps wc (unhide HA2) hs).mono ?_
      rintro e w3 ⟨g3, rfl, ho3, hb3⟩
      have hz3 := hb3.size
      have HO3 := hide ho3; clear ho3
      have hb3' := (unhide HW2).trans (hb3.mono (unhide HW2).size)
      have x0 := (hb3'.cell (p := ⟨w.heap.size, 0, none⟩) hwbl).trans cb0
      have x1 := (hb3'.cell (p := ⟨w.heap.size, 1, none⟩) hwbl).trans cb1
      have HB3 := hide hb3; clear hb3 hb3'
      go_wp2_with ((go_at_call 7; (with_reducible refine (toRat_any a b _).mono ?_); rintro e w35 ⟨rfl, hbw35⟩; obtain ⟨hcw35, hfw35⟩ := bcell hbw35; have hzw35 := hbw35.size; (try simp at hzw35)))
      refine ((unhide HIV) w35 g3 _ (own_below (unhide HO3) hbw35)).mono ?_
      rintro e w4 ⟨⟨B2, d2, rfl, hoB2'⟩, hb4'⟩
      have hoB2 := hoB2'.mono hbw35.size
      have hb4 := hbw35.trans (hb4'.mono hbw35.size)
      clear hoB2' hb4' hbw35 hcw35 hfw35 x0 x1
      have hz4 := hb4.size
      have HB2 := hide hoB2; clear hoB2
      have HB1' := hide (own_below (own_below (unhide HB1) (unhide HB3)) hb4)
      have hw4 := ((unhide HW2).trans ((unhide HB3).mono (unhide HW2).size)).trans (hb4.mono (by have := (unhide HW2).size; omega))
      have HW4 := hide hw4
      have HO3' := hide (own_below (unhide HO3) hb4)
      clear hw4 hb4
      go_wp2_with fail
      refine (eqIntS_same _ _ _ _ _ _ _ xs w4 (unhide HB2) (unhide HB1') hxl).mono ?_
      rintro e w5 ⟨rfl, hb5⟩
      have hz5 := hb5.size
      have HB2' := hide (own_below (unhide HB2) hb5)
      have HB1'' := hide (own_below (unhide HB1') hb5)
      have HO3'' := hide (own_below (unhide HO3') hb5)
      have hw5 := (unhide HW4).trans (hb5.mono (unhide HW4).size)
      have HW5 := hide hw5
      have HA5 := hide ((unhide HA).below hw5)
      clear hw5 hb5
      go_wp2_with fail
      refine (toPointS_any A n c ps w5 (unhide HA5) hs).mono ?_
      rintro e w6 ⟨g6, rfl, ho6, hb6⟩
      have hz6 := hb6.size
      have HO6 := hide ho6; clear ho6
      have HB6 := hide hb6; clear hb6
      go_wp2_with fail
      refine (eqPointS_same _ _ n n n _ _ ps w6 (own_below (unhide HO3'') (unhide HB6)) (unhide HO6) hs).mono ?_
      rintro e w7 ⟨rfl, hb7⟩
      have hz7 := hb7.size
      have hb57 := (unhide HB6).trans (hb7.mono (unhide HB6).size)
      have HB57 := hide hb57
      have HO37 := hide (own_below (unhide HO3'') hb57)
      have HB27 := hide (own_below (unhide HB2') hb57)
      have HB17 := hide (own_below (unhide HB1'') hb57)
      have HW7 := hide ((unhide HW5).trans (hb57.mono (unhide HW5).size))
      clear hb57 hb7
      go_wp2_with fail
      refine (markPointS_any _ n n _ _ w7 (unhide HO37) hs).mono ?_
      rintro e w8 ⟨rfl, _, hg8⟩
      have hl3 := (unhide HO3).lt g3 rfl
      have hB28 := own_kept (unhide HB27) hg8 (fun k hk e => by
        have e1 : k = g3 := Option.some.inj e
        have := (unhide HB2).lt k hk; omega)
      have hB18 := own_kept (unhide HB17) hg8 (fun k hk e => by
        have e1 : k = g3 := Option.some.inj e
        have := (unhide HB1).lt k hk; omega)
      have hw8 : Below wb.heap.size wb w8 := (unhide HW7).grown hg8 (unhide HW7).size (fun k e => by
        have e1 : g3 = k := Option.some.inj e
        have := (unhide HW2).size; omega)
      have HB28 := hide hB28; have HB18 := hide hB18; have HW8 := hide hw8
      have hz8 := hw8.size
      clear hB28 hB18 hw8 hg8
      have hk0 : decide (1 + 4 * (n : Int) < 0) = false := decide_eq_false (by omega)
      go_wp2_with fail
      refine (eqIntS_same _ _ _ _ _ _ _ xs w8 (unhide HB28) (unhide HB18) hxl).mono ?_
      rintro e w9 ⟨rfl, hb9⟩
      have hz9 := hb9.size
      have HB29 := hide (own_below (unhide HB28) hb9)
      have HB19 := hide (own_below (unhide HB18) hb9)
      have HW9 := hide ((unhide HW8).trans (hb9.mono (unhide HW8).size))
      clear hb9
      go_wp2_with fail
      refine (markIntS_any _ _ _ _ 1 _ w9 (unhide HB29) hxl (by omega) (by omega)).mono ?_
      rintro e w10 ⟨rfl, hoM, hg10⟩
      have hB110 := own_kept (unhide HB19) hg10 (fun k hk e => by
        have h1 := (unhide HB1).lt k hk
        have h2 := (unhide HB2).lt k e.symm
        omega)
      have hw10 : Below wb.heap.size wb w10 := (unhide HW9).grown hg10 (unhide HW9).size (fun k e => by
        have h2 := (unhide HB2).lt k e
        have := (unhide HW2).size; omega)
      have HM10 := hide hoM; have HB110 := hide hB110; have HW10 := hide hw10
      clear hoM hB110 hw10 hg10
      have hm0 : decide (1 + (xs.length : Int) < 0) = false := decide_eq_false (by omega)
      go_wp2_with fail
      refine (heldIntS_any _ _ _ _ 1 w10 (unhide HM10) hxl (by omega) (by omega)).mono ?_
      rintro e w' ⟨rfl, rfl⟩
      have HA10 := hide ((unhide HA).below (unhide HW10))
      have x0 := ((unhide HW10).cell (p := ⟨w.heap.size, 0, none⟩) hwbl).trans cb0
      have x1 := ((unhide HW10).cell (p := ⟨w.heap.size, 1, none⟩) hwbl).trans cb1
      have hwl10 : w.heap.size < w10.heap.size := Nat.lt_of_lt_of_le hwbl (unhide HW10).size
      go_upto_region 24 with fail
      go_cut [16, 17] (fun s16 s17 wx => s17 = .bool _ ∧ ∃ (B3 : Option Addr) (d3 : Nat), s16 = .slice B3 xs.length d3 ∧ wx.ownsRow w10.heap.size 3 1 (.slice B3 xs.length d3) xs.length (ints xs) ∧ Below w10.heap.size w10 wx)
      case first =>
        go_region_held3 (fun w' => w'.cell? ⟨w.heap.size, 0, none⟩ = some (.int .i64 a) ∧ w'.cell? ⟨w.heap.size, 1, none⟩ = some (.int .i64 b)) (simp [go_sem, *])
          (first
            | (go_at_call 6; (with_reducible refine (toPointS_any A n c ps _ ((unhide HA10).below ?pb) hs).mono ?_); (case pb => exact (by repeat (first | with_reducible exact Below.refl _ _ | with_reducible assumption | (with_reducible refine Below.trans ?_ (Below.mono (by assumption) (by first | omega | (simp <;> omega)))) | with_reducible apply Below.drew | with_reducible apply below_drewN | (with_reducible refine Below.alloc ?_ (by first | omega | (simp <;> omega)) _) | (with_reducible refine Below.setCell ?_ (by first | omega | (simp <;> omega)) _)))); rintro e w11 ⟨g11, rfl, ho11, hbw11⟩; have hz11 := hbw11.size; (try simp at hz11); (skip; (try ((have kw11w.heap.sizeX0 := (bnew hbw11) (w.heap.size) ?pf); (case pf => (first | omega | (simp; done) | (simp; omega))); obtain ⟨kcw11w.heap.sizeX0, kfw11w.heap.sizeX0, klw11w.heap.sizeX0⟩ := kw11w.heap.sizeX0))); have HO11 := hide ho11; clear ho11)
            | (go_at_call 7; (with_reducible refine (toRat_any a b _).mono ?_); rintro e w12 ⟨rfl, hbw12⟩; obtain ⟨hcw12, hfw12⟩ := bcell hbw12; have hzw12 := hbw12.size; (try simp at hzw12); (try ((have kw12w.heap.sizeX0 := (bnew hbw12) (w.heap.size) ?pf); (case pf => (first | omega | (simp; done) | (simp; omega))); obtain ⟨kcw12w.heap.sizeX0, kfw12w.heap.sizeX0, klw12w.heap.sizeX0⟩ := kw12w.heap.sizeX0)))
            | (go_at_call 8; (with_reducible refine ((unhide HIV) _ g11 _ (own_below (unhide HO11) ?pb)).mono ?_); (case pb => exact (by repeat (first | with_reducible exact Below.refl _ _ | with_reducible assumption | (with_reducible refine Below.trans ?_ (Below.mono (by assumption) (by first | omega | (simp <;> omega)))) | with_reducible apply Below.drew | with_reducible apply below_drewN | (with_reducible refine Below.alloc ?_ (by first | omega | (simp <;> omega)) _) | (with_reducible refine Below.setCell ?_ (by first | omega | (simp <;> omega)) _)))); rintro e w13 ⟨⟨B3, d3, rfl, ho13⟩, hbw13⟩; have hz13 := hbw13.size; (try simp at hz13); (skip; (try ((have kw13w.heap.sizeX0 := (bnew hbw13) (w.heap.size) ?pf); (case pf => (first | omega | (simp; done) | (simp; omega))); obtain ⟨kcw13w.heap.sizeX0, kfw13w.heap.sizeX0, klw13w.heap.sizeX0⟩ := kw13w.heap.sizeX0))); have HO13 := hide ho13; clear ho13))
        all_goals
          go_wp2_with fail
          go_meet
          exact ⟨rfl, _, _, rfl, (unhide HO13).mono (by omega), (by repeat (first | with_reducible exact Below.refl _ _ | with_reducible assumption | (with_reducible refine Below.trans ?_ (Below.mono (by assumption) (by first | omega | (simp <;> omega)))) | with_reducible apply Below.drew | with_reducible apply below_drewN | (with_reducible refine Below.alloc ?_ (by first | omega | (simp <;> omega)) _) | (with_reducible refine Below.setCell ?_ (by first | omega | (simp <;> omega)) _)))⟩
      case rest =>
      obtain ⟨rfl, B3, d3, rfl, hoB3, hb1012⟩ := hcut
      have HB3' := hide hoB3; clear hoB3 x0 x1
      have HB112 := hide (own_below (unhide HB110) hb1012)
      have HM12 := hide (own_below (unhide HM10) hb1012)
      have HW12 := hide ((unhide HW10).trans (hb1012.mono (unhide HW10).size))
      clear hb1012
      go_wp2_with fail
      refine (eqIntS_same _ _ _ _ _ _ _ xs wc (unhide HB3') (unhide HB112) hxl).mono ?_
      rintro e w13 ⟨rfl, hb13⟩
      have hz13 := hb13.size
      have HM13 := hide (own_below (unhide HM12) hb13)
      have HW13 := hide ((unhide HW12).trans (hb13.mono (unhide HW12).size))
      clear hb13
      go_wp2_with fail
      refine (heldIntS_any _ _ _ _ 1 w13 (unhide HM13) hxl (by omega) (by omega)).mono ?_
      rintro e w' ⟨rfl, rfl⟩
      go_wp2_with fail
      go_ret
      exact ⟨rfl, (unhide HBB).trans ((unhide HW13).mono (unhide HBB).size)⟩
  · rw [if_neg hs] at hsz
    have HSZ := hide hsz; clear hsz ha
    go_enter Try.func3, Try.ntmps3
    go_wp2_with (go_at_call 4; (with_reducible refine ((unhide HSZ) _).mono ?_); rintro e w' ⟨rfl, rfl⟩)
    go_ret
    exact ⟨rfl, (by repeat (first | with_reducible exact Below.refl _ _ | with_reducible assumption | (with_reducible refine Below.trans ?_ (Below.mono (by assumption) (by first | omega | (simp <;> omega)))) | with_reducible apply Below.drew | with_reducible apply below_drewN | (with_reducible refine Below.alloc ?_ (by first | omega | (simp <;> omega)) _) | (with_reducible refine Below.setCell ?_ (by first | omega | (simp <;> omega)) _)))⟩
end Go.Proofs.Ythccdooacbablab

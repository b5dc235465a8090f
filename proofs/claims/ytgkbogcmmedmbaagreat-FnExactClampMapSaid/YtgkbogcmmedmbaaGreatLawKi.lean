/-
  Chapter 5: the law of ClampMap.
-/
import Derived.Test.YtgkbogcmmedmbaaGreatEq
import Derived.Test.YtgkbogcmmedmbaaGreatLw
namespace Go.Proofs.YtgkbogcmmedmbaaGreat
open Go.RowKit Rm

set_option maxRecDepth 100000 in
set_option maxHeartbeats 1600000 in
theorem lawClampMap (A : Option Addr) (n c : Nat) (ps : List Pt) (a b p q : Int) (w : World) (ha : ArgP w A n ps) (hn : n ≤ maxLen) :
    Calls Tryz.prog 8 #[.slice A n c, .agg #[.int .i64 (a), .int .i64 (b)], .agg #[.int .i64 (p), .int .i64 (q)]] w fun e w' => e = .returned (.bool true) ∧ Below w.heap.size w w' := by
  have hsz := fun W => szPointS_any A n c hn W
  by_cases hs : n ≤ 1048576
  · rw [if_pos hs] at hsz
    have HSZ := hide hsz; clear hsz
    have HA := hide ha; clear ha
    have hsv := fun (W : World) (g base : Nat) hW => sClampMap_any (some ⟨g, 0, none⟩) n n base ps a b p q W hW hs
    have hiv := fun (W : World) (g base : Nat) hW => iClampMap_any (some ⟨g, 0, none⟩) n n base ps a b p q W hW hs
    have hxl := ClampMap_len ps a b p q
    generalize ((clP ps a b p q).getD []).map qp = xs at *
    generalize (clP ps a b p q).isSome = z at *
    have HSV := hide hsv; have HIV := hide hiv; clear hsv hiv
    cases z
    all_goals
      go_enter Tryz.func8, Tryz.ntmps8
      go_upto_region 5 with (go_at_call 9; (with_reducible refine ((unhide HSZ) _).mono ?_); rintro e w' ⟨rfl, rfl⟩)
      have hbb : Below w.heap.size w ((w.alloc (.cells #[.int .i64 a, .int .i64 b] 44)).alloc (.cells #[.int .i64 p, .int .i64 q] 44)) := (by repeat (first | with_reducible exact Below.refl _ _ | with_reducible assumption | (with_reducible refine Below.trans ?_ (Below.mono (by assumption) (by first | omega | (simp <;> omega)))) | with_reducible apply Below.drew | with_reducible apply below_drewN | (with_reducible refine Below.alloc ?_ (by first | omega | (simp <;> omega)) _) | (with_reducible refine Below.setCell ?_ (by first | omega | (simp <;> omega)) _)))
      have cb0 : ((w.alloc (.cells #[.int .i64 a, .int .i64 b] 44)).alloc (.cells #[.int .i64 p, .int .i64 q] 44)).cell? ⟨w.heap.size, 0, none⟩ = some (.int .i64 a) := by simp [go_sem]
      have cd0 : ((w.alloc (.cells #[.int .i64 a, .int .i64 b] 44)).alloc (.cells #[.int .i64 p, .int .i64 q] 44)).cell? ⟨w.heap.size + 1, 0, none⟩ = some (.int .i64 p) := by simp [go_sem]
      have cb1 : ((w.alloc (.cells #[.int .i64 a, .int .i64 b] 44)).alloc (.cells #[.int .i64 p, .int .i64 q] 44)).cell? ⟨w.heap.size, 1, none⟩ = some (.int .i64 b) := by simp [go_sem]
      have cd1 : ((w.alloc (.cells #[.int .i64 a, .int .i64 b] 44)).alloc (.cells #[.int .i64 p, .int .i64 q] 44)).cell? ⟨w.heap.size + 1, 1, none⟩ = some (.int .i64 q) := by simp [go_sem]
      have hwbl : w.heap.size < ((w.alloc (.cells #[.int .i64 a, .int .i64 b] 44)).alloc (.cells #[.int .i64 p, .int .i64 q] 44)).heap.size := by simp; omega
      have hwbm : w.heap.size + 1 < ((w.alloc (.cells #[.int .i64 a, .int .i64 b] 44)).alloc (.cells #[.int .i64 p, .int .i64 q] 44)).heap.size := by simp
      generalize ((w.alloc (.cells #[.int .i64 a, .int .i64 b] 44)).alloc (.cells #[.int .i64 p, .int .i64 q] 44)) = wb at *
      have HA1 := hide ((unhide HA).below hbb)
      have HBB := hide hbb
      clear hbb HA
      have HA := HA1
      go_cut [8, 9] (fun s8 s9 wx => s9 = .bool _ ∧ ∃ (B1 : Option Addr) (d1 : Nat), s8 = .slice B1 xs.length d1 ∧ wx.ownsRow wb.heap.size 50 4 (.slice B1 xs.length d1) xs.length (ptcs xs) ∧ Below wb.heap.size wb wx)
      case first =>
        go_region_held3 (fun w' => w'.cell? ⟨w.heap.size, 0, none⟩ = some (.int .i64 a) ∧ w'.cell? ⟨w.heap.size, 1, none⟩ = some (.int .i64 b) ∧ w'.cell? ⟨w.heap.size + 1, 0, none⟩ = some (.int .i64 p) ∧ w'.cell? ⟨w.heap.size + 1, 1, none⟩ = some (.int .i64 q)) (simp [go_sem, *])
          (first
            | (go_at_call 11; (with_reducible refine (toPointS_any A n c ps _ ((unhide HA).below ?pb) hs).mono ?_); (case pb => exact (by repeat (first | with_reducible exact Below.refl _ _ | with_reducible assumption | (with_reducible refine Below.trans ?_ (Below.mono (by assumption) (by first | omega | (simp <;> omega)))) | with_reducible apply Below.drew | with_reducible apply below_drewN | (with_reducible refine Below.alloc ?_ (by first | omega | (simp <;> omega)) _) | (with_reducible refine Below.setCell ?_ (by first | omega | (simp <;> omega)) _)))); rintro e w1 ⟨g1, rfl, ho1, hbw1⟩; have hz1 := hbw1.size; (try simp at hz1); (skip; (try ((have kw1w.heap.sizeX0 := (bnew hbw1) (w.heap.size) ?pf); (case pf => (first | omega | (simp; done) | (simp; omega))); obtain ⟨kcw1w.heap.sizeX0, kfw1w.heap.sizeX0, klw1w.heap.sizeX0⟩ := kw1w.heap.sizeX0)); (try ((have kw1w.heap.sizeX1 := (bnew hbw1) (w.heap.size + 1) ?pf); (case pf => (first | omega | (simp; done) | (simp; omega))); obtain ⟨kcw1w.heap.sizeX1, kfw1w.heap.sizeX1, klw1w.heap.sizeX1⟩ := kw1w.heap.sizeX1))); have HO1 := hide ho1; clear ho1)
            | (go_at_call 29; (with_reducible refine (toRat_any a b _).mono ?_); rintro e w2 ⟨rfl, hbw2⟩; obtain ⟨hcw2, hfw2⟩ := bcell hbw2; have hzw2 := hbw2.size; (try simp at hzw2); (try ((have kw2w.heap.sizeX0 := (bnew hbw2) (w.heap.size) ?pf); (case pf => (first | omega | (simp; done) | (simp; omega))); obtain ⟨kcw2w.heap.sizeX0, kfw2w.heap.sizeX0, klw2w.heap.sizeX0⟩ := kw2w.heap.sizeX0)); (try ((have kw2w.heap.sizeX1 := (bnew hbw2) (w.heap.size + 1) ?pf); (case pf => (first | omega | (simp; done) | (simp; omega))); obtain ⟨kcw2w.heap.sizeX1, kfw2w.heap.sizeX1, klw2w.heap.sizeX1⟩ := kw2w.heap.sizeX1)))
            | (go_at_call 29; (with_reducible refine (toRat_any p q _).mono ?_); rintro e w2b ⟨rfl, hbw2b⟩; obtain ⟨hcw2b, hfw2b⟩ := bcell hbw2b; have hzw2b := hbw2b.size; (try simp at hzw2b); (try ((have kw2bw.heap.sizeX0 := (bnew hbw2b) (w.heap.size) ?pf); (case pf => (first | omega | (simp; done) | (simp; omega))); obtain ⟨kcw2bw.heap.sizeX0, kfw2bw.heap.sizeX0, klw2bw.heap.sizeX0⟩ := kw2bw.heap.sizeX0)); (try ((have kw2bw.heap.sizeX1 := (bnew hbw2b) (w.heap.size + 1) ?pf); (case pf => (first | omega | (simp; done) | (simp; omega))); obtain ⟨kcw2bw.heap.sizeX1, kfw2bw.heap.sizeX1, klw2bw.heap.sizeX1⟩ := kw2bw.heap.sizeX1)))
            | (go_at_call 28; (with_reducible refine ((unhide HSV) _ g1 _ (own_below (unhide HO1) ?pb)).mono ?_); (case pb => exact (by repeat (first | with_reducible exact Below.refl _ _ | with_reducible assumption | (with_reducible refine Below.trans ?_ (Below.mono (by assumption) (by first | omega | (simp <;> omega)))) | with_reducible apply Below.drew | with_reducible apply below_drewN | (with_reducible refine Below.alloc ?_ (by first | omega | (simp <;> omega)) _) | (with_reducible refine Below.setCell ?_ (by first | omega | (simp <;> omega)) _)))); rintro e w3 ⟨⟨B1, d1, rfl, ho3⟩, hbw3⟩; have hz3 := hbw3.size; (try simp at hz3); (skip; (try ((have kw3w.heap.sizeX0 := (bnew hbw3) (w.heap.size) ?pf); (case pf => (first | omega | (simp; done) | (simp; omega))); obtain ⟨kcw3w.heap.sizeX0, kfw3w.heap.sizeX0, klw3w.heap.sizeX0⟩ := kw3w.heap.sizeX0)); (try ((have kw3w.heap.sizeX1 := (bnew hbw3) (w.heap.size + 1) ?pf); (case pf => (first | omega | (simp; done) | (simp; omega))); obtain ⟨kcw3w.heap.sizeX1, kfw3w.heap.sizeX1, klw3w.heap.sizeX1⟩ := kw3w.heap.sizeX1))); have HO3 := hide ho3; clear ho3))
        all_goals
          go_wp2_with fail
          go_meet
          exact ⟨rfl, _, _, rfl, (unhide HO3).mono (by omega), (by repeat (first | with_reducible exact Below.refl _ _ | with_reducible assumption | (with_reducible refine Below.trans ?_ (Below.mono (by assumption) (by first | omega | (simp <;> omega)))) | with_reducible apply Below.drew | with_reducible apply below_drewN | (with_reducible refine Below.alloc ?_ (by first | omega | (simp <;> omega)) _) | (with_reducible refine Below.setCell ?_ (by first | omega | (simp <;> omega)) _)))⟩
      case rest =>
      obtain ⟨rfl, B1, d1, rfl, hoB1, hw2⟩ := hcut
      obtain ⟨wf, rfl⟩ : ∃ x, x = wc := ⟨wc, rfl⟩
      have hz2 := hw2.size
      have HB1 := hide hoB1; clear hoB1
      have HW2 := hide hw2
      have HA2 := hide ((unhide HA).below hw2)
      clear hw2
      go_wp2_with fail
      refine (toPointS_any A n c ps wf (unhide HA2) hs).mono ?_
      rintro e w3 ⟨g3, rfl, ho3, hb3⟩
      have hz3 := hb3.size
      have HO3 := hide ho3; clear ho3
      have hb3' := (unhide HW2).trans (hb3.mono (unhide HW2).size)
      have x0 := (hb3'.cell (p := ⟨w.heap.size, 0, none⟩) hwbl).trans cb0
      have x1 := (hb3'.cell (p := ⟨w.heap.size, 1, none⟩) hwbl).trans cb1
      have HB3 := hide hb3; clear hb3 hb3'
      have y0 := ((unhide HW2).trans ((unhide HB3).mono (unhide HW2).size)).cell (p := ⟨w.heap.size + 1, 0, none⟩) hwbm |>.trans cd0
      have y1 := ((unhide HW2).trans ((unhide HB3).mono (unhide HW2).size)).cell (p := ⟨w.heap.size + 1, 1, none⟩) hwbm |>.trans cd1
      have hwl3 : w.heap.size < w3.heap.size := by omega
      have hwm3 : w.heap.size + 1 < w3.heap.size := by omega
      go_upto_region 7 with fail
      go_cut [11, 12] (fun s11 s12 wx => s12 = .bool _ ∧ ∃ (B2 : Option Addr) (d2 : Nat), s11 = .slice B2 xs.length d2 ∧ wx.ownsRow w3.heap.size 50 4 (.slice B2 xs.length d2) xs.length (ptcs xs) ∧ Below w3.heap.size w3 wx)
      case first =>
        go_region_held3 (fun w' => w'.cell? ⟨w.heap.size, 0, none⟩ = some (.int .i64 a) ∧ w'.cell? ⟨w.heap.size, 1, none⟩ = some (.int .i64 b) ∧ w'.cell? ⟨w.heap.size + 1, 0, none⟩ = some (.int .i64 p) ∧ w'.cell? ⟨w.heap.size + 1, 1, none⟩ = some (.int .i64 q)) (simp [go_sem, *])
          (first
            | (go_at_call 29; (with_reducible refine (toRat_any a b _).mono ?_); rintro e w22 ⟨rfl, hbw22⟩; obtain ⟨hcw22, hfw22⟩ := bcell hbw22; have hzw22 := hbw22.size; (try simp at hzw22); (try ((have kw22w.heap.sizeX0 := (bnew hbw22) (w.heap.size) ?pf); (case pf => (first | omega | (simp; done) | (simp; omega))); obtain ⟨kcw22w.heap.sizeX0, kfw22w.heap.sizeX0, klw22w.heap.sizeX0⟩ := kw22w.heap.sizeX0)); (try ((have kw22w.heap.sizeX1 := (bnew hbw22) (w.heap.size + 1) ?pf); (case pf => (first | omega | (simp; done) | (simp; omega))); obtain ⟨kcw22w.heap.sizeX1, kfw22w.heap.sizeX1, klw22w.heap.sizeX1⟩ := kw22w.heap.sizeX1)))
            | (go_at_call 29; (with_reducible refine (toRat_any p q _).mono ?_); rintro e w22b ⟨rfl, hbw22b⟩; obtain ⟨hcw22b, hfw22b⟩ := bcell hbw22b; have hzw22b := hbw22b.size; (try simp at hzw22b); (try ((have kw22bw.heap.sizeX0 := (bnew hbw22b) (w.heap.size) ?pf); (case pf => (first | omega | (simp; done) | (simp; omega))); obtain ⟨kcw22bw.heap.sizeX0, kfw22bw.heap.sizeX0, klw22bw.heap.sizeX0⟩ := kw22bw.heap.sizeX0)); (try ((have kw22bw.heap.sizeX1 := (bnew hbw22b) (w.heap.size + 1) ?pf); (case pf => (first | omega | (simp; done) | (simp; omega))); obtain ⟨kcw22bw.heap.sizeX1, kfw22bw.heap.sizeX1, klw22bw.heap.sizeX1⟩ := kw22bw.heap.sizeX1)))
            | (go_at_call 30; (with_reducible refine ((unhide HIV) _ g3 _ (own_below (unhide HO3) ?pb)).mono ?_); (case pb => exact (by repeat (first | with_reducible exact Below.refl _ _ | with_reducible assumption | (with_reducible refine Below.trans ?_ (Below.mono (by assumption) (by first | omega | (simp <;> omega)))) | with_reducible apply Below.drew | with_reducible apply below_drewN | (with_reducible refine Below.alloc ?_ (by first | omega | (simp <;> omega)) _) | (with_reducible refine Below.setCell ?_ (by first | omega | (simp <;> omega)) _)))); rintro e w23 ⟨⟨B2, d2, rfl, ho23⟩, hbw23⟩; have hz23 := hbw23.size; (try simp at hz23); (skip; (try ((have kw23w.heap.sizeX0 := (bnew hbw23) (w.heap.size) ?pf); (case pf => (first | omega | (simp; done) | (simp; omega))); obtain ⟨kcw23w.heap.sizeX0, kfw23w.heap.sizeX0, klw23w.heap.sizeX0⟩ := kw23w.heap.sizeX0)); (try ((have kw23w.heap.sizeX1 := (bnew hbw23) (w.heap.size + 1) ?pf); (case pf => (first | omega | (simp; done) | (simp; omega))); obtain ⟨kcw23w.heap.sizeX1, kfw23w.heap.sizeX1, klw23w.heap.sizeX1⟩ := kw23w.heap.sizeX1))); have HO23 := hide ho23; clear ho23))
        all_goals
          go_wp2_with fail
          go_meet
          exact ⟨rfl, _, _, rfl, (unhide HO23).mono (by omega), (by repeat (first | with_reducible exact Below.refl _ _ | with_reducible assumption | (with_reducible refine Below.trans ?_ (Below.mono (by assumption) (by first | omega | (simp <;> omega)))) | with_reducible apply Below.drew | with_reducible apply below_drewN | (with_reducible refine Below.alloc ?_ (by first | omega | (simp <;> omega)) _) | (with_reducible refine Below.setCell ?_ (by first | omega | (simp <;> omega)) _)))⟩
      case rest =>
      obtain ⟨rfl, B2, d2, rfl, hoB2, hb4⟩ := hcut
      obtain ⟨w4, rfl⟩ : ∃ x, x = wc := ⟨wc, rfl⟩
      clear x0 x1 y0 y1
      have hz4 := hb4.size
      have HB2 := hide hoB2; clear hoB2
      have HB1' := hide (own_below (own_below (unhide HB1) (unhide HB3)) hb4)
      have hw4 := ((unhide HW2).trans ((unhide HB3).mono (unhide HW2).size)).trans (hb4.mono (by have := (unhide HW2).size; omega))
      have HW4 := hide hw4
      have HO3' := hide (own_below (unhide HO3) hb4)
      clear hw4 hb4
      go_wp2_with fail
      refine (eqPointS_same _ _ _ _ _ _ _ xs w4 (unhide HB2) (unhide HB1') hxl).mono ?_
      rintro e w5 ⟨rfl, hb5⟩
      have hz5 := hb5.size
      have HB2' := hide (own_below (unhide HB2) hb5)
      have HB1'' := hide (own_below (unhide HB1') hb5)
      have HO3'' := hide (own_below (unhide HO3') hb5)
      have hw5 := (unhide HW4).trans (hb5.mono (unhide HW4).size)
      have HW5 := hide hw5
      have HA5 := hide ((unhide HA).below hw5)
      clear hw5 hb5
      go_wp2_with fail
      refine (toPointS_any A n c ps w5 (unhide HA5) hs).mono ?_
      rintro e w6 ⟨g6, rfl, ho6, hb6⟩
      have hz6 := hb6.size
      have HO6 := hide ho6; clear ho6
      have HB6 := hide hb6; clear hb6
      go_wp2_with fail
      refine (eqPointS_same _ _ n n n _ _ ps w6 (own_below (unhide HO3'') (unhide HB6)) (unhide HO6) hs).mono ?_
      rintro e w7 ⟨rfl, hb7⟩
      have hz7 := hb7.size
      have hb57 := (unhide HB6).trans (hb7.mono (unhide HB6).size)
      have HB57 := hide hb57
      have HO37 := hide (own_below (unhide HO3'') hb57)
      have HB27 := hide (own_below (unhide HB2') hb57)
      have HB17 := hide (own_below (unhide HB1'') hb57)
      have HW7 := hide ((unhide HW5).trans (hb57.mono (unhide HW5).size))
      clear hb57 hb7
      go_wp2_with fail
      refine (markPointS_any _ n n _ _ w7 (unhide HO37) hs).mono ?_
      rintro e w8 ⟨rfl, _, hg8⟩
      have hl3 := (unhide HO3).lt g3 rfl
      have hB28 := own_kept (unhide HB27) hg8 (fun k hk e => by
        have e1 : k = g3 := Option.some.inj e
        have := (unhide HB2).lt k hk; omega)
      have hB18 := own_kept (unhide HB17) hg8 (fun k hk e => by
        have e1 : k = g3 := Option.some.inj e
        have := (unhide HB1).lt k hk; omega)
      have hw8 : Below wb.heap.size wb w8 := (unhide HW7).grown hg8 (unhide HW7).size (fun k e => by
        have e1 : g3 = k := Option.some.inj e
        have := (unhide HW2).size; omega)
      have HB28 := hide hB28; have HB18 := hide hB18; have HW8 := hide hw8
      have hz8 := hw8.size
      clear hB28 hB18 hw8 hg8
      have hk0 : decide (1 + 4 * (n : Int) < 0) = false := decide_eq_false (by omega)
      go_wp2_with fail
      refine (eqPointS_same _ _ _ _ _ _ _ xs w8 (unhide HB28) (unhide HB18) hxl).mono ?_
      rintro e w9 ⟨rfl, hb9⟩
      have hz9 := hb9.size
      have HB29 := hide (own_below (unhide HB28) hb9)
      have HB19 := hide (own_below (unhide HB18) hb9)
      have HW9 := hide ((unhide HW8).trans (hb9.mono (unhide HW8).size))
      clear hb9
      go_wp2_with fail
      refine (markPointS_any _ _ _ _ _ w9 (unhide HB29) hxl).mono ?_
      rintro e w10 ⟨rfl, hoM, hg10⟩
      have hB110 := own_kept (unhide HB19) hg10 (fun k hk e => by
        have h1 := (unhide HB1).lt k hk
        have h2 := (unhide HB2).lt k e.symm
        omega)
      have hw10 : Below wb.heap.size wb w10 := (unhide HW9).grown hg10 (unhide HW9).size (fun k e => by
        have h2 := (unhide HB2).lt k e
        have := (unhide HW2).size; omega)
      have HM10 := hide hoM; have HB110 := hide hB110; have HW10 := hide hw10
      clear hoM hB110 hw10 hg10
      have hm0 : decide (1 + 4 * (xs.length : Int) < 0) = false := decide_eq_false (by omega)
      go_wp2_with fail
      refine (heldPointS_any _ _ _ _ w10 (unhide HM10) hxl).mono ?_
      rintro e w' ⟨rfl, rfl⟩
      have HA10 := hide ((unhide HA).below (unhide HW10))
      have x0 := ((unhide HW10).cell (p := ⟨w.heap.size, 0, none⟩) hwbl).trans cb0
      have x1 := ((unhide HW10).cell (p := ⟨w.heap.size, 1, none⟩) hwbl).trans cb1
      have hwl10 : w.heap.size < w10.heap.size := Nat.lt_of_lt_of_le hwbl (unhide HW10).size
      have y0 := ((unhide HW10).cell (p := ⟨w.heap.size + 1, 0, none⟩) hwbm).trans cd0
      have y1 := ((unhide HW10).cell (p := ⟨w.heap.size + 1, 1, none⟩) hwbm).trans cd1
      have hwm10 : w.heap.size + 1 < w10.heap.size := Nat.lt_of_lt_of_le hwbm (unhide HW10).size
      go_upto_region 24 with fail
      go_cut [16, 17] (fun s16 s17 wx => s17 = .bool _ ∧ ∃ (B3 : Option Addr) (d3 : Nat), s16 = .slice B3 xs.length d3 ∧ wx.ownsRow w10.heap.size 50 4 (.slice B3 xs.length d3) xs.length (ptcs xs) ∧ Below w10.heap.size w10 wx)
      case first =>
        go_region_held3 (fun w' => w'.cell? ⟨w.heap.size, 0, none⟩ = some (.int .i64 a) ∧ w'.cell? ⟨w.heap.size, 1, none⟩ = some (.int .i64 b) ∧ w'.cell? ⟨w.heap.size + 1, 0, none⟩ = some (.int .i64 p) ∧ w'.cell? ⟨w.heap.size + 1, 1, none⟩ = some (.int .i64 q)) (simp [go_sem, *])
          (first
            | (go_at_call 11; (with_reducible refine (toPointS_any A n c ps _ ((unhide HA10).below ?pb) hs).mono ?_); (case pb => exact (by repeat (first | with_reducible exact Below.refl _ _ | with_reducible assumption | (with_reducible refine Below.trans ?_ (Below.mono (by assumption) (by first | omega | (simp <;> omega)))) | with_reducible apply Below.drew | with_reducible apply below_drewN | (with_reducible refine Below.alloc ?_ (by first | omega | (simp <;> omega)) _) | (with_reducible refine Below.setCell ?_ (by first | omega | (simp <;> omega)) _)))); rintro e w11 ⟨g11, rfl, ho11, hbw11⟩; have hz11 := hbw11.size; (try simp at hz11); (skip; (try ((have kw11w.heap.sizeX0 := (bnew hbw11) (w.heap.size) ?pf); (case pf => (first | omega | (simp; done) | (simp; omega))); obtain ⟨kcw11w.heap.sizeX0, kfw11w.heap.sizeX0, klw11w.heap.sizeX0⟩ := kw11w.heap.sizeX0)); (try ((have kw11w.heap.sizeX1 := (bnew hbw11) (w.heap.size + 1) ?pf); (case pf => (first | omega | (simp; done) | (simp; omega))); obtain ⟨kcw11w.heap.sizeX1, kfw11w.heap.sizeX1, klw11w.heap.sizeX1⟩ := kw11w.heap.sizeX1))); have HO11 := hide ho11; clear ho11)
            | (go_at_call 29; (with_reducible refine (toRat_any a b _).mono ?_); rintro e w12 ⟨rfl, hbw12⟩; obtain ⟨hcw12, hfw12⟩ := bcell hbw12; have hzw12 := hbw12.size; (try simp at hzw12); (try ((have kw12w.heap.sizeX0 := (bnew hbw12) (w.heap.size) ?pf); (case pf => (first | omega | (simp; done) | (simp; omega))); obtain ⟨kcw12w.heap.sizeX0, kfw12w.heap.sizeX0, klw12w.heap.sizeX0⟩ := kw12w.heap.sizeX0)); (try ((have kw12w.heap.sizeX1 := (bnew hbw12) (w.heap.size + 1) ?pf); (case pf => (first | omega | (simp; done) | (simp; omega))); obtain ⟨kcw12w.heap.sizeX1, kfw12w.heap.sizeX1, klw12w.heap.sizeX1⟩ := kw12w.heap.sizeX1)))
            | (go_at_call 29; (with_reducible refine (toRat_any p q _).mono ?_); rintro e w12b ⟨rfl, hbw12b⟩; obtain ⟨hcw12b, hfw12b⟩ := bcell hbw12b; have hzw12b := hbw12b.size; (try simp at hzw12b); (try ((have kw12bw.heap.sizeX0 := (bnew hbw12b) (w.heap.size) ?pf); (case pf => (first | omega | (simp; done) | (simp; omega))); obtain ⟨kcw12bw.heap.sizeX0, kfw12bw.heap.sizeX0, klw12bw.heap.sizeX0⟩ := kw12bw.heap.sizeX0)); (try ((have kw12bw.heap.sizeX1 := (bnew hbw12b) (w.heap.size + 1) ?pf); (case pf => (first | omega | (simp; done) | (simp; omega))); obtain ⟨kcw12bw.heap.sizeX1, kfw12bw.heap.sizeX1, klw12bw.heap.sizeX1⟩ := kw12bw.heap.sizeX1)))
            | (go_at_call 30; (with_reducible refine ((unhide HIV) _ g11 _ (own_below (unhide HO11) ?pb)).mono ?_); (case pb => exact (by repeat (first | with_reducible exact Below.refl _ _ | with_reducible assumption | (with_reducible refine Below.trans ?_ (Below.mono (by assumption) (by first | omega | (simp <;> omega)))) | with_reducible apply Below.drew | with_reducible apply below_drewN | (with_reducible refine Below.alloc ?_ (by first | omega | (simp <;> omega)) _) | (with_reducible refine Below.setCell ?_ (by first | omega | (simp <;> omega)) _)))); rintro e w13 ⟨⟨B3, d3, rfl, ho13⟩, hbw13⟩; have hz13 := hbw13.size; (try simp at hz13); (skip; (try ((have kw13w.heap.sizeX0 := (bnew hbw13) (w.heap.size) ?pf); (case pf => (first | omega | (simp; done) | (simp; omega))); obtain ⟨kcw13w.heap.sizeX0, kfw13w.heap.sizeX0, klw13w.heap.sizeX0⟩ := kw13w.heap.sizeX0)); (try ((have kw13w.heap.sizeX1 := (bnew hbw13) (w.heap.size + 1) ?pf); (case pf => (first | omega | (simp; done) | (simp; omega))); obtain ⟨kcw13w.heap.sizeX1, kfw13w.heap.sizeX1, klw13w.heap.sizeX1⟩ := kw13w.heap.sizeX1))); have HO13 := hide ho13; clear ho13))
        all_goals
          go_wp2_with fail
          go_meet
          exact ⟨rfl, _, _, rfl, (unhide HO13).mono (by omega), (by repeat (first | with_reducible exact Below.refl _ _ | with_reducible assumption | (with_reducible refine Below.trans ?_ (Below.mono (by assumption) (by first | omega | (simp <;> omega)))) | with_reducible apply Below.drew | with_reducible apply below_drewN | (with_reducible refine Below.alloc ?_ (by first | omega | (simp <;> omega)) _) | (with_reducible refine Below.setCell ?_ (by first | omega | (simp <;> omega)) _)))⟩
      case rest =>
      obtain ⟨rfl, B3, d3, rfl, hoB3, hb1012⟩ := hcut
      have HB3' := hide hoB3; clear hoB3 x0 x1 y0 y1
      have HB112 := hide (own_below (unhide HB110) hb1012)
      have HM12 := hide (own_below (unhide HM10) hb1012)
      have HW12 := hide ((unhide HW10).trans (hb1012.mono (unhide HW10).size))
      clear hb1012
      go_wp2_with fail
      refine (eqPointS_same _ _ _ _ _ _ _ xs wc (unhide HB3') (unhide HB112) hxl).mono ?_
      rintro e w13 ⟨rfl, hb13⟩
      have hz13 := hb13.size
      have HM13 := hide (own_below (unhide HM12) hb13)
      have HW13 := hide ((unhide HW12).trans (hb13.mono (unhide HW12).size))
      clear hb13
      go_wp2_with fail
      refine (heldPointS_any _ _ _ _ w13 (unhide HM13) hxl).mono ?_
      rintro e w' ⟨rfl, rfl⟩
      go_wp2_with fail
      go_ret
      exact ⟨rfl, (unhide HBB).trans ((unhide HW13).mono (unhide HBB).size)⟩
  · rw [if_neg hs] at hsz
    have HSZ := hide hsz; clear hsz ha
    go_enter Tryz.func8, Tryz.ntmps8
    go_wp2_with (go_at_call 9; (with_reducible refine ((unhide HSZ) _).mono ?_); rintro e w' ⟨rfl, rfl⟩)
    go_ret
    exact ⟨rfl, (by repeat (first | with_reducible exact Below.refl _ _ | with_reducible assumption | (with_reducible refine Below.trans ?_ (Below.mono (by assumption) (by first | omega | (simp <;> omega)))) | with_reducible apply Below.drew | with_reducible apply below_drewN | (with_reducible refine Below.alloc ?_ (by first | omega | (simp <;> omega)) _) | (with_reducible refine Below.setCell ?_ (by first | omega | (simp <;> omega)) _)))⟩
end Go.Proofs.YtgkbogcmmedmbaaGreat

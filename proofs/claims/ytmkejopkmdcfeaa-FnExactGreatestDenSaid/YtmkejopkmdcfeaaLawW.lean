/-
  Laws of functions of a map and of values, whose answers are values.
-/
import Derived.Test.YtmkejopkmdcfeaaOd
import Derived.Test.YtmkejopkmdcfeaaOe
namespace Go.Proofs.Ytmkejopkmdcfeaa
open Go.RowKit Rm

set_option maxRecDepth 100000 in
set_option maxHeartbeats 3200000 in
theorem lawGreatestDen (A : Option Addr) (n c : Nat) (ps : List Pt) (a1 b1 m2 : Int) (w : World) (ha : ArgP w A n ps) (hn : n ≤ maxLen) :
    Calls Try.prog 11 #[.slice A n c, .agg #[.int .i64 (a1), .int .i64 (b1)], .int .i64 m2] w fun e w' => e = .returned (.bool true) ∧ Below w.heap.size w w' := by
  have hsz := fun W => szPointS_any A n c hn W
  by_cases hs : n ≤ 1048576
  · rw [if_pos hs] at hsz
    have HSZ := hide hsz; clear hsz
    have HA := hide ha; clear ha
    have hsv := fun (W : World) (g base : Nat) hW => sGreatestDen_any (some ⟨g, 0, none⟩) n n base ps a1 b1 m2 W hW hs
    have hiv := fun (W : World) (g base : Nat) hW => iGreatestDen_any (some ⟨g, 0, none⟩) n n base ps a1 b1 m2 W hW hs
    generalize (gdO ps a1 b1 m2).getD 0 = u0 at *
    generalize (gdO ps a1 b1 m2).isSome = z1 at *
    have HSV := hide hsv; have HIV := hide hiv; clear hsv hiv
    go_enter Try.func11, Try.ntmps11
    go_upto_region 5 with (go_at_call 15; (with_reducible refine ((unhide HSZ) _).mono ?_); rintro e w' ⟨rfl, rfl⟩)
    have hb0 : Below w.heap.size w (w.alloc (.cells #[.int .i64 a1, .int .i64 b1] 24)) := (by repeat (first | with_reducible exact Below.refl _ _ | with_reducible assumption | (with_reducible refine Below.trans ?_ (Below.mono (by assumption) (by first | omega | (simp <;> omega)))) | with_reducible apply Below.drew | with_reducible apply below_drewN | (with_reducible refine Below.alloc ?_ (by first | omega | (simp <;> omega)) _) | (with_reducible refine Below.setCell ?_ (by first | omega | (simp <;> omega)) _)))
    have hs0 : w.heap.size + 1 ≤ (w.alloc (.cells #[.int .i64 a1, .int .i64 b1] 24)).heap.size := by simp
    have cb0a : (w.alloc (.cells #[.int .i64 a1, .int .i64 b1] 24)).cell? ⟨w.heap.size, 0, none⟩ = some (.int .i64 a1) := by simp [go_sem]
    have cb0b : (w.alloc (.cells #[.int .i64 a1, .int .i64 b1] 24)).cell? ⟨w.heap.size, 1, none⟩ = some (.int .i64 b1) := by simp [go_sem]
    have hl0 : w.heap.size < (w.alloc (.cells #[.int .i64 a1, .int .i64 b1] 24)).heap.size := by first | (simp; done) | (simp; omega)
    generalize hW0 : (w.alloc (.cells #[.int .i64 a1, .int .i64 b1] 24)) = W0 at *
    clear hW0
    have HA1 := hide ((unhide HA).below hb0)
    have HB0 := hide hb0
    clear hb0 HA
    go_cut [8, 9] (fun s8 s9 wx => s8 = .int .i64 u0 ∧ s9 = .bool z1 ∧ Below W0.heap.size W0 wx)
    case first =>
      go_region_held3 (fun w' => w'.cell? ⟨w.heap.size, 0, none⟩ = some (.int .i64 a1) ∧ w'.cell? ⟨w.heap.size, 1, none⟩ = some (.int .i64 b1)) (simp [go_sem, *])
        (first
          | (go_at_call 17; (with_reducible refine (toPointS_any A n c ps _ ((unhide HA1).below ?pb) hs).mono ?_); (case pb => exact (by repeat (first | with_reducible exact Below.refl _ _ | with_reducible assumption | (with_reducible refine Below.trans ?_ (Below.mono (by assumption) (by first | omega | (simp <;> omega)))) | with_reducible apply Below.drew | with_reducible apply below_drewN | (with_reducible refine Below.alloc ?_ (by first | omega | (simp <;> omega)) _) | (with_reducible refine Below.setCell ?_ (by first | omega | (simp <;> omega)) _)))); rintro e w1 ⟨g1, rfl, ho1, hbw1⟩; have hs1 := hbw1.size; (try simp at hs1); (skip; (try ((have kw1w.heap.sizeX0 := (bnew hbw1) (w.heap.size) ?pf); (case pf => (first | omega | (simp; done) | (simp; omega))); obtain ⟨kcw1w.heap.sizeX0, kfw1w.heap.sizeX0, klw1w.heap.sizeX0⟩ := kw1w.heap.sizeX0))); have HO1 := hide ho1; clear ho1)
          | (go_at_call 18; (with_reducible refine (toRat_any a1 b1 _).mono ?_); rintro e w20 ⟨rfl, hbw20⟩; obtain ⟨hcw20, hfw20⟩ := bcell hbw20; have hzw20 := hbw20.size; (try simp at hzw20); (try ((have kw20w.heap.sizeX0 := (bnew hbw20) (w.heap.size) ?pf); (case pf => (first | omega | (simp; done) | (simp; omega))); obtain ⟨kcw20w.heap.sizeX0, kfw20w.heap.sizeX0, klw20w.heap.sizeX0⟩ := kw20w.heap.sizeX0)))
          | (go_at_call 40; (with_reducible refine ((unhide HSV) _ _ _ (own_below (unhide HO1) ?pb)).mono ?_); (case pb => exact (by repeat (first | with_reducible exact Below.refl _ _ | with_reducible assumption | (with_reducible refine Below.trans ?_ (Below.mono (by assumption) (by first | omega | (simp <;> omega)))) | with_reducible apply Below.drew | with_reducible apply below_drewN | (with_reducible refine Below.alloc ?_ (by first | omega | (simp <;> omega)) _) | (with_reducible refine Below.setCell ?_ (by first | omega | (simp <;> omega)) _)))); rintro e w3 ⟨rfl, hbw3⟩; have hs3 := hbw3.size; (try simp at hs3); (skip; (try ((have kw3w.heap.sizeX0 := (bnew hbw3) (w.heap.size) ?pf); (case pf => (first | omega | (simp; done) | (simp; omega))); obtain ⟨kcw3w.heap.sizeX0, kfw3w.heap.sizeX0, klw3w.heap.sizeX0⟩ := kw3w.heap.sizeX0)))))
      all_goals
        go_wp2_with fail
        go_meet
        refine ⟨rfl, rfl, (by repeat (first | with_reducible exact Below.refl _ _ | with_reducible assumption | (with_reducible refine Below.trans ?_ (Below.mono (by assumption) (by first | omega | (simp <;> omega)))) | with_reducible apply Below.drew | with_reducible apply below_drewN | (with_reducible refine Below.alloc ?_ (by first | omega | (simp <;> omega)) _) | (with_reducible refine Below.setCell ?_ (by first | omega | (simp <;> omega)) _)))⟩
      skip
    case rest =>
      obtain ⟨rfl, rfl, hbwc⟩ := hcut
      have hzc := hbwc.size
      have ca0a : wc.cell? ⟨w.heap.size, 0, none⟩ = some (.int .i64 a1) := ((hbwc.cell (p := ⟨w.heap.size, 0, none⟩) (by show w.heap.size < _; omega))).trans cb0a
      have ca0b : wc.cell? ⟨w.heap.size, 1, none⟩ = some (.int .i64 b1) := ((hbwc.cell (p := ⟨w.heap.size, 1, none⟩) (by show w.heap.size < _; omega))).trans cb0b
      have HA2 := hide ((unhide HA1).below hbwc)
      have hbw : Below w.heap.size w wc := (unhide HB0).trans (hbwc.mono (unhide HB0).size)
      have hzw := hbw.size
      have HBW := hide hbw
      clear hbwc hbw HA1 HB0  cb0a cb0b
      cases z1
      all_goals
        go_wp2_with fail
        refine (toPointS_any A n c ps _ (unhide HA2) hs).mono ?_
        rintro e w3 ⟨g3, rfl, ho3, hbw3⟩
        have hz3 := hbw3.size
        (skip; (try ((have kw3w.heap.sizeX0 := (bnew hbw3) (w.heap.size) ?pf); (case pf => (first | omega | (simp; done) | (simp; omega))); obtain ⟨kcw3w.heap.sizeX0, kfw3w.heap.sizeX0, klw3w.heap.sizeX0⟩ := kw3w.heap.sizeX0)))
        have HO3 := hide ho3; clear ho3
        go_wp2_with (first | (go_at_call 18; (with_reducible refine (toRat_any a1 b1 _).mono ?_); rintro e w40 ⟨rfl, hbw40⟩; obtain ⟨hcw40, hfw40⟩ := bcell hbw40; have hzw40 := hbw40.size; (try simp at hzw40); (try ((have kw40w.heap.sizeX0 := (bnew hbw40) (w.heap.size) ?pf); (case pf => (first | omega | (simp; done) | (simp; omega))); obtain ⟨kcw40w.heap.sizeX0, kfw40w.heap.sizeX0, klw40w.heap.sizeX0⟩ := kw40w.heap.sizeX0))))
        refine ((unhide HIV) _ _ _ (own_below (unhide HO3) (by repeat (first | with_reducible exact Below.refl _ _ | with_reducible assumption | (with_reducible refine Below.trans ?_ (Below.mono (by assumption) (by first | omega | (simp <;> omega)))) | with_reducible apply Below.drew | with_reducible apply below_drewN | (with_reducible refine Below.alloc ?_ (by first | omega | (simp <;> omega)) _) | (with_reducible refine Below.setCell ?_ (by first | omega | (simp <;> omega)) _))))).mono ?_
        rintro e w5 ⟨rfl, hbw5⟩
        have hz5 := hbw5.size
        (skip; (try ((have kw5w.heap.sizeX0 := (bnew hbw5) (w.heap.size) ?pf); (case pf => (first | omega | (simp; done) | (simp; omega))); obtain ⟨kcw5w.heap.sizeX0, kfw5w.heap.sizeX0, klw5w.heap.sizeX0⟩ := kw5w.heap.sizeX0)))
        go_wp2_with (fail)
        have hbx : Below w3.heap.size w3 w5 := (by repeat (first | with_reducible exact Below.refl _ _ | with_reducible assumption | (with_reducible refine Below.trans ?_ (Below.mono (by assumption) (by first | omega | (simp <;> omega)))) | with_reducible apply Below.drew | with_reducible apply below_drewN | (with_reducible refine Below.alloc ?_ (by first | omega | (simp <;> omega)) _) | (with_reducible refine Below.setCell ?_ (by first | omega | (simp <;> omega)) _)))
        have hzx := hbx.size
        have HA6 := hide ((unhide HA2).below (hbw3.trans (hbx.mono hz3)))
        have HO6 := hide (own_below (unhide HO3) hbx)
        refine (toPointS_any A n c ps _ (unhide HA6) hs).mono ?_
        rintro e w7 ⟨g7, rfl, ho7, hbw7⟩
        have hz7 := hbw7.size
        have HO7 := hide ho7; clear ho7
        go_wp2_with fail
        refine (eqPointS_same _ _ n n n _ _ ps w7 (own_below (unhide HO6) hbw7) (unhide HO7) hs).mono ?_
        rintro e w8 ⟨rfl, hbw8⟩
        have hbw := unhide HBW
        go_wp2_with fail
        go_ret
        exact ⟨rfl, (by repeat (first | with_reducible exact Below.refl _ _ | with_reducible assumption | (with_reducible refine Below.trans ?_ (Below.mono (by assumption) (by first | omega | (simp <;> omega)))) | with_reducible apply Below.drew | with_reducible apply below_drewN | (with_reducible refine Below.alloc ?_ (by first | omega | (simp <;> omega)) _) | (with_reducible refine Below.setCell ?_ (by first | omega | (simp <;> omega)) _)))⟩
  · rw [if_neg hs] at hsz
    have HSZ := hide hsz; clear hsz ha
    go_enter Try.func11, Try.ntmps11
    go_wp2_with (go_at_call 15; (with_reducible refine ((unhide HSZ) _).mono ?_); rintro e w' ⟨rfl, rfl⟩)
    go_ret
    exact ⟨rfl, (by repeat (first | with_reducible exact Below.refl _ _ | with_reducible assumption | (with_reducible refine Below.trans ?_ (Below.mono (by assumption) (by first | omega | (simp <;> omega)))) | with_reducible apply Below.drew | with_reducible apply below_drewN | (with_reducible refine Below.alloc ?_ (by first | omega | (simp <;> omega)) _) | (with_reducible refine Below.setCell ?_ (by first | omega | (simp <;> omega)) _)))⟩

set_option maxRecDepth 100000 in
set_option maxHeartbeats 3200000 in
theorem lawVisitsOf (A : Option Addr) (n c : Nat) (ps : List Pt) (a1 b1 m2 a3 b3 a4 b4 : Int) (w : World) (ha : ArgP w A n ps) (hn : n ≤ maxLen) :
    Calls Try.prog 8 #[.slice A n c, .agg #[.int .i64 (a1), .int .i64 (b1)], .int .i64 m2, .agg #[.int .i64 (a3), .int .i64 (b3)], .agg #[.int .i64 (a4), .int .i64 (b4)]] w fun e w' => e = .returned (.bool true) ∧ Below w.heap.size w w' := by
  have hsz := fun W => szPointS_any A n c hn W
  by_cases hs : n ≤ 1048576
  · rw [if_pos hs] at hsz
    have HSZ := hide hsz; clear hsz
    have HA := hide ha; clear ha
    have hsv := fun (W : World) (g base : Nat) hW => sVisitsOf_any (some ⟨g, 0, none⟩) n n base ps a1 b1 m2 a3 b3 a4 b4 W hW hs
    have hiv := fun (W : World) (g base : Nat) hW => iVisitsOf_any (some ⟨g, 0, none⟩) n n base ps a1 b1 m2 a3 b3 a4 b4 W hW hs
    generalize (vsO ps a1 b1 m2 a3 b3 a4 b4).getD 0 = u0 at *
    generalize (vsO ps a1 b1 m2 a3 b3 a4 b4).isSome = z1 at *
    have HSV := hide hsv; have HIV := hide hiv; clear hsv hiv
    go_enter Try.func8, Try.ntmps8
    go_upto_region 5 with (go_at_call 15; (with_reducible refine ((unhide HSZ) _).mono ?_); rintro e w' ⟨rfl, rfl⟩)
    have hb0 : Below w.heap.size w (((w.alloc (.cells #[.int .i64 a1, .int .i64 b1] 24)).alloc (.cells #[.int .i64 a3, .int .i64 b3] 24)).alloc (.cells #[.int .i64 a4, .int .i64 b4] 24)) := (by repeat (first | with_reducible exact Below.refl _ _ | with_reducible assumption | (with_reducible refine Below.trans ?_ (Below.mono (by assumption) (by first | omega | (simp <;> omega)))) | with_reducible apply Below.drew | with_reducible apply below_drewN | (with_reducible refine Below.alloc ?_ (by first | omega | (simp <;> omega)) _) | (with_reducible refine Below.setCell ?_ (by first | omega | (simp <;> omega)) _)))
    have hs0 : w.heap.size + 1 + 1 + 1 ≤ (((w.alloc (.cells #[.int .i64 a1, .int .i64 b1] 24)).alloc (.cells #[.int .i64 a3, .int .i64 b3] 24)).alloc (.cells #[.int .i64 a4, .int .i64 b4] 24)).heap.size := by simp
    have cb0a : (((w.alloc (.cells #[.int .i64 a1, .int .i64 b1] 24)).alloc (.cells #[.int .i64 a3, .int .i64 b3] 24)).alloc (.cells #[.int .i64 a4, .int .i64 b4] 24)).cell? ⟨w.heap.size, 0, none⟩ = some (.int .i64 a1) := by simp [go_sem]
    have cb0b : (((w.alloc (.cells #[.int .i64 a1, .int .i64 b1] 24)).alloc (.cells #[.int .i64 a3, .int .i64 b3] 24)).alloc (.cells #[.int .i64 a4, .int .i64 b4] 24)).cell? ⟨w.heap.size, 1, none⟩ = some (.int .i64 b1) := by simp [go_sem]
    have cb1a : (((w.alloc (.cells #[.int .i64 a1, .int .i64 b1] 24)).alloc (.cells #[.int .i64 a3, .int .i64 b3] 24)).alloc (.cells #[.int .i64 a4, .int .i64 b4] 24)).cell? ⟨w.heap.size + 1, 0, none⟩ = some (.int .i64 a3) := by simp [go_sem]
    have cb1b : (((w.alloc (.cells #[.int .i64 a1, .int .i64 b1] 24)).alloc (.cells #[.int .i64 a3, .int .i64 b3] 24)).alloc (.cells #[.int .i64 a4, .int .i64 b4] 24)).cell? ⟨w.heap.size + 1, 1, none⟩ = some (.int .i64 b3) := by simp [go_sem]
    have cb2a : (((w.alloc (.cells #[.int .i64 a1, .int .i64 b1] 24)).alloc (.cells #[.int .i64 a3, .int .i64 b3] 24)).alloc (.cells #[.int .i64 a4, .int .i64 b4] 24)).cell? ⟨w.heap.size + 1 + 1, 0, none⟩ = some (.int .i64 a4) := by simp [go_sem]
    have cb2b : (((w.alloc (.cells #[.int .i64 a1, .int .i64 b1] 24)).alloc (.cells #[.int .i64 a3, .int .i64 b3] 24)).alloc (.cells #[.int .i64 a4, .int .i64 b4] 24)).cell? ⟨w.heap.size + 1 + 1, 1, none⟩ = some (.int .i64 b4) := by simp [go_sem]
    have hl0 : w.heap.size < (((w.alloc (.cells #[.int .i64 a1, .int .i64 b1] 24)).alloc (.cells #[.int .i64 a3, .int .i64 b3] 24)).alloc (.cells #[.int .i64 a4, .int .i64 b4] 24)).heap.size := by first | (simp; done) | (simp; omega)
    have hl1 : w.heap.size + 1 < (((w.alloc (.cells #[.int .i64 a1, .int .i64 b1] 24)).alloc (.cells #[.int .i64 a3, .int .i64 b3] 24)).alloc (.cells #[.int .i64 a4, .int .i64 b4] 24)).heap.size := by first | (simp; done) | (simp; omega)
    have hl2 : w.heap.size + 1 + 1 < (((w.alloc (.cells #[.int .i64 a1, .int .i64 b1] 24)).alloc (.cells #[.int .i64 a3, .int .i64 b3] 24)).alloc (.cells #[.int .i64 a4, .int .i64 b4] 24)).heap.size := by first | (simp; done) | (simp; omega)
    generalize hW0 : (((w.alloc (.cells #[.int .i64 a1, .int .i64 b1] 24)).alloc (.cells #[.int .i64 a3, .int .i64 b3] 24)).alloc (.cells #[.int .i64 a4, .int .i64 b4] 24)) = W0 at *
    clear hW0
    have HA1 := hide ((unhide HA).below hb0)
    have HB0 := hide hb0
    clear hb0 HA
    go_cut [12, 13] (fun s12 s13 wx => s12 = .int .i64 u0 ∧ s13 = .bool z1 ∧ Below W0.heap.size W0 wx)
    case first =>
      go_region_held3 (fun w' => w'.cell? ⟨w.heap.size, 0, none⟩ = some (.int .i64 a1) ∧ w'.cell? ⟨w.heap.size, 1, none⟩ = some (.int .i64 b1) ∧ w'.cell? ⟨w.heap.size + 1, 0, none⟩ = some (.int .i64 a3) ∧ w'.cell? ⟨w.heap.size + 1, 1, none⟩ = some (.int .i64 b3) ∧ w'.cell? ⟨w.heap.size + 1 + 1, 0, none⟩ = some (.int .i64 a4) ∧ w'.cell? ⟨w.heap.size + 1 + 1, 1, none⟩ = some (.int .i64 b4)) (simp [go_sem, *])
        (first
          | (go_at_call 17; (with_reducible refine (toPointS_any A n c ps _ ((unhide HA1).below ?pb) hs).mono ?_); (case pb => exact (by repeat (first | with_reducible exact Below.refl _ _ | with_reducible assumption | (with_reducible refine Below.trans ?_ (Below.mono (by assumption) (by first | omega | (simp <;> omega)))) | with_reducible apply Below.drew | with_reducible apply below_drewN | (with_reducible refine Below.alloc ?_ (by first | omega | (simp <;> omega)) _) | (with_reducible refine Below.setCell ?_ (by first | omega | (simp <;> omega)) _)))); rintro e w1 ⟨g1, rfl, ho1, hbw1⟩; have hs1 := hbw1.size; (try simp at hs1); (skip; (try ((have kw1w.heap.sizeX0 := (bnew hbw1) (w.heap.size) ?pf); (case pf => (first | omega | (simp; done) | (simp; omega))); obtain ⟨kcw1w.heap.sizeX0, kfw1w.heap.sizeX0, klw1w.heap.sizeX0⟩ := kw1w.heap.sizeX0)); (try ((have kw1w.heap.sizeX1 := (bnew hbw1) (w.heap.size + 1) ?pf); (case pf => (first | omega | (simp; done) | (simp; omega))); obtain ⟨kcw1w.heap.sizeX1, kfw1w.heap.sizeX1, klw1w.heap.sizeX1⟩ := kw1w.heap.sizeX1)); (try ((have kw1w.heap.sizeX2 := (bnew hbw1) (w.heap.size + 1 + 1) ?pf); (case pf => (first | omega | (simp; done) | (simp; omega))); obtain ⟨kcw1w.heap.sizeX2, kfw1w.heap.sizeX2, klw1w.heap.sizeX2⟩ := kw1w.heap.sizeX2))); have HO1 := hide ho1; clear ho1)
          | (go_at_call 18; (with_reducible refine (toRat_any a1 b1 _).mono ?_); rintro e w20 ⟨rfl, hbw20⟩; obtain ⟨hcw20, hfw20⟩ := bcell hbw20; have hzw20 := hbw20.size; (try simp at hzw20); (try ((have kw20w.heap.sizeX0 := (bnew hbw20) (w.heap.size) ?pf); (case pf => (first | omega | (simp; done) | (simp; omega))); obtain ⟨kcw20w.heap.sizeX0, kfw20w.heap.sizeX0, klw20w.heap.sizeX0⟩ := kw20w.heap.sizeX0)); (try ((have kw20w.heap.sizeX1 := (bnew hbw20) (w.heap.size + 1) ?pf); (case pf => (first | omega | (simp; done) | (simp; omega))); obtain ⟨kcw20w.heap.sizeX1, kfw20w.heap.sizeX1, klw20w.heap.sizeX1⟩ := kw20w.heap.sizeX1)); (try ((have kw20w.heap.sizeX2 := (bnew hbw20) (w.heap.size + 1 + 1) ?pf); (case pf => (first | omega | (simp; done) | (simp; omega))); obtain ⟨kcw20w.heap.sizeX2, kfw20w.heap.sizeX2, klw20w.heap.sizeX2⟩ := kw20w.heap.sizeX2))) | (go_at_call 18; (with_reducible refine (toRat_any a3 b3 _).mono ?_); rintro e w21 ⟨rfl, hbw21⟩; obtain ⟨hcw21, hfw21⟩ := bcell hbw21; have hzw21 := hbw21.size; (try simp at hzw21); (try ((have kw21w.heap.sizeX0 := (bnew hbw21) (w.heap.size) ?pf); (case pf => (first | omega | (simp; done) | (simp; omega))); obtain ⟨kcw21w.heap.sizeX0, kfw21w.heap.sizeX0, klw21w.heap.sizeX0⟩ := kw21w.heap.sizeX0)); (try ((have kw21w.heap.sizeX1 := (bnew hbw21) (w.heap.size + 1) ?pf); (case pf => (first | omega | (simp; done) | (simp; omega))); obtain ⟨kcw21w.heap.sizeX1, kfw21w.heap.sizeX1, klw21w.heap.sizeX1⟩ := kw21w.heap.sizeX1)); (try ((have kw21w.heap.sizeX2 := (bnew hbw21) (w.heap.size + 1 + 1) ?pf); (case pf => (first | omega | (simp; done) | (simp; omega))); obtain ⟨kcw21w.heap.sizeX2, kfw21w.heap.sizeX2, klw21w.heap.sizeX2⟩ := kw21w.heap.sizeX2))) | (go_at_call 18; (with_reducible refine (toRat_any a4 b4 _).mono ?_); rintro e w22 ⟨rfl, hbw22⟩; obtain ⟨hcw22, hfw22⟩ := bcell hbw22; have hzw22 := hbw22.size; (try simp at hzw22); (try ((have kw22w.heap.sizeX0 := (bnew hbw22) (w.heap.size) ?pf); (case pf => (first | omega | (simp; done) | (simp; omega))); obtain ⟨kcw22w.heap.sizeX0, kfw22w.heap.sizeX0, klw22w.heap.sizeX0⟩ := kw22w.heap.sizeX0)); (try ((have kw22w.heap.sizeX1 := (bnew hbw22) (w.heap.size + 1) ?pf); (case pf => (first | omega | (simp; done) | (simp; omega))); obtain ⟨kcw22w.heap.sizeX1, kfw22w.heap.sizeX1, klw22w.heap.sizeX1⟩ := kw22w.heap.sizeX1)); (try ((have kw22w.heap.sizeX2 := (bnew hbw22) (w.heap.size + 1 + 1) ?pf); (case pf => (first | omega | (simp; done) | (simp; omega))); obtain ⟨kcw22w.heap.sizeX2, kfw22w.heap.sizeX2, klw22w.heap.sizeX2⟩ := kw22w.heap.sizeX2)))
          | (go_at_call 34; (with_reducible refine ((unhide HSV) _ _ _ (own_below (unhide HO1) ?pb)).mono ?_); (case pb => exact (by repeat (first | with_reducible exact Below.refl _ _ | with_reducible assumption | (with_reducible refine Below.trans ?_ (Below.mono (by assumption) (by first | omega | (simp <;> omega)))) | with_reducible apply Below.drew | with_reducible apply below_drewN | (with_reducible refine Below.alloc ?_ (by first | omega | (simp <;> omega)) _) | (with_reducible refine Below.setCell ?_ (by first | omega | (simp <;> omega)) _)))); rintro e w3 ⟨rfl, hbw3⟩; have hs3 := hbw3.size; (try simp at hs3); (skip; (try ((have kw3w.heap.sizeX0 := (bnew hbw3) (w.heap.size) ?pf); (case pf => (first | omega | (simp; done) | (simp; omega))); obtain ⟨kcw3w.heap.sizeX0, kfw3w.heap.sizeX0, klw3w.heap.sizeX0⟩ := kw3w.heap.sizeX0)); (try ((have kw3w.heap.sizeX1 := (bnew hbw3) (w.heap.size + 1) ?pf); (case pf => (first | omega | (simp; done) | (simp; omega))); obtain ⟨kcw3w.heap.sizeX1, kfw3w.heap.sizeX1, klw3w.heap.sizeX1⟩ := kw3w.heap.sizeX1)); (try ((have kw3w.heap.sizeX2 := (bnew hbw3) (w.heap.size + 1 + 1) ?pf); (case pf => (first | omega | (simp; done) | (simp; omega))); obtain ⟨kcw3w.heap.sizeX2, kfw3w.heap.sizeX2, klw3w.heap.sizeX2⟩ := kw3w.heap.sizeX2)))))
      all_goals
        go_wp2_with fail
        go_meet
        refine ⟨rfl, rfl, (by repeat (first | with_reducible exact Below.refl _ _ | with_reducible assumption | (with_reducible refine Below.trans ?_ (Below.mono (by assumption) (by first | omega | (simp <;> omega)))) | with_reducible apply Below.drew | with_reducible apply below_drewN | (with_reducible refine Below.alloc ?_ (by first | omega | (simp <;> omega)) _) | (with_reducible refine Below.setCell ?_ (by first | omega | (simp <;> omega)) _)))⟩
      skip
    case rest =>
      obtain ⟨rfl, rfl, hbwc⟩ := hcut
      have hzc := hbwc.size
      have ca0a : wc.cell? ⟨w.heap.size, 0, none⟩ = some (.int .i64 a1) := ((hbwc.cell (p := ⟨w.heap.size, 0, none⟩) (by show w.heap.size < _; omega))).trans cb0a
      have ca0b : wc.cell? ⟨w.heap.size, 1, none⟩ = some (.int .i64 b1) := ((hbwc.cell (p := ⟨w.heap.size, 1, none⟩) (by show w.heap.size < _; omega))).trans cb0b
      have ca1a : wc.cell? ⟨w.heap.size + 1, 0, none⟩ = some (.int .i64 a3) := ((hbwc.cell (p := ⟨w.heap.size + 1, 0, none⟩) (by show w.heap.size + 1 < _; omega))).trans cb1a
      have ca1b : wc.cell? ⟨w.heap.size + 1, 1, none⟩ = some (.int .i64 b3) := ((hbwc.cell (p := ⟨w.heap.size + 1, 1, none⟩) (by show w.heap.size + 1 < _; omega))).trans cb1b
      have ca2a : wc.cell? ⟨w.heap.size + 1 + 1, 0, none⟩ = some (.int .i64 a4) := ((hbwc.cell (p := ⟨w.heap.size + 1 + 1, 0, none⟩) (by show w.heap.size + 1 + 1 < _; omega))).trans cb2a
      have ca2b : wc.cell? ⟨w.heap.size + 1 + 1, 1, none⟩ = some (.int .i64 b4) := ((hbwc.cell (p := ⟨w.heap.size + 1 + 1, 1, none⟩) (by show w.heap.size + 1 + 1 < _; omega))).trans cb2b
      have HA2 := hide ((unhide HA1).below hbwc)
      have hbw : Below w.heap.size w wc := (unhide HB0).trans (hbwc.mono (unhide HB0).size)
      have hzw := hbw.size
      have HBW := hide hbw
      clear hbwc hbw HA1 HB0  cb0a cb0b cb1a cb1b cb2a cb2b
      cases z1
      all_goals
        go_wp2_with fail
        refine (toPointS_any A n c ps _ (unhide HA2) hs).mono ?_
        rintro e w3 ⟨g3, rfl, ho3, hbw3⟩
        have hz3 := hbw3.size
        (skip; (try ((have kw3w.heap.sizeX0 := (bnew hbw3) (w.heap.size) ?pf); (case pf => (first | omega | (simp; done) | (simp; omega))); obtain ⟨kcw3w.heap.sizeX0, kfw3w.heap.sizeX0, klw3w.heap.sizeX0⟩ := kw3w.heap.sizeX0)); (try ((have kw3w.heap.sizeX1 := (bnew hbw3) (w.heap.size + 1) ?pf); (case pf => (first | omega | (simp; done) | (simp; omega))); obtain ⟨kcw3w.heap.sizeX1, kfw3w.heap.sizeX1, klw3w.heap.sizeX1⟩ := kw3w.heap.sizeX1)); (try ((have kw3w.heap.sizeX2 := (bnew hbw3) (w.heap.size + 1 + 1) ?pf); (case pf => (first | omega | (simp; done) | (simp; omega))); obtain ⟨kcw3w.heap.sizeX2, kfw3w.heap.sizeX2, klw3w.heap.sizeX2⟩ := kw3w.heap.sizeX2)))
        have HO3 := hide ho3; clear ho3
        go_upto_region 7 with fail
        have hw3l : w.heap.size < w3.heap.size ∧ w.heap.size + 1 < w3.heap.size ∧ w.heap.size + 1 + 1 < w3.heap.size := by refine ⟨?_, ?_, ?_⟩ <;> omega
        obtain ⟨hx0, hx1, hx2⟩ := hw3l
        go_cut [15, 16] (fun s15 s16 wx => s15 = .int .i64 u0 ∧ s16 = .bool _ ∧ Below w3.heap.size w3 wx)
        case first =>
          go_region_held3 (fun w' => w'.cell? ⟨w.heap.size, 0, none⟩ = some (.int .i64 a1) ∧ w'.cell? ⟨w.heap.size, 1, none⟩ = some (.int .i64 b1) ∧ w'.cell? ⟨w.heap.size + 1, 0, none⟩ = some (.int .i64 a3) ∧ w'.cell? ⟨w.heap.size + 1, 1, none⟩ = some (.int .i64 b3) ∧ w'.cell? ⟨w.heap.size + 1 + 1, 0, none⟩ = some (.int .i64 a4) ∧ w'.cell? ⟨w.heap.size + 1 + 1, 1, none⟩ = some (.int .i64 b4)) (simp [go_sem, *])
            (first
              | (go_at_call 18; (with_reducible refine (toRat_any a1 b1 _).mono ?_); rintro e w40 ⟨rfl, hbw40⟩; obtain ⟨hcw40, hfw40⟩ := bcell hbw40; have hzw40 := hbw40.size; (try simp at hzw40); (try ((have kw40w.heap.sizeX0 := (bnew hbw40) (w.heap.size) ?pf); (case pf => (first | omega | (simp; done) | (simp; omega))); obtain ⟨kcw40w.heap.sizeX0, kfw40w.heap.sizeX0, klw40w.heap.sizeX0⟩ := kw40w.heap.sizeX0)); (try ((have kw40w.heap.sizeX1 := (bnew hbw40) (w.heap.size + 1) ?pf); (case pf => (first | omega | (simp; done) | (simp; omega))); obtain ⟨kcw40w.heap.sizeX1, kfw40w.heap.sizeX1, klw40w.heap.sizeX1⟩ := kw40w.heap.sizeX1)); (try ((have kw40w.heap.sizeX2 := (bnew hbw40) (w.heap.size + 1 + 1) ?pf); (case pf => (first | omega | (simp; done) | (simp; omega))); obtain ⟨kcw40w.heap.sizeX2, kfw40w.heap.sizeX2, klw40w.heap.sizeX2⟩ := kw40w.heap.sizeX2))) | (go_at_call 18; (with_reducible refine (toRat_any a3 b3 _).mono ?_); rintro e w41 ⟨rfl, hbw41⟩; obtain ⟨hcw41, hfw41⟩ := bcell hbw41; have hzw41 := hbw41.size; (try simp at hzw41); (try ((have kw41w.heap.sizeX0 := (bnew hbw41) (w.heap.size) ?pf); (case pf => (first | omega | (simp; done) | (simp; omega))); obtain ⟨kcw41w.heap.sizeX0, kfw41w.heap.sizeX0, klw41w.heap.sizeX0⟩ := kw41w.heap.sizeX0)); (try ((have kw41w.heap.sizeX1 := (bnew hbw41) (w.heap.size + 1) ?pf); (case pf => (first | omega | (simp; done) | (simp; omega))); obtain ⟨kcw41w.heap.sizeX1, kfw41w.heap.sizeX1, klw41w.heap.sizeX1⟩ := kw41w.heap.sizeX1)); (try ((have kw41w.heap.sizeX2 := (bnew hbw41) (w.heap.size + 1 + 1) ?pf); (case pf => (first | omega | (simp; done) | (simp; omega))); obtain ⟨kcw41w.heap.sizeX2, kfw41w.heap.sizeX2, klw41w.heap.sizeX2⟩ := kw41w.heap.sizeX2))) | (go_at_call 18; (with_reducible refine (toRat_any a4 b4 _).mono ?_); rintro e w42 ⟨rfl, hbw42⟩; obtain ⟨hcw42, hfw42⟩ := bcell hbw42; have hzw42 := hbw42.size; (try simp at hzw42); (try ((have kw42w.heap.sizeX0 := (bnew hbw42) (w.heap.size) ?pf); (case pf => (first | omega | (simp; done) | (simp; omega))); obtain ⟨kcw42w.heap.sizeX0, kfw42w.heap.sizeX0, klw42w.heap.sizeX0⟩ := kw42w.heap.sizeX0)); (try ((have kw42w.heap.sizeX1 := (bnew hbw42) (w.heap.size + 1) ?pf); (case pf => (first | omega | (simp; done) | (simp; omega))); obtain ⟨kcw42w.heap.sizeX1, kfw42w.heap.sizeX1, klw42w.heap.sizeX1⟩ := kw42w.heap.sizeX1)); (try ((have kw42w.heap.sizeX2 := (bnew hbw42) (w.heap.size + 1 + 1) ?pf); (case pf => (first | omega | (simp; done) | (simp; omega))); obtain ⟨kcw42w.heap.sizeX2, kfw42w.heap.sizeX2, klw42w.heap.sizeX2⟩ := kw42w.heap.sizeX2)))
              | (go_at_call 35; (with_reducible refine ((unhide HIV) _ _ _ (own_below (unhide HO3) ?pb)).mono ?_); (case pb => exact (by repeat (first | with_reducible exact Below.refl _ _ | with_reducible assumption | (with_reducible refine Below.trans ?_ (Below.mono (by assumption) (by first | omega | (simp <;> omega)))) | with_reducible apply Below.drew | with_reducible apply below_drewN | (with_reducible refine Below.alloc ?_ (by first | omega | (simp <;> omega)) _) | (with_reducible refine Below.setCell ?_ (by first | omega | (simp <;> omega)) _)))); rintro e w5 ⟨rfl, hbw5⟩; have hs5 := hbw5.size; (try simp at hs5); (skip; (try ((have kw5w.heap.sizeX0 := (bnew hbw5) (w.heap.size) ?pf); (case pf => (first | omega | (simp; done) | (simp; omega))); obtain ⟨kcw5w.heap.sizeX0, kfw5w.heap.sizeX0, klw5w.heap.sizeX0⟩ := kw5w.heap.sizeX0)); (try ((have kw5w.heap.sizeX1 := (bnew hbw5) (w.heap.size + 1) ?pf); (case pf => (first | omega | (simp; done) | (simp; omega))); obtain ⟨kcw5w.heap.sizeX1, kfw5w.heap.sizeX1, klw5w.heap.sizeX1⟩ := kw5w.heap.sizeX1)); (try ((have kw5w.heap.sizeX2 := (bnew hbw5) (w.heap.size + 1 + 1) ?pf); (case pf => (first | omega | (simp; done) | (simp; omega))); obtain ⟨kcw5w.heap.sizeX2, kfw5w.heap.sizeX2, klw5w.heap.sizeX2⟩ := kw5w.heap.sizeX2)))))
          all_goals
            go_wp2_with fail
            go_meet
            refine ⟨rfl, rfl, (by repeat (first | with_reducible exact Below.refl _ _ | with_reducible assumption | (with_reducible refine Below.trans ?_ (Below.mono (by assumption) (by first | omega | (simp <;> omega)))) | with_reducible apply Below.drew | with_reducible apply below_drewN | (with_reducible refine Below.alloc ?_ (by first | omega | (simp <;> omega)) _) | (with_reducible refine Below.setCell ?_ (by first | omega | (simp <;> omega)) _)))⟩
          skip
        case rest =>
        obtain ⟨rfl, rfl, hbwd⟩ := hcut
        have hz5 := hbwd.size
        skip
        go_wp2_with (fail)
        have hbx : Below w3.heap.size w3 wc := (by repeat (first | with_reducible exact Below.refl _ _ | with_reducible assumption | (with_reducible refine Below.trans ?_ (Below.mono (by assumption) (by first | omega | (simp <;> omega)))) | with_reducible apply Below.drew | with_reducible apply below_drewN | (with_reducible refine Below.alloc ?_ (by first | omega | (simp <;> omega)) _) | (with_reducible refine Below.setCell ?_ (by first | omega | (simp <;> omega)) _)))
        have hzx := hbx.size
        have HA6 := hide ((unhide HA2).below (hbw3.trans (hbx.mono hz3)))
        have HO6 := hide (own_below (unhide HO3) hbx)
        refine (toPointS_any A n c ps _ (unhide HA6) hs).mono ?_
        rintro e w7 ⟨g7, rfl, ho7, hbw7⟩
        have hz7 := hbw7.size
        have HO7 := hide ho7; clear ho7
        go_wp2_with fail
        refine (eqPointS_same _ _ n n n _ _ ps w7 (own_below (unhide HO6) hbw7) (unhide HO7) hs).mono ?_
        rintro e w8 ⟨rfl, hbw8⟩
        have hbw := unhide HBW
        go_wp2_with fail
        go_ret
        exact ⟨rfl, (by repeat (first | with_reducible exact Below.refl _ _ | with_reducible assumption | (with_reducible refine Below.trans ?_ (Below.mono (by assumption) (by first | omega | (simp <;> omega)))) | with_reducible apply Below.drew | with_reducible apply below_drewN | (with_reducible refine Below.alloc ?_ (by first | omega | (simp <;> omega)) _) | (with_reducible refine Below.setCell ?_ (by first | omega | (simp <;> omega)) _)))⟩
  · rw [if_neg hs] at hsz
    have HSZ := hide hsz; clear hsz ha
    go_enter Try.func8, Try.ntmps8
    go_wp2_with (go_at_call 15; (with_reducible refine ((unhide HSZ) _).mono ?_); rintro e w' ⟨rfl, rfl⟩)
    go_ret
    exact ⟨rfl, (by repeat (first | with_reducible exact Below.refl _ _ | with_reducible assumption | (with_reducible refine Below.trans ?_ (Below.mono (by assumption) (by first | omega | (simp <;> omega)))) | with_reducible apply Below.drew | with_reducible apply below_drewN | (with_reducible refine Below.alloc ?_ (by first | omega | (simp <;> omega)) _) | (with_reducible refine Below.setCell ?_ (by first | omega | (simp <;> omega)) _)))⟩
end Go.Proofs.Ytmkejopkmdcfeaa

/-
  Laws of functions of a map and of values, whose answers are values.
-/
import Derived.Test.YtmkejopkmdcfeaaOh
namespace Go.Proofs.Ytmkejopkmdcfeaa
open Go.RowKit Rm

set_option maxRecDepth 100000 in
set_option maxHeartbeats 3200000 in
theorem lawOrbitDistance (A : Option Addr) (n c : Nat) (ps : List Pt) (a1 b1 a2 b2 m3 : Int) (w : World) (ha : ArgP w A n ps) (hn : n ≤ maxLen) :
    Calls Try.prog 9 #[.slice A n c, .agg #[.int .i64 (a1), .int .i64 (b1)], .agg #[.int .i64 (a2), .int .i64 (b2)], .int .i64 m3] w fun e w' => e = .returned (.bool true) ∧ Below w.heap.size w w' := by
  have hsz := fun W => szPointS_any A n c hn W
  by_cases hs : n ≤ 1048576
  · rw [if_pos hs] at hsz
    have HSZ := hide hsz; clear hsz
    have HA := hide ha; clear ha
    have hsv := fun (W : World) (g base : Nat) hW => sOrbitDistance_any (some ⟨g, 0, none⟩) n n base ps a1 b1 a2 b2 m3 W hW hs
    have hiv := fun (W : World) (g base : Nat) hW => iOrbitDistance_any (some ⟨g, 0, none⟩) n n base ps a1 b1 a2 b2 m3 W hW hs
    generalize oN (dsO ps a1 b1 a2 b2 m3) = u0 at *
    generalize oD (dsO ps a1 b1 a2 b2 m3) = v0 at *
    generalize (dsO ps a1 b1 a2 b2 m3).isSome = z1 at *
    have HSV := hide hsv; have HIV := hide hiv; clear hsv hiv
    go_enter Try.func9, Try.ntmps9
    go_upto_region 5 with (go_at_call 15; (with_reducible refine ((unhide HSZ) _).mono ?_); rintro e w' ⟨rfl, rfl⟩)
    have hb0 : Below w.heap.size w ((w.alloc (.cells #[.int .i64 a1, .int .i64 b1] 24)).alloc (.cells #[.int .i64 a2, .int .i64 b2] 24)) := (by repeat (first | with_reducible exact Below.refl _ _ | with_reducible assumption | (with_reducible refine Below.trans ?_ (Below.mono (by assumption) (by first | omega | (simp <;> omega)))) | with_reducible apply Below.drew | with_reducible apply below_drewN | (with_reducible refine Below.alloc ?_ (by first | omega | (simp <;> omega)) _) | (with_reducible refine Below.setCell ?_ (by first | omega | (simp <;> omega)) _)))
    have hs0 : w.heap.size + 1 + 1 ≤ ((w.alloc (.cells #[.int .i64 a1, .int .i64 b1] 24)).alloc (.cells #[.int .i64 a2, .int .i64 b2] 24)).heap.size := by simp
    have cb0a : ((w.alloc (.cells #[.int .i64 a1, .int .i64 b1] 24)).alloc (.cells #[.int .i64 a2, .int .i64 b2] 24)).cell? ⟨w.heap.size, 0, none⟩ = some (.int .i64 a1) := by simp [go_sem]
    have cb0b : ((w.alloc (.cells #[.int .i64 a1, .int .i64 b1] 24)).alloc (.cells #[.int .i64 a2, .int .i64 b2] 24)).cell? ⟨w.heap.size, 1, none⟩ = some (.int .i64 b1) := by simp [go_sem]
    have cb1a : ((w.alloc (.cells #[.int .i64 a1, .int .i64 b1] 24)).alloc (.cells #[.int .i64 a2, .int .i64 b2] 24)).cell? ⟨w.heap.size + 1, 0, none⟩ = some (.int .i64 a2) := by simp [go_sem]
    have cb1b : ((w.alloc (.cells #[.int .i64 a1, .int .i64 b1] 24)).alloc (.cells #[.int .i64 a2, .int .i64 b2] 24)).cell? ⟨w.heap.size + 1, 1, none⟩ = some (.int .i64 b2) := by simp [go_sem]
    have hl0 : w.heap.size < ((w.alloc (.cells #[.int .i64 a1, .int .i64 b1] 24)).alloc (.cells #[.int .i64 a2, .int .i64 b2] 24)).heap.size := by first | (simp; done) | (simp; omega)
    have hl1 : w.heap.size + 1 < ((w.alloc (.cells #[.int .i64 a1, .int .i64 b1] 24)).alloc (.cells #[.int .i64 a2, .int .i64 b2] 24)).heap.size := by first | (simp; done) | (simp; omega)
    generalize hW0 : ((w.alloc (.cells #[.int .i64 a1, .int .i64 b1] 24)).alloc (.cells #[.int .i64 a2, .int .i64 b2] 24)) = W0 at *
    clear hW0
    have HA1 := hide ((unhide HA).below hb0)
    have HB0 := hide hb0
    clear hb0 HA
    go_cut [10, 11] (fun s10 s11 wx => (∃ g : Nat, s10 = .pointer (some ⟨g, 0, none⟩) ∧ Box2 W0 wx g u0 v0) ∧ s11 = .bool z1 ∧ Below W0.heap.size W0 wx)
    case first =>
      go_region_held3 (fun w' => w'.cell? ⟨w.heap.size, 0, none⟩ = some (.int .i64 a1) ∧ w'.cell? ⟨w.heap.size, 1, none⟩ = some (.int .i64 b1) ∧ w'.cell? ⟨w.heap.size + 1, 0, none⟩ = some (.int .i64 a2) ∧ w'.cell? ⟨w.heap.size + 1, 1, none⟩ = some (.int .i64 b2)) (simp [go_sem, World.cell?_alloc_past, *])
        (first
          | (go_at_call 17; (with_reducible refine (toPointS_any A n c ps _ ((unhide HA1).below ?pb) hs).mono ?_); (case pb => exact (by repeat (first | with_reducible exact Below.refl _ _ | with_reducible assumption | (with_reducible refine Below.trans ?_ (Below.mono (by assumption) (by first | omega | (simp <;> omega)))) | with_reducible apply Below.drew | with_reducible apply below_drewN | (with_reducible refine Below.alloc ?_ (by first | omega | (simp <;> omega)) _) | (with_reducible refine Below.setCell ?_ (by first | omega | (simp <;> omega)) _)))); rintro e w1 ⟨g1, rfl, ho1, hbw1⟩; have hs1 := hbw1.size; (try simp at hs1); (skip; (try ((have kw1w.heap.sizeX0 := (bnew hbw1) (w.heap.size) ?pf); (case pf => (first | omega | (simp; done) | (simp; omega))); obtain ⟨kcw1w.heap.sizeX0, kfw1w.heap.sizeX0, klw1w.heap.sizeX0⟩ := kw1w.heap.sizeX0)); (try ((have kw1w.heap.sizeX1 := (bnew hbw1) (w.heap.size + 1) ?pf); (case pf => (first | omega | (simp; done) | (simp; omega))); obtain ⟨kcw1w.heap.sizeX1, kfw1w.heap.sizeX1, klw1w.heap.sizeX1⟩ := kw1w.heap.sizeX1)); (try ((have kw1W00 := (bnew hbw1) (W0.heap.size) ?pf); (case pf => (first | omega | (simp; done) | (simp; omega))); obtain ⟨kcw1W00, kfw1W00, klw1W00⟩ := kw1W00))); have HO1 := hide ho1; clear ho1)
          | (go_at_call 18; (with_reducible refine (toRat_any a1 b1 _).mono ?_); rintro e w20 ⟨rfl, hbw20⟩; obtain ⟨hcw20, hfw20⟩ := bcell hbw20; have hzw20 := hbw20.size; (try simp at hzw20); (try ((have kw20w.heap.sizeX0 := (bnew hbw20) (w.heap.size) ?pf); (case pf => (first | omega | (simp; done) | (simp; omega))); obtain ⟨kcw20w.heap.sizeX0, kfw20w.heap.sizeX0, klw20w.heap.sizeX0⟩ := kw20w.heap.sizeX0)); (try ((have kw20w.heap.sizeX1 := (bnew hbw20) (w.heap.size + 1) ?pf); (case pf => (first | omega | (simp; done) | (simp; omega))); obtain ⟨kcw20w.heap.sizeX1, kfw20w.heap.sizeX1, klw20w.heap.sizeX1⟩ := kw20w.heap.sizeX1)); (try ((have kw20W00 := (bnew hbw20) (W0.heap.size) ?pf); (case pf => (first | omega | (simp; done) | (simp; omega))); obtain ⟨kcw20W00, kfw20W00, klw20W00⟩ := kw20W00)); (try ((have kw20w10 := (bnew hbw20) (w1.heap.size) ?pf); (case pf => (first | omega | (simp; done) | (simp; omega))); obtain ⟨kcw20w10, kfw20w10, klw20w10⟩ := kw20w10))) | (go_at_call 18; (with_reducible refine (toRat_any a2 b2 _).mono ?_); rintro e w21 ⟨rfl, hbw21⟩; obtain ⟨hcw21, hfw21⟩ := bcell hbw21; have hzw21 := hbw21.size; (try simp at hzw21); (try ((have kw21w.heap.sizeX0 := (bnew hbw21) (w.heap.size) ?pf); (case pf => (first | omega | (simp; done) | (simp; omega))); obtain ⟨kcw21w.heap.sizeX0, kfw21w.heap.sizeX0, klw21w.heap.sizeX0⟩ := kw21w.heap.sizeX0)); (try ((have kw21w.heap.sizeX1 := (bnew hbw21) (w.heap.size + 1) ?pf); (case pf => (first | omega | (simp; done) | (simp; omega))); obtain ⟨kcw21w.heap.sizeX1, kfw21w.heap.sizeX1, klw21w.heap.sizeX1⟩ := kw21w.heap.sizeX1)); (try ((have kw21W00 := (bnew hbw21) (W0.heap.size) ?pf); (case pf => (first | omega | (simp; done) | (simp; omega))); obtain ⟨kcw21W00, kfw21W00, klw21W00⟩ := kw21W00)); (try ((have kw21w10 := (bnew hbw21) (w1.heap.size) ?pf); (case pf => (first | omega | (simp; done) | (simp; omega))); obtain ⟨kcw21w10, kfw21w10, klw21w10⟩ := kw21w10)); (try ((have kw21w200 := (bnew hbw21) (w20.heap.size) ?pf); (case pf => (first | omega | (simp; done) | (simp; omega))); obtain ⟨kcw21w200, kfw21w200, klw21w200⟩ := kw21w200)))
          | (go_at_call 36; (with_reducible refine ((unhide HSV) _ _ _ (own_below (unhide HO1) ?pb)).mono ?_); (case pb => exact (by repeat (first | with_reducible exact Below.refl _ _ | with_reducible assumption | (with_reducible refine Below.trans ?_ (Below.mono (by assumption) (by first | omega | (simp <;> omega)))) | with_reducible apply Below.drew | with_reducible apply below_drewN | (with_reducible refine Below.alloc ?_ (by first | omega | (simp <;> omega)) _) | (with_reducible refine Below.setCell ?_ (by first | omega | (simp <;> omega)) _)))); rintro e w3 ⟨rfl, hbw3⟩; have hs3 := hbw3.size; (try simp at hs3); (skip; (try ((have kw3w.heap.sizeX0 := (bnew hbw3) (w.heap.size) ?pf); (case pf => (first | omega | (simp; done) | (simp; omega))); obtain ⟨kcw3w.heap.sizeX0, kfw3w.heap.sizeX0, klw3w.heap.sizeX0⟩ := kw3w.heap.sizeX0)); (try ((have kw3w.heap.sizeX1 := (bnew hbw3) (w.heap.size + 1) ?pf); (case pf => (first | omega | (simp; done) | (simp; omega))); obtain ⟨kcw3w.heap.sizeX1, kfw3w.heap.sizeX1, klw3w.heap.sizeX1⟩ := kw3w.heap.sizeX1)); (try ((have kw3W00 := (bnew hbw3) (W0.heap.size) ?pf); (case pf => (first | omega | (simp; done) | (simp; omega))); obtain ⟨kcw3W00, kfw3W00, klw3W00⟩ := kw3W00)); (try ((have kw3w10 := (bnew hbw3) (w1.heap.size) ?pf); (case pf => (first | omega | (simp; done) | (simp; omega))); obtain ⟨kcw3w10, kfw3w10, klw3w10⟩ := kw3w10)); (try ((have kw3w200 := (bnew hbw3) (w20.heap.size) ?pf); (case pf => (first | omega | (simp; done) | (simp; omega))); obtain ⟨kcw3w200, kfw3w200, klw3w200⟩ := kw3w200)); (try ((have kw3w210 := (bnew hbw3) (w21.heap.size) ?pf); (case pf => (first | omega | (simp; done) | (simp; omega))); obtain ⟨kcw3w210, kfw3w210, klw3w210⟩ := kw3w210)))))
      all_goals
        go_wp2_with fail
        go_meet
        refine ⟨⟨_, rfl, ⟨(by repeat (first | with_reducible exact Below.refl _ _ | with_reducible assumption | (with_reducible refine Below.trans ?_ (Below.mono (by assumption) (by first | omega | (simp <;> omega)))) | with_reducible apply Below.drew | with_reducible apply below_drewN | (with_reducible refine Below.alloc ?_ (by first | omega | (simp <;> omega)) _) | (with_reducible refine Below.setCell ?_ (by first | omega | (simp <;> omega)) _))), ?_, ?_, ?_, ?_, ?_, ?_⟩⟩, rfl, (by repeat (first | with_reducible exact Below.refl _ _ | with_reducible assumption | (with_reducible refine Below.trans ?_ (Below.mono (by assumption) (by first | omega | (simp <;> omega)))) | with_reducible apply Below.drew | with_reducible apply below_drewN | (with_reducible refine Below.alloc ?_ (by first | omega | (simp <;> omega)) _) | (with_reducible refine Below.setCell ?_ (by first | omega | (simp <;> omega)) _)))⟩
      all_goals first | (go_simp; done) | (simp [go_sem, *]; done) | omega | (simp; omega)
    case rest =>
      obtain ⟨⟨g0, rfl, hB0⟩, rfl, hbwc⟩ := hcut
      have hzc := hbwc.size
      have ca0a : wc.cell? ⟨w.heap.size, 0, none⟩ = some (.int .i64 a1) := ((hbwc.cell (p := ⟨w.heap.size, 0, none⟩) (by show w.heap.size < _; omega))).trans cb0a
      have ca0b : wc.cell? ⟨w.heap.size, 1, none⟩ = some (.int .i64 b1) := ((hbwc.cell (p := ⟨w.heap.size, 1, none⟩) (by show w.heap.size < _; omega))).trans cb0b
      have ca1a : wc.cell? ⟨w.heap.size + 1, 0, none⟩ = some (.int .i64 a2) := ((hbwc.cell (p := ⟨w.heap.size + 1, 0, none⟩) (by show w.heap.size + 1 < _; omega))).trans cb1a
      have ca1b : wc.cell? ⟨w.heap.size + 1, 1, none⟩ = some (.int .i64 b2) := ((hbwc.cell (p := ⟨w.heap.size + 1, 1, none⟩) (by show w.heap.size + 1 < _; omega))).trans cb1b
      have cg0a := hB0.c0
      have cg0b := hB0.c1
      have hgl0 := hB0.hi
      have HA2 := hide ((unhide HA1).below hbwc)
      have hbw : Below w.heap.size w wc := (unhide HB0).trans (hbwc.mono (unhide HB0).size)
      have hzw := hbw.size
      have HBW := hide hbw
      clear hbwc hbw HA1 HB0 hB0 cb0a cb0b cb1a cb1b
      cases z1
      all_goals
        go_wp2_with fail
        refine (toPointS_any A n c ps _ (unhide HA2) hs).mono ?_
        rintro e w3 ⟨g3, rfl, ho3, hbw3⟩
        have hz3 := hbw3.size
        (skip; (try ((have kw3g0X0 := (bnew hbw3) (g0) ?pf); (case pf => (first | omega | (simp; done) | (simp; omega))); obtain ⟨kcw3g0X0, kfw3g0X0, klw3g0X0⟩ := kw3g0X0)); (try ((have kw3w.heap.sizeX0 := (bnew hbw3) (w.heap.size) ?pf); (case pf => (first | omega | (simp; done) | (simp; omega))); obtain ⟨kcw3w.heap.sizeX0, kfw3w.heap.sizeX0, klw3w.heap.sizeX0⟩ := kw3w.heap.sizeX0)); (try ((have kw3w.heap.sizeX1 := (bnew hbw3) (w.heap.size + 1) ?pf); (case pf => (first | omega | (simp; done) | (simp; omega))); obtain ⟨kcw3w.heap.sizeX1, kfw3w.heap.sizeX1, klw3w.heap.sizeX1⟩ := kw3w.heap.sizeX1)))
        have HO3 := hide ho3; clear ho3
        go_upto_region 7 with fail
        have hw3l : w.heap.size < w3.heap.size ∧ w.heap.size + 1 < w3.heap.size := by refine ⟨?_, ?_⟩ <;> omega
        obtain ⟨hx0, hx1⟩ := hw3l
        go_cut [13, 14] (fun s13 s14 wx => (∃ g : Nat, s13 = .pointer (some ⟨g, 0, none⟩) ∧ Box2 w3 wx g u0 v0) ∧ s14 = .bool _ ∧ Below w3.heap.size w3 wx)
        case first =>
          go_region_held3 (fun w' => w'.cell? ⟨w.heap.size, 0, none⟩ = some (.int .i64 a1) ∧ w'.cell? ⟨w.heap.size, 1, none⟩ = some (.int .i64 b1) ∧ w'.cell? ⟨w.heap.size + 1, 0, none⟩ = some (.int .i64 a2) ∧ w'.cell? ⟨w.heap.size + 1, 1, none⟩ = some (.int .i64 b2) ∧ w'.cell? ⟨g0, 0, none⟩ = some (.int .i64 u0) ∧ w'.cell? ⟨g0, 1, none⟩ = some (.int .i64 v0)) (simp [go_sem, World.cell?_alloc_past, *])
            (first
              | (go_at_call 18; (with_reducible refine (toRat_any a1 b1 _).mono ?_); rintro e w40 ⟨rfl, hbw40⟩; obtain ⟨hcw40, hfw40⟩ := bcell hbw40; have hzw40 := hbw40.size; (try simp at hzw40); (try ((have kw40w.heap.sizeX0 := (bnew hbw40) (w.heap.size) ?pf); (case pf => (first | omega | (simp; done) | (simp; omega))); obtain ⟨kcw40w.heap.sizeX0, kfw40w.heap.sizeX0, klw40w.heap.sizeX0⟩ := kw40w.heap.sizeX0)); (try ((have kw40w.heap.sizeX1 := (bnew hbw40) (w.heap.size + 1) ?pf); (case pf => (first | omega | (simp; done) | (simp; omega))); obtain ⟨kcw40w.heap.sizeX1, kfw40w.heap.sizeX1, klw40w.heap.sizeX1⟩ := kw40w.heap.sizeX1)); (try ((have kw40g0X0 := (bnew hbw40) (g0) ?pf); (case pf => (first | omega | (simp; done) | (simp; omega))); obtain ⟨kcw40g0X0, kfw40g0X0, klw40g0X0⟩ := kw40g0X0)); (try ((have kw40w30 := (bnew hbw40) (w3.heap.size) ?pf); (case pf => (first | omega | (simp; done) | (simp; omega))); obtain ⟨kcw40w30, kfw40w30, klw40w30⟩ := kw40w30))) | (go_at_call 18; (with_reducible refine (toRat_any a2 b2 _).mono ?_); rintro e w41 ⟨rfl, hbw41⟩; obtain ⟨hcw41, hfw41⟩ := bcell hbw41; have hzw41 := hbw41.size; (try simp at hzw41); (try ((have kw41w.heap.sizeX0 := (bnew hbw41) (w.heap.size) ?pf); (case pf => (first | omega | (simp; done) | (simp; omega))); obtain ⟨kcw41w.heap.sizeX0, kfw41w.heap.sizeX0, klw41w.heap.sizeX0⟩ := kw41w.heap.sizeX0)); (try ((have kw41w.heap.sizeX1 := (bnew hbw41) (w.heap.size + 1) ?pf); (case pf => (first | omega | (simp; done) | (simp; omega))); obtain ⟨kcw41w.heap.sizeX1, kfw41w.heap.sizeX1, klw41w.heap.sizeX1⟩ := kw41w.heap.sizeX1)); (try ((have kw41g0X0 := (bnew hbw41) (g0) ?pf); (case pf => (first | omega | (simp; done) | (simp; omega))); obtain ⟨kcw41g0X0, kfw41g0X0, klw41g0X0⟩ := kw41g0X0)); (try ((have kw41w30 := (bnew hbw41) (w3.heap.size) ?pf); (case pf => (first | omega | (simp; done) | (simp; omega))); obtain ⟨kcw41w30, kfw41w30, klw41w30⟩ := kw41w30)); (try ((have kw41w400 := (bnew hbw41) (w40.heap.size) ?pf); (case pf => (first | omega | (simp; done) | (simp; omega))); obtain ⟨kcw41w400, kfw41w400, klw41w400⟩ := kw41w400)))
              | (go_at_call 37; (with_reducible refine ((unhide HIV) _ _ _ (own_below (unhide HO3) ?pb)).mono ?_); (case pb => exact (by repeat (first | with_reducible exact Below.refl _ _ | with_reducible assumption | (with_reducible refine Below.trans ?_ (Below.mono (by assumption) (by first | omega | (simp <;> omega)))) | with_reducible apply Below.drew | with_reducible apply below_drewN | (with_reducible refine Below.alloc ?_ (by first | omega | (simp <;> omega)) _) | (with_reducible refine Below.setCell ?_ (by first | omega | (simp <;> omega)) _)))); rintro e w5 ⟨rfl, hbw5⟩; have hs5 := hbw5.size; (try simp at hs5); (skip; (try ((have kw5w.heap.sizeX0 := (bnew hbw5) (w.heap.size) ?pf); (case pf => (first | omega | (simp; done) | (simp; omega))); obtain ⟨kcw5w.heap.sizeX0, kfw5w.heap.sizeX0, klw5w.heap.sizeX0⟩ := kw5w.heap.sizeX0)); (try ((have kw5w.heap.sizeX1 := (bnew hbw5) (w.heap.size + 1) ?pf); (case pf => (first | omega | (simp; done) | (simp; omega))); obtain ⟨kcw5w.heap.sizeX1, kfw5w.heap.sizeX1, klw5w.heap.sizeX1⟩ := kw5w.heap.sizeX1)); (try ((have kw5g0X0 := (bnew hbw5) (g0) ?pf); (case pf => (first | omega | (simp; done) | (simp; omega))); obtain ⟨kcw5g0X0, kfw5g0X0, klw5g0X0⟩ := kw5g0X0)); (try ((have kw5w30 := (bnew hbw5) (w3.heap.size) ?pf); (case pf => (first | omega | (simp; done) | (simp; omega))); obtain ⟨kcw5w30, kfw5w30, klw5w30⟩ := kw5w30)); (try ((have kw5w400 := (bnew hbw5) (w40.heap.size) ?pf); (case pf => (first | omega | (simp; done) | (simp; omega))); obtain ⟨kcw5w400, kfw5w400, klw5w400⟩ := kw5w400)); (try ((have kw5w410 := (bnew hbw5) (w41.heap.size) ?pf); (case pf => (first | omega | (simp; done) | (simp; omega))); obtain ⟨kcw5w410, kfw5w410, klw5w410⟩ := kw5w410)))))
          all_goals
            go_wp2_with fail
            go_meet
            refine ⟨⟨_, rfl, ⟨(by repeat (first | with_reducible exact Below.refl _ _ | with_reducible assumption | (with_reducible refine Below.trans ?_ (Below.mono (by assumption) (by first | omega | (simp <;> omega)))) | with_reducible apply Below.drew | with_reducible apply below_drewN | (with_reducible refine Below.alloc ?_ (by first | omega | (simp <;> omega)) _) | (with_reducible refine Below.setCell ?_ (by first | omega | (simp <;> omega)) _))), ?_, ?_, ?_, ?_, ?_, ?_⟩⟩, rfl, (by repeat (first | with_reducible exact Below.refl _ _ | with_reducible assumption | (with_reducible refine Below.trans ?_ (Below.mono (by assumption) (by first | omega | (simp <;> omega)))) | with_reducible apply Below.drew | with_reducible apply below_drewN | (with_reducible refine Below.alloc ?_ (by first | omega | (simp <;> omega)) _) | (with_reducible refine Below.setCell ?_ (by first | omega | (simp <;> omega)) _)))⟩
          all_goals first | (go_simp; done) | (simp [go_sem, *]; done) | omega | (simp; omega)
        case rest =>
        obtain ⟨⟨h0, rfl, hD0⟩, rfl, hbwc⟩ := hcut
        have hz5 := hbwc.size
        (skip; (try ((have kwcg0X0 := (bnew hbwc) (g0) ?pf); (case pf => (first | omega | (simp; done) | (simp; omega))); obtain ⟨kcwcg0X0, kfwcg0X0, klwcg0X0⟩ := kwcg0X0)))
        have ch0a := hD0.c0
        have ch0b := hD0.c1
        have hhl0 := hD0.hi
        go_wp2_with (first | (go_at_call 20; (with_reducible refine (eqRat_same u0 v0 _).mono ?_); rintro e w60 ⟨rfl, hbw60⟩; obtain ⟨hcw60, hfw60⟩ := bcell hbw60; have hzw60 := hbw60.size; (try simp at hzw60); (try ((have kw60g0X0 := (bnew hbw60) (g0) ?pf); (case pf => (first | omega | (simp; done) | (simp; omega))); obtain ⟨kcw60g0X0, kfw60g0X0, klw60g0X0⟩ := kw60g0X0))))
        have hbx : Below w3.heap.size w3 w60 := (by repeat (first | with_reducible exact Below.refl _ _ | with_reducible assumption | (with_reducible refine Below.trans ?_ (Below.mono (by assumption) (by first | omega | (simp <;> omega)))) | with_reducible apply Below.drew | with_reducible apply below_drewN | (with_reducible refine Below.alloc ?_ (by first | omega | (simp <;> omega)) _) | (with_reducible refine Below.setCell ?_ (by first | omega | (simp <;> omega)) _)))
        have hzx := hbx.size
        have HA6 := hide ((unhide HA2).below (hbw3.trans (hbx.mono hz3)))
        have HO6 := hide (own_below (unhide HO3) hbx)
        refine (toPointS_any A n c ps _ (unhide HA6) hs).mono ?_
        rintro e w7 ⟨g7, rfl, ho7, hbw7⟩
        have hz7 := hbw7.size
        have HO7 := hide ho7; clear ho7
        go_wp2_with fail
        refine (eqPointS_same _ _ n n n _ _ ps w7 (own_below (unhide HO6) hbw7) (unhide HO7) hs).mono ?_
        rintro e w8 ⟨rfl, hbw8⟩
        have hbw := unhide HBW
        go_wp2_with fail
        go_ret
        exact ⟨rfl, (by repeat (first | with_reducible exact Below.refl _ _ | with_reducible assumption | (with_reducible refine Below.trans ?_ (Below.mono (by assumption) (by first | omega | (simp <;> omega)))) | with_reducible apply Below.drew | with_reducible apply below_drewN | (with_reducible refine Below.alloc ?_ (by first | omega | (simp <;> omega)) _) | (with_reducible refine Below.setCell ?_ (by first | omega | (simp <;> omega)) _)))⟩
  · rw [if_neg hs] at hsz
    have HSZ := hide hsz; clear hsz ha
    go_enter Try.func9, Try.ntmps9
    go_wp2_with (go_at_call 15; (with_reducible refine ((unhide HSZ) _).mono ?_); rintro e w' ⟨rfl, rfl⟩)
    go_ret
    exact ⟨rfl, (by repeat (first | with_reducible exact Below.refl _ _ | with_reducible assumption | (with_reducible refine Below.trans ?_ (Below.mono (by assumption) (by first | omega | (simp <;> omega)))) | with_reducible apply Below.drew | with_reducible apply below_drewN | (with_reducible refine Below.alloc ?_ (by first | omega | (simp <;> omega)) _) | (with_reducible refine Below.setCell ?_ (by first | omega | (simp <;> omega)) _)))⟩
end Go.Proofs.Ytmkejopkmdcfeaa

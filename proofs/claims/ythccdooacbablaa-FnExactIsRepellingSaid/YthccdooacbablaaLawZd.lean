/-
  Laws of functions of a map and of values, whose answers are values.
-/
import Derived.Test.YthccdooacbablaaZk
namespace Go.Proofs.Ythccdooacbablaa
open Go.RowKit Rm

set_option maxRecDepth 100000 in
set_option maxHeartbeats 3200000 in
theorem lawIsRepelling (A : Option Addr) (n c : Nat) (ps : List Pt) (a1 b1 m2 : Int) (w : World) (ha : ArgP w A n ps) (hn : n ≤ maxLen) :
    Calls Try.prog 8 #[.slice A n c, .agg #[.int .i64 (a1), .int .i64 (b1)], .int .i64 m2] w fun e w' => e = .returned (.bool true) ∧ Below w.heap.size w w' := by
  have hsz := fun W => szPointS_any A n c hn W
  by_cases hs : n ≤ 1048576
  · rw [if_pos hs] at hsz
    have HSZ := hide hsz; clear hsz
    have HA := hide ha; clear ha
    have hsv := fun (W : World) (g base : Nat) hW => sIsRepelling_any (some ⟨g, 0, none⟩) n n base ps a1 b1 m2 W hW hs
    have hiv := fun (W : World) (g base : Nat) hW => iIsRepelling_any (some ⟨g, 0, none⟩) n n base ps a1 b1 m2 W hW hs
    generalize rpB (mlO ps a1 b1 m2) = z0 at *
    generalize (mlO ps a1 b1 m2).isSome = z1 at *
    have HSV := hide hsv; have HIV := hide hiv; clear hsv hiv
    go_enter Try.func8, Try.ntmps8
    go_upto_region 5 with (go_at_call 12; (with_reducible refine ((unhide HSZ) _).mono ?_); rintro e w' ⟨rfl, rfl⟩)
    have hb0 : Below w.heap.size w (w.alloc (.cells #[.int .i64 a1, .int .i64 b1] 38)) := (by repeat (first | with_reducible exact Below.refl _ _ | with_reducible assumption | (with_reducible refine Below.trans ?_ (Below.mono (by assumption) (by first | omega | (simp <;> omega)))) | with_reducible apply Below.drew | with_reducible apply below_drewN | (with_reducible refine Below.alloc ?_ (by first | omega | (simp <;> omega)) _) | (with_reducible refine Below.setCell ?_ (by first | omega | (simp <;> omega)) _)))
    have hs0 : w.heap.size + 1 ≤ (w.alloc (.cells #[.int .i64 a1, .int .i64 b1] 38)).heap.size := by simp
    have cb0a : (w.alloc (.cells #[.int .i64 a1, .int .i64 b1] 38)).cell? ⟨w.heap.size, 0, none⟩ = some (.int .i64 a1) := by simp [go_sem]
    have cb0b : (w.alloc (.cells #[.int .i64 a1, .int .i64 b1] 38)).cell? ⟨w.heap.size, 1, none⟩ = some (.int .i64 b1) := by simp [go_sem]
    have hl0 : w.heap.size < (w.alloc (.cells #[.int .i64 a1, .int .i64 b1] 38)).heap.size := by first | (simp; done) | (simp; omega)
    generalize hW0 : (w.alloc (.cells #[.int .i64 a1, .int .i64 b1] 38)) = W0 at *
    clear hW0
    have HA1 := hide ((unhide HA).below hb0)
    have HB0 := hide hb0
    clear hb0 HA
    go_cut [8, 9] (fun s8 s9 wx => s8 = .bool z0 ∧ s9 = .bool z1 ∧ Below W0.heap.size W0 wx)
    case first =>
      go_region_held3 (fun w' => w'.cell? ⟨w.heap.size, 0, none⟩ = some (.int .i64 a1) ∧ w'.cell? ⟨w.heap.size, 1, none⟩ = some (.int .i64 b1)) (simp [go_sem, *])
        (first
          | (go_at_call 14; (with_reducible refine (toPointS_any A n c ps _ ((unhide HA1).below ?pb) hs).mono ?_); (case pb => exact (by repeat (first | with_reducible exact Below.refl _ _ | with_reducible assumption | (with_reducible refine Below.trans ?_ (Below.mono (by assumption) (by first | omega | (simp <;> omega)))) | with_reducible apply Below.drew | with_reducible apply below_drewN | (with_reducible refine Below.alloc ?_ (by first | omega | (simp <;> omega)) _) | (with_reducible refine Below.setCell ?_ (by first | omega | (simp <;> omega)) _)))); rintro e w1 ⟨g1, rfl, ho1, hbw1⟩; have hs1 := hbw1.size; (try simp at hs1); (skip; (try ((have kw1w.heap.sizeX0 := (bnew hbw1) (w.heap.size) ?pf); (case pf => (first | omega | (simp; done) | (simp; omega))); obtain ⟨kcw1w.heap.sizeX0, kfw1w.heap.sizeX0, klw1w.heap.sizeX0⟩ := kw1w.heap.sizeX0))); have HO1 := hide ho1; clear ho1)
          | (go_at_call 23; (with_reducible refine (toRat_any a1 b1 _).mono ?_); rintro e w20 ⟨rfl, hbw20⟩; obtain ⟨hcw20, hfw20⟩ := bcell hbw20; have hzw20 := hbw20.size; (try simp at hzw20); (try ((have kw20w.heap.sizeX0 := (bnew hbw20) (w.heap.size) ?pf); (case pf => (first | omega | (simp; done) | (simp; omega))); obtain ⟨kcw20w.heap.sizeX0, kfw20w.heap.sizeX0, klw20w.heap.sizeX0⟩ := kw20w.heap.sizeX0)))
          | (go_at_call 32; (with_reducible refine ((unhide HSV) _ _ _ (own_below (unhide HO1) ?pb)).mono ?_); (case pb => exact (by repeat (first | with_reducible exact Below.refl _ _ | with_reducible assumption | (with_reducible refine Below.trans ?_ (Below.mono (by assumption) (by first | omega | (simp <;> omega)))) | with_reducible apply Below.drew | with_reducible apply below_drewN | (with_reducible refine Below.alloc ?_ (by first | omega | (simp <;> omega)) _) | (with_reducible refine Below.setCell ?_ (by first | omega | (simp <;> omega)) _)))); rintro e w3 ⟨rfl, hbw3⟩; have hs3 := hbw3.size; (try simp at hs3); (skip; (try ((have kw3w.heap.sizeX0 := (bnew hbw3) (w.heap.size) ?pf); (case pf => (first | omega | (simp; done) | (simp; omega))); obtain ⟨kcw3w.heap.sizeX0, kfw3w.heap.sizeX0, klw3w.heap.sizeX0⟩ := kw3w.heap.sizeX0)))))
      all_goals
        go_wp2_with fail
        go_meet
        refine ⟨rfl, rfl, (by repeat (first | with_reducible exact Below.refl _ _ | with_reducible assumption | (with_reducible refine Below.trans ?_ (Below.mono (by assumption) (by first | omega | (simp <;> omega)))) | with_reducible apply Below.drew | with_reducible apply below_drewN | (with_reducible refine Below.alloc ?_ (by first | omega | (simp <;> omega)) _) | (with_reducible refine Below.setCell ?_ (by first | omega | (simp <;> omega)) _)))⟩
      skip
    case rest =>
      obtain ⟨rfl, rfl, hbwc⟩ := hcut
      have hzc := hbwc.size
      have ca0a : wc.cell? ⟨w.heap.size, 0, none⟩ = some (.int .i64 a1) := ((hbwc.cell (p := ⟨w.heap.size, 0, none⟩) (by show w.heap.size < _; omega))).trans cb0a
      have ca0b : wc.cell? ⟨w.heap.size, 1, none⟩ = some (.int .i64 b1) := ((hbwc.cell (p := ⟨w.heap.size, 1, none⟩) (by show w.heap.size < _; omega))).trans cb0b
      have HA2 := hide ((unhide HA1).below hbwc)
      have hbw : Below w.heap.size w wc := (unhide HB0).trans (hbwc.mono (unhide HB0).size)
      have hzw := hbw.size
      have HBW := hide hbw
      clear hbwc hbw HA1 HB0  cb0a cb0b
      cases z0 <;> cases z1
      all_goals
        go_wp2_with fail
        refine (toPointS_any A n c ps _ (unhide HA2) hs).mono ?_
        rintro e w3 ⟨g3, rfl, ho3, hbw3⟩
        have hz3 := hbw3.size
        (skip; (try ((have kw3w.heap.sizeX0 := (bnew hbw3) (w.heap.size) ?pf); (case pf => (first | omega | (simp; done) | (simp; omega))); obtain ⟨kcw3w.heap.sizeX0, kfw3w.heap.sizeX0, klw3w.heap.sizeX0⟩ := kw3w.heap.sizeX0)))
        have HO3 := hide ho3; clear ho3
        go_wp2_with (first | (go_at_call 23; (with_reducible refine (toRat_any a1 b1 _).mono ?_); rintro e w40 ⟨rfl, hbw40⟩; obtain ⟨hcw40, hfw40⟩ := bcell hbw40; have hzw40 := hbw40.size; (try simp at hzw40); (try ((have kw40w.heap.sizeX0 := (bnew hbw40) (w.heap.size) ?pf); (case pf => (first | omega | (simp; done) | (simp; omega))); obtain ⟨kcw40w.heap.sizeX0, kfw40w.heap.sizeX0, klw40w.heap.sizeX0⟩ := kw40w.heap.sizeX0))))
        refine ((unhide HIV) _ _ _ (own_below (unhide HO3) (by repeat (first | with_reducible exact Below.refl _ _ | with_reducible assumption | (with_reducible refine Below.trans ?_ (Below.mono (by assumption) (by first | omega | (simp <;> omega)))) | with_reducible apply Below.drew | with_reducible apply below_drewN | (with_reducible refine Below.alloc ?_ (by first | omega | (simp <;> omega)) _) | (with_reducible refine Below.setCell ?_ (by first | omega | (simp <;> omega)) _))))).mono ?_
        rintro e w5 ⟨rfl, hbw5⟩
        have hz5 := hbw5.size
        (skip; (try ((have kw5w.heap.sizeX0 := (bnew hbw5) (w.heap.size) ?pf); (case pf => (first | omega | (simp; done) | (simp; omega))); obtain ⟨kcw5w.heap.sizeX0, kfw5w.heap.sizeX0, klw5w.heap.sizeX0⟩ := kw5w.heap.sizeX0)))
        go_wp2_with (fail)
        have hbx : Below w3.heap.size w3 w5 := (by repeat (first | with_reducible exact Below.refl _ _ | with_reducible assumption | (with_reducible refine Below.trans ?_ (Below.mono (by assumption) (by first | omega | (simp <;> omega)))) | with_reducible apply Below.drew | with_reducible apply below_drewN | (with_reducible refine Below.alloc ?_ (by first | omega | (simp <;> omega)) _) | (with_reducible refine Below.setCell ?_ (by first | omega | (simp <;> omega)) _)))
        have hzx := hbx.size
        have HA6 := hide ((unhide HA2).below (hbw3.trans (hbx.mono hz3)))
        have HO6 := hide (own_below (unhide HO3) hbx)
        refine (toPointS_any A n c ps _ (unhide HA6) hs).mono ?_
        rintro e w7 ⟨g7, rfl, ho7, hbw7⟩
        have hz7 := hbw7.size
        have HO7 := hide ho7; clear ho7
        go_wp2_with fail
        refine (eqPointS_same _ _ n n n _ _ ps w7 (own_below (unhide HO6) hbw7) (unhide HO7) hs).mono ?_
        rintro e w8 ⟨rfl, hbw8⟩
        have hbw := unhide HBW
        go_wp2_with fail
        go_ret
        exact ⟨rfl, (by repeat (first | with_reducible exact Below.refl _ _ | with_reducible assumption | (with_reducible refine Below.trans ?_ (Below.mono (by assumption) (by first | omega | (simp <;> omega)))) | with_reducible apply Below.drew | with_reducible apply below_drewN | (with_reducible refine Below.alloc ?_ (by first | omega | (simp <;> omega)) _) | (with_reducible refine Below.setCell ?_ (by first | omega | (simp <;> omega)) _)))⟩
  · rw [if_neg hs] at hsz
    have HSZ := hide hsz; clear hsz ha
    go_enter Try.func8, Try.ntmps8
    go_wp2_with (go_at_call 12; (with_reducible refine ((unhide HSZ) _).mono ?_); rintro e w' ⟨rfl, rfl⟩)
    go_ret
    exact ⟨rfl, (by repeat (first | with_reducible exact Below.refl _ _ | with_reducible assumption | (with_reducible refine Below.trans ?_ (Below.mono (by assumption) (by first | omega | (simp <;> omega)))) | with_reducible apply Below.drew | with_reducible apply below_drewN | (with_reducible refine Below.alloc ?_ (by first | omega | (simp <;> omega)) _) | (with_reducible refine Below.setCell ?_ (by first | omega | (simp <;> omega)) _)))⟩
end Go.Proofs.Ythccdooacbablaa

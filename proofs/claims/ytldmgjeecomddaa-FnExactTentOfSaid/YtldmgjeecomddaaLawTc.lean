/-
  Chapter 7: the law of TentOf.
-/
import Derived.Test.YtldmgjeecomddaaTc
namespace Go.Proofs.Ytldmgjeecomddaa
open Go.RowKit Rm

set_option maxRecDepth 100000 in
set_option maxHeartbeats 1600000 in
theorem lawTentOf (a b : Int) (w : World) :
    Calls Try.prog 4 #[.agg #[.int .i64 (a), .int .i64 (b)]] w fun e w' => e = .returned (.bool true) ∧ Below w.heap.size w w' := by
  have hsv := fun W => sTentOf_any a b W
  have hiv := fun W => iTentOf_any a b W
  have hxl := tn_len a b
  generalize tnL a b = xs at *
  generalize tnZ a b = z at *
  have HSV := hide hsv; have HIV := hide hiv; clear hsv hiv
  cases z
  all_goals
    go_enter Try.func4, Try.ntmps4
    go_upto_region 1 with fail
    have hbb : Below w.heap.size w (w.alloc (.cells #[.int .i64 a, .int .i64 b] 31)) := (by repeat (first | with_reducible exact Below.refl _ _ | with_reducible assumption | (with_reducible refine Below.trans ?_ (Below.mono (by assumption) (by first | omega | (simp <;> omega)))) | with_reducible apply Below.drew | with_reducible apply below_drewN | (with_reducible refine Below.alloc ?_ (by first | omega | (simp <;> omega)) _) | (with_reducible refine Below.setCell ?_ (by first | omega | (simp <;> omega)) _)))
    have cb0 : (w.alloc (.cells #[.int .i64 a, .int .i64 b] 31)).cell? ⟨w.heap.size, 0, none⟩ = some (.int .i64 a) := by simp [go_sem]
    have cb1 : (w.alloc (.cells #[.int .i64 a, .int .i64 b] 31)).cell? ⟨w.heap.size, 1, none⟩ = some (.int .i64 b) := by simp [go_sem]
    have hX : w.heap.size < (w.alloc (.cells #[.int .i64 a, .int .i64 b] 31)).heap.size := by simp
    generalize (w.alloc (.cells #[.int .i64 a, .int .i64 b] 31)) = wb at *
    have hbf := fun (W : World) (h : Below wb.heap.size wb W) => hbb.trans (h.mono hbb.size)
    have HBB := hide hbf; clear hbf hbb
    have hX0 := hX
    generalize hXe : w.heap.size = X at *
    go_wp2_with ((go_at_call 14; (with_reducible refine (toRat_any a b _).mono ?_); rintro e w1 ⟨rfl, hbw1⟩; obtain ⟨hcw1, hfw1⟩ := bcell hbw1; have hzw1 := hbw1.size; (try simp at hzw1)))
    refine ((unhide HSV) w1).mono ?_
    rintro e w2 ⟨⟨B1, d1, rfl, ho1⟩, hb2⟩
    have hq2 := hbw1.trans (hb2.mono hbw1.size)
    have c20 := (hq2.cell (p := ⟨X, 0, none⟩) hX).trans cb0
    have c21 := (hq2.cell (p := ⟨X, 1, none⟩) hX).trans cb1
    have hX2 : X < w2.heap.size := Nat.lt_of_lt_of_le hX hq2.size
    have ho1' := ho1.mono hbw1.size
    have HL1 := hide ho1'.lt; have HO1 := hide ho1'; have HQ := hide hq2
    have hz2 := hq2.size
    clear ho1 ho1' hb2 hq2 hbw1 hcw1 hfw1 hX cb0 cb1
    go_wp2_with ((go_at_call 14; (with_reducible refine (toRat_any a b _).mono ?_); rintro e w3 ⟨rfl, hbw3⟩; obtain ⟨hcw3, hfw3⟩ := bcell hbw3; have hzw3 := hbw3.size; (try simp at hzw3)))
    refine ((unhide HIV) w3).mono ?_
    rintro e w4 ⟨⟨B2, d2, rfl, ho2⟩, hb4⟩
    have hq4 := hbw3.trans (hb4.mono hbw3.size)
    have c40 := (hq4.cell (p := ⟨X, 0, none⟩) hX2).trans c20
    have c41 := (hq4.cell (p := ⟨X, 1, none⟩) hX2).trans c21
    have hX4 : X < w4.heap.size := Nat.lt_of_lt_of_le hX2 hq4.size
    have ho2' := ho2.mono hbw3.size
    have HL2 := hide ho2'.lt; have HO2 := hide ho2'; have HO1b := hide (own_below (unhide HO1) hq4)
    have HQ4 := hide ((unhide HQ).trans (hq4.mono (unhide HQ).size))
    have hz4 := hq4.size
    clear ho2 ho2' hb4 hq4 hbw3 hcw3 hfw3 hX2 c20 c21 HO1 HQ
    go_wp2_with fail
    refine (eqPointS_same _ _ _ _ _ _ _ xs w4 (unhide HO2) (unhide HO1b) hxl).mono ?_
    rintro e w5 ⟨rfl, hb5⟩
    have c50 := (hb5.cell (p := ⟨X, 0, none⟩) hX4).trans c40
    have c51 := (hb5.cell (p := ⟨X, 1, none⟩) hX4).trans c41
    have hX5 : X < w5.heap.size := Nat.lt_of_lt_of_le hX4 hb5.size
    have HO2b := hide (own_below (unhide HO2) hb5); have HO1c := hide (own_below (unhide HO1b) hb5)
    have HQ5 := hide ((unhide HQ4).trans (hb5.mono (unhide HQ4).size))
    have hz5 := hb5.size
    clear hb5 hX4 c40 c41 HO1b HO2 HQ4
    go_wp2_with fail
    refine (markPointS_any _ _ _ _ _ w5 (unhide HO2b) hxl).mono ?_
    rintro e w6 ⟨rfl, hoM, hg6⟩
    have hO1m := own_kept (unhide HO1c) hg6 (fun k hk e => by have e1 := (unhide HL1) k hk; have e2 := (unhide HL2) k e.symm; omega)
    have hQ6 := (unhide HQ5).grown hg6 (unhide HQ5).size (fun k e => by have e1 := (unhide HL2) k e; omega)
    have c60 := (World.cell?_of_block (a := ⟨X, 0, none⟩) (hg6.block X hX5 (fun e => by have e2 := (unhide HL2) X e.symm; omega))).trans c50
    have c61 := (World.cell?_of_block (a := ⟨X, 1, none⟩) (hg6.block X hX5 (fun e => by have e2 := (unhide HL2) X e.symm; omega))).trans c51
    have hX6 : X < w6.heap.size := Nat.lt_of_lt_of_le hX5 hg6.size
    have HO1d := hide hO1m; have HM := hide hoM; have HQ6 := hide hQ6
    have hz6 := hg6.size
    clear hO1m hoM hQ6 hg6 c50 c51 hX5 HO1c HO2b HQ5
    have hmm : decide (1 + 4 * (xs.length : Int) < 0) = false := decide_eq_false (by omega)
    go_wp2_with fail
    refine (heldPointS_any _ _ _ _ w6 (unhide HM) hxl).mono ?_
    rintro e w' ⟨rfl, rfl⟩
    go_wp2_with ((go_at_call 14; (with_reducible refine (toRat_any a b _).mono ?_); rintro e w7 ⟨rfl, hbw7⟩; obtain ⟨hcw7, hfw7⟩ := bcell hbw7; have hzw7 := hbw7.size; (try simp at hzw7)))
    refine ((unhide HIV) w7).mono ?_
    rintro e w8 ⟨⟨B3, d3, rfl, ho3⟩, hb8⟩
    have hq8 := hbw7.trans (hb8.mono hbw7.size)
    have HO3 := hide (ho3.mono hbw7.size); have HO1e := hide (own_below (unhide HO1d) hq8); have HM8 := hide (own_below (unhide HM) hq8)
    have HQ8 := hide ((unhide HQ6).trans (hq8.mono (unhide HQ6).size))
    have hz8 := hq8.size
    clear ho3 hb8 hq8 hbw7 hcw7 hfw7 c60 c61 hX6 HO1d HM HQ6
    go_wp2_with fail
    refine (eqPointS_same _ _ _ _ _ _ _ xs w8 (unhide HO3) (unhide HO1e) hxl).mono ?_
    rintro e w9 ⟨rfl, hb9⟩
    have HM9 := hide (own_below (unhide HM8) hb9)
    have HQ9 := hide ((unhide HQ8).trans (hb9.mono (unhide HQ8).size))
    clear hb9 HM8 HQ8
    go_wp2_with fail
    refine (heldPointS_any _ _ _ _ w9 (unhide HM9) hxl).mono ?_
    rintro e w' ⟨rfl, rfl⟩
    go_wp2_with fail
    go_ret
    exact ⟨rfl, by rw [hXe]; exact (unhide HBB) _ (unhide HQ9)⟩
end Go.Proofs.Ytldmgjeecomddaa

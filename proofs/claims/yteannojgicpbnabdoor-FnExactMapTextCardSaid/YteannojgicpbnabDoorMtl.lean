/-
  Chapter 2: the law of MapText.
-/
import Derived.Test.YteannojgicpbnabDoorMt
namespace Go.Proofs.YteannojgicpbnabDoor
open Go.RowKit Rm

/-- What MapText answers. -/
def mtF (ps : List Pt) : List UInt8 := match mapB ps with | true => mpT ps ps.length | false => []
theorem mtF_no {ps : List Pt} (h : mapB ps = false) : mtF ps = [] := by unfold mtF; simp only [h]
theorem mtF_yes {ps : List Pt} (h : mapB ps = true) : mtF ps = mpT ps ps.length := by unfold mtF; simp only [h]
set_option maxRecDepth 100000 in
theorem iMapText_any (A : Option Addr) (n c base : Nat) (ps : List Pt) (w : World) (ha : w.ownsRow base 39 4 (.slice A n c) n (ptcs ps)) (hn : n ≤ 1048576) (ht : Pow10 w) :
    Calls Tryd.prog 8 #[.slice A n c] w fun e w' => e = .returned (.tuple #[.string ⟨(mtF ps).toArray⟩, .bool (mapB ps)]) ∧ Below w.heap.size w w' := by
  have hl := own_len ha
  rcases hm : mapB ps with _ | _
  · have hmap := isMap_any A n c base ps w ha hn
    rw [hm] at hmap
    rw [mtF_no hm]
    have HM := hide hmap; clear hmap hm ha hl ht
    go_enter Tryd.func8, Tryd.ntmps8
    go_wp2_with (go_at_call 17; (with_reducible refine (unhide HM).mono ?_); rintro e w1 ⟨rfl, hbw1⟩)
    go_ret2
    exact ⟨rfl, hbw1⟩
  · obtain ⟨hg, h12, h2⟩ := goods_map hm
    rw [mtF_yes hm]
    rw [hl] at hg h12 h2 ⊢
    obtain ⟨g, cap, hv, _, hgl⟩ := ha.form (by omega)
    have hA : A = some ⟨g, 0, none⟩ := by injection hv
    subst hA
    exact iMapText_map g n c base ps w ha hg hm h12 ht
set_option maxRecDepth 100000 in
theorem sMapText_any (A : Option Addr) (n c base : Nat) (ps : List Pt) (w : World) (ha : w.ownsRow base 39 4 (.slice A n c) n (ptcs ps)) (hn : n ≤ 1048576) :
    Calls Tryd.prog 6 #[.slice A n c] w fun e w' => e = .returned (.tuple #[.string ⟨(mtF ps).toArray⟩, .bool (mapB ps)]) ∧ Below w.heap.size w w' := by
  have hl := own_len ha
  have hmap := imGood_any A n c base ps w ha hn
  rcases hm : mapB ps with _ | _
  · rw [hm] at hmap
    rw [mtF_no hm]
    have HM := hide hmap; clear hmap hm ha hl
    go_enter Tryd.func6, Tryd.ntmps6
    go_wp2_with (go_at_call 14; (with_reducible refine (unhide HM).mono ?_); rintro e w1 ⟨rfl, hbw1⟩)
    go_ret2
    exact ⟨rfl, hbw1⟩
  · obtain ⟨hg, h12, h2⟩ := goods_map hm
    rw [mtF_yes hm]
    rw [hl] at hg h12 h2 ⊢
    rw [hm] at hmap
    obtain ⟨g, cap, hv, _, hgl⟩ := ha.form (by omega)
    have hA : A = some ⟨g, 0, none⟩ := by injection hv
    subst hA
    have HM := hide hmap
    have hT := fun (W : World) hW => imText_map g n c base ps W hW hg h12
    have HT := hide hT
    have HA := hide ha
    clear hmap hm hl hT ha hg hv
    generalize mpT ps n = xs at *
    go_enter Tryd.func6, Tryd.ntmps6
    go_wp2_with (first | (go_at_call 14; (with_reducible refine (unhide HM).mono ?_); rintro e w1 ⟨rfl, hbw1⟩) | (go_at_call 15; (with_reducible refine ((unhide HT) _ (own_below (unhide HA) (by repeat (first | with_reducible exact Below.refl _ _ | with_reducible assumption | (with_reducible refine Below.trans ?_ (Below.mono (by assumption) (by first | omega | (simp <;> omega)))) | with_reducible apply Below.drew | with_reducible apply below_drewN | (with_reducible refine Below.alloc ?_ (by first | omega | (simp <;> omega)) _) | (with_reducible refine Below.setCell ?_ (by first | omega | (simp <;> omega)) _))))).mono ?_); rintro e w2 ⟨rfl, hbw2⟩))
    have hzw1 := hbw1.size
    go_ret2
    exact ⟨rfl, (by repeat (first | with_reducible exact Below.refl _ _ | with_reducible assumption | (with_reducible refine Below.trans ?_ (Below.mono (by assumption) (by first | omega | (simp <;> omega)))) | with_reducible apply Below.drew | with_reducible apply below_drewN | (with_reducible refine Below.alloc ?_ (by first | omega | (simp <;> omega)) _) | (with_reducible refine Below.setCell ?_ (by first | omega | (simp <;> omega)) _)))⟩

set_option maxRecDepth 100000 in
set_option maxHeartbeats 1600000 in
theorem lawMapText (A : Option Addr) (n c : Nat) (ps : List Pt) (w : World) (ha : ArgP w A n ps) (hn : n ≤ maxLen) (ht : Pow10 w) :
    Calls Tryd.prog 3 #[.slice A n c] w fun e w' => e = .returned (.bool true) ∧ Below w.heap.size w w' := by
  have hsz := fun W => szPointS_any A n c hn W
  by_cases hs : n ≤ 1048576
  · rw [if_pos hs] at hsz
    have HSZ := hide hsz; clear hsz
    have HA := hide ha; clear ha
    have hsv := fun (W : World) (g base : Nat) hW => sMapText_any (some ⟨g, 0, none⟩) n n base ps W hW hs
    have hiv := fun (W : World) (g base : Nat) hW (hB : Below w.heap.size w W) => iMapText_any (some ⟨g, 0, none⟩) n n base ps W hW hs (pow10_below ht hB)
    clear ht
    generalize mtF ps = xs at *
    generalize mapB ps = z at *
    have HSV := hide hsv; have HIV := hide hiv; clear hsv hiv
    cases z
    all_goals
      go_enter Tryd.func3, Tryd.ntmps3
      go_wp2_with fail
      refine ((unhide HSZ) _).mono ?_
      rintro e w' ⟨rfl, rfl⟩
      go_wp2_with fail
      refine (toPointS_any A n c ps w (unhide HA) hs).mono ?_
      rintro e w1 ⟨g1, rfl, ho1, hb1⟩
      have hz1 := hb1.size
      have HO1 := hide ho1; clear ho1
      go_wp2_with fail
      refine ((unhide HSV) w1 g1 _ (unhide HO1)).mono ?_
      rintro e w2 ⟨rfl, hb2⟩
      have hz2 := hb2.size
      have hw2 := hb1.trans (hb2.mono hb1.size)
      have HW2 := hide hw2
      have HA2 := hide ((unhide HA).below hw2)
      clear hb1 hb2 hw2
      go_wp2_with fail
      refine (toPointS_any A n c ps w2 (unhide HA2) hs).mono ?_
      rintro e w3 ⟨g3, rfl, ho3, hb3⟩
      have hz3 := hb3.size
      have HO3 := hide ho3; clear ho3
      have HW3 := hide ((unhide HW2).trans (hb3.mono (unhide HW2).size))
      clear hb3
      go_wp2_with fail
      refine ((unhide HIV) w3 g3 _ (unhide HO3) (unhide HW3)).mono ?_
      rintro e w4 ⟨rfl, hb4⟩
      have hz4 := hb4.size
      have hw4 := (unhide HW3).trans (hb4.mono (unhide HW3).size)
      have HW4 := hide hw4
      have HO4 := hide (own_below (unhide HO3) hb4)
      have HA4 := hide ((unhide HA).below hw4)
      clear hw4 hb4
      go_wp2_with fail
      refine (toPointS_any A n c ps w4 (unhide HA4) hs).mono ?_
      rintro e w5 ⟨g5, rfl, ho5, hb5⟩
      have hz5 := hb5.size
      have HO5 := hide ho5; clear ho5
      have HO45 := hide (own_below (unhide HO4) hb5)
      have HW5 := hide ((unhide HW4).trans (hb5.mono (unhide HW4).size))
      clear hb5
      go_wp2_with fail
      refine (eqPointS_same _ _ n n n _ _ ps w5 (unhide HO45) (unhide HO5) hs).mono ?_
      rintro e w6 ⟨rfl, hb6⟩
      have hz6 := hb6.size
      have HW6 := hide ((unhide HW5).trans (hb6.mono (unhide HW5).size))
      clear hb6
      go_wp2_with fail
      go_ret
      exact ⟨rfl, unhide HW6⟩
  · rw [if_neg hs] at hsz
    have HSZ := hide hsz; clear hsz ha ht
    go_enter Tryd.func3, Tryd.ntmps3
    go_wp2_with fail
    refine ((unhide HSZ) _).mono ?_
    rintro e w' ⟨rfl, rfl⟩
    go_wp2_with fail
    go_ret
    exact ⟨rfl, (by repeat (first | with_reducible exact Below.refl _ _ | with_reducible assumption | (with_reducible refine Below.trans ?_ (Below.mono (by assumption) (by first | omega | (simp <;> omega)))) | with_reducible apply Below.drew | with_reducible apply below_drewN | (with_reducible refine Below.alloc ?_ (by first | omega | (simp <;> omega)) _) | (with_reducible refine Below.setCell ?_ (by first | omega | (simp <;> omega)) _)))⟩
end Go.Proofs.YteannojgicpbnabDoor

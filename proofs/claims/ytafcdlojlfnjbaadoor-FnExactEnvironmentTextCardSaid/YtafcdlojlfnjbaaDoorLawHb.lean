/-
  Chapter 3: the law of EnvironmentText.
-/
import Derived.Test.YtafcdlojlfnjbaaDoorHh
namespace Go.Proofs.YtafcdlojlfnjbaaDoor
open Go.RowKit Rm

theorem nm_all {ys : List (ByteArray × Nat × List Pt)} {L : List NE} {n : Nat} (h : ys.map nmP = L.map neP) (hl : L.length = n) (hall : ∀ e ∈ L, e.s.size ≤ 1048576 ∧ e.n ≤ 1048576) (hp : ∀ e ∈ L, e.ps.length = e.n) :
    ys.length = n ∧ ∀ y ∈ ys, y.1.size ≤ 1048576 ∧ y.2.2.length ≤ 1048576 := by
  constructor
  · have := congrArg List.length h
    rw [List.length_map, List.length_map] at this
    omega
  · intro y hy
    have h1 : nmP y ∈ L.map neP := by rw [← h]; exact List.mem_map.2 ⟨y, hy, rfl⟩
    obtain ⟨e, he, h2⟩ := List.mem_map.1 h1
    have e1 : e.s = y.1 := congrArg Prod.fst h2
    have e2 : e.ps = y.2.2 := congrArg Prod.snd h2
    rw [← e1, ← e2, hp e he]
    exact hall e he

set_option maxRecDepth 100000 in
set_option maxHeartbeats 3200000 in
theorem lawEnvironmentText (A : Option Addr) (n c : Nat) (L : List NE) (w : World) (ha : ArgN w A n L) (hn : n ≤ maxLen) (ht : Pow10 w) :
    Calls Tryd.prog 3 #[.slice A n c] w fun e w' => e = .returned (.bool true) ∧ Below w.heap.size w w' := by
  have hsz := szNamedS_any A n c L w ha hn
  obtain ⟨R, hR⟩ : ∃ R, R = (if (n : Int) ≤ 1048576 then szR L (1048576 - (n : Int)) else -1) := ⟨_, rfl⟩
  rw [← hR] at hsz
  have HSZ := hide hsz
  clear hsz
  by_cases h0 : 0 ≤ R
  · have hn1 : n ≤ 1048576 := by
      rcases Nat.lt_or_ge 1048576 n with h | h
      · rw [if_neg (by omega)] at hR; omega
      · exact h
    rw [if_pos (by omega)] at hR
    have hall := szR_all (hR ▸ h0) (by omega)
    have hd : decide (R < 0) = false := decide_eq_false (by omega)
    have hp : ∀ e ∈ L, e.ps.length = e.n := fun e he => (ha.2.1 e he).2.2.1
    have htn := fun (W : World) (hW : Below w.heap.size w W) => toNamedS_any A n c L W (ha.below hW) hn1 (fun e he => (hall e he).2)
    have hnm := fun (ys : List (ByteArray × Nat × List Pt)) (h : ys.map nmP = L.map neP) => nm_all h ha.1 hall hp
    have HT := hide htn; have HN := hide hnm; have HPW := Lib.hid ht
    clear htn hnm ha hall hp hR ht
    go_enter Tryd.func3, Tryd.ntmps3
    go_wp2_with fail
    refine (unhide HSZ).mono ?_
    rintro e w0 ⟨rfl, hb0⟩
    have hz0 := hb0.size
    have HW0 := hide hb0; clear hb0
    go_wp2_with fail
    refine ((unhide HT) w0 (unhide HW0)).mono ?_
    rintro e w1 ⟨g1, rfl, ⟨ys1, hy1, hN1⟩, hb1⟩
    have hz1 := hb1.size
    have HN1 := hide hN1; have HY1 := hide hy1
    have HW1 := hide ((unhide HW0).trans (hb1.mono hz0))
    clear hb1 hN1 hy1
    go_wp2_with fail
    refine (sEnvironmentText_any g1 n n _ ys1 w1 (unhide HN1) ((unhide HN) ys1 (unhide HY1)).1 hn1 ((unhide HN) ys1 (unhide HY1)).2).mono ?_
    rw [unhide HY1]
    rintro e w2 ⟨rfl, hb2⟩
    have hz2 := hb2.size
    have HW2 := hide ((unhide HW1).trans (hb2.mono (unhide HW1).size))
    clear hb2 HN1
    go_wp2_with fail
    refine ((unhide HT) w2 (unhide HW2)).mono ?_
    rintro e w3 ⟨g3, rfl, ⟨ys3, hy3, hN3⟩, hb3⟩
    have hz3 := hb3.size
    have HN3 := hide hN3; have HY3 := hide hy3
    have HW3 := hide ((unhide HW2).trans (hb3.mono (unhide HW2).size))
    clear hb3 hN3 hy3
    go_wp2_with fail
    refine (iEnvironmentText_any g3 n n _ ys3 w3 (unhide HN3) ((unhide HN) ys3 (unhide HY3)).1 hn1 ((unhide HN) ys3 (unhide HY3)).2 (pow10_below HPW.out (unhide HW3))).mono ?_
    rw [unhide HY3]
    rintro e w4 ⟨rfl, hb4⟩
    have hz4 := hb4.size
    have HN34 := hide ((unhide HN3).below hb4)
    have HW4 := hide ((unhide HW3).trans (hb4.mono (unhide HW3).size))
    clear hb4
    generalize envB (L.map neP) = z at *
    generalize etF (L.map neP) = xs at *
    cases z
    all_goals
      go_wp2_with fail
      refine ((unhide HT) w4 (unhide HW4)).mono ?_
      rintro e w5 ⟨g5, rfl, ⟨ys5, hy5, hN5⟩, hb5⟩
      have hz5 := hb5.size
      have HN5 := hide hN5
      have hyy : ys3.map nmP = ys5.map nmP := (unhide HY3).trans hy5.symm
      have HYY := hide hyy
      have HN35 := hide ((unhide HN34).below hb5)
      have HW5 := hide ((unhide HW4).trans (hb5.mono (unhide HW4).size))
      clear hb5 hN5 hy5 hyy
      go_wp2_with fail
      refine (eqNamedS_same g3 g5 n n n _ _ ys3 ys5 w5 (unhide HN35) (unhide HN5) (unhide HYY) ((unhide HN) ys3 (unhide HY3)).1 hn1 (fun x hx => (((unhide HN) ys3 (unhide HY3)).2 x hx).2)).mono ?_
      rintro e w6 ⟨rfl, hb6⟩
      have HW6 := hide ((unhide HW5).trans (hb6.mono (unhide HW5).size))
      clear hb6
      go_wp2_with fail
      go_ret
      exact ⟨rfl, unhide HW6⟩
  · have hd : decide (R < 0) = true := decide_eq_true (by omega)
    clear ha hR ht
    go_enter Tryd.func3, Tryd.ntmps3
    go_wp2_with fail
    refine (unhide HSZ).mono ?_
    rintro e w0 ⟨rfl, hb0⟩
    have HW0 := hide hb0; clear hb0
    go_wp2_with fail
    go_ret
    exact ⟨rfl, unhide HW0⟩
end Go.Proofs.YtafcdlojlfnjbaaDoor

/-
  Chapter 7: IsKneadingWord of both.
-/
import Derived.Test.YtldmgjeecomddaaDoorTf
namespace Go.Proofs.YtldmgjeecomddaaDoor
open Go.RowKit Rm

theorem empty_of {s : ByteArray} (h : s.size = 0) : s = ⟨#[]⟩ := by
  have h1 : s.data.toList.length = 0 := by rw [sz_list]; exact h
  have h2 := List.length_eq_zero_iff.1 h1
  exact ByteArray.ext (Array.toList_inj.1 h2)
theorem ne_empty {s : ByteArray} (h : ¬ s.size = 0) : (s.toList == []) = false := by
  rw [beq_eq_false_iff_ne]
  intro e
  rw [Lib.toList_data] at e
  exact h (by rw [← sz_list, e]; rfl)

set_option maxRecDepth 100000 in
theorem sIsKneadingWord_any (s : ByteArray) (w : World) (hs : s.size ≤ 1048576) :
    Calls Tryd.prog 9 #[.string s] w fun e w' => e = .returned (.bool (gdB sLCR s)) ∧ Below w.heap.size w w' := by
  have hg := fun W => knGood_any sLCR s W (by decide) hs
  have HG := hide hg
  clear hg
  generalize gdB sLCR s = z at *
  go_enter Tryd.func9, Tryd.ntmps9
  go_wp2_with (go_at_call 24; (with_reducible refine ((unhide HG) _).mono ?_); rintro e w1 ⟨rfl, hbw1⟩; obtain ⟨hcw1, hfw1⟩ := bcell hbw1; have hzw1 := hbw1.size; (try simp at hzw1))
  go_ret
  exact ⟨rfl, (by repeat (first | with_reducible exact Below.refl _ _ | with_reducible assumption | (with_reducible refine Below.trans ?_ (Below.mono (by assumption) (by first | omega | (simp <;> omega)))) | with_reducible apply Below.drew | with_reducible apply below_drewN | (with_reducible refine Below.alloc ?_ (by first | omega | (simp <;> omega)) _) | (with_reducible refine Below.setCell ?_ (by first | omega | (simp <;> omega)) _)))⟩

set_option maxRecDepth 100000 in
set_option maxHeartbeats 800000 in
theorem iIsKneadingWord_any (s : ByteArray) (w : World) (hs : s.size ≤ 1048576) :
    Calls Tryd.prog 10 #[.string s] w fun e w' => e = .returned (.bool (gdB sLCR s)) ∧ Below w.heap.size w w' := by
  have ht := fun W => trim_any s W hs
  by_cases h0 : s.size = 0
  · have hz : gdB sLCR s = false := by unfold gdB; rw [decide_eq_false (by omega), Bool.and_false]
    rw [hz]
    obtain rfl := empty_of h0
    clear hz ht h0
    go_enter Tryd.func10, Tryd.ntmps10
    go_wp2_with fail
    go_ret
    exact ⟨rfl, (by repeat (first | with_reducible exact Below.refl _ _ | with_reducible assumption | (with_reducible refine Below.trans ?_ (Below.mono (by assumption) (by first | omega | (simp <;> omega)))) | with_reducible apply Below.drew | with_reducible apply below_drewN | (with_reducible refine Below.alloc ?_ (by first | omega | (simp <;> omega)) _) | (with_reducible refine Below.setCell ?_ (by first | omega | (simp <;> omega)) _)))⟩
  · by_cases h30 : s.size ≤ 30
    · have hne := ne_empty h0
      have HT := hide ht
      clear ht
      rcases hi : inB sLCR s with _ | _
      · rw [gd_no hi]
        go_enter Tryd.func10, Tryd.ntmps10
        go_wp2_with (go_at_call 25; (with_reducible refine ((unhide HT) _).mono ?_); rintro e w1 ⟨t, rfl, ht, hbw1⟩; have hne2 := ne_empty (s := t) (fun h => by have := ht.1 h; rw [hi] at this; cases this); clear ht)
        go_ret
        exact ⟨rfl, (by repeat (first | with_reducible exact Below.refl _ _ | with_reducible assumption | (with_reducible refine Below.trans ?_ (Below.mono (by assumption) (by first | omega | (simp <;> omega)))) | with_reducible apply Below.drew | with_reducible apply below_drewN | (with_reducible refine Below.alloc ?_ (by first | omega | (simp <;> omega)) _) | (with_reducible refine Below.setCell ?_ (by first | omega | (simp <;> omega)) _)))⟩
      · rw [gd_in hi, decide_eq_true (by omega)]
        go_enter Tryd.func10, Tryd.ntmps10
        go_wp2_with (go_at_call 25; (with_reducible refine ((unhide HT) _).mono ?_); rintro e w1 ⟨t, rfl, ht, hbw1⟩; obtain rfl := empty_of (ht.2 hi); clear ht)
        go_ret
        exact ⟨rfl, (by repeat (first | with_reducible exact Below.refl _ _ | with_reducible assumption | (with_reducible refine Below.trans ?_ (Below.mono (by assumption) (by first | omega | (simp <;> omega)))) | with_reducible apply Below.drew | with_reducible apply below_drewN | (with_reducible refine Below.alloc ?_ (by first | omega | (simp <;> omega)) _) | (with_reducible refine Below.setCell ?_ (by first | omega | (simp <;> omega)) _)))⟩
    · have hz : gdB sLCR s = false := by unfold gdB; rw [decide_eq_false (by omega), Bool.and_false]
      have hne := ne_empty h0
      have h31 : ¬ (s.size : Int) ≤ 30 := by omega
      rw [hz]
      clear hz ht
      go_enter Tryd.func10, Tryd.ntmps10
      go_wp2_with fail
      go_ret
      exact ⟨rfl, (by repeat (first | with_reducible exact Below.refl _ _ | with_reducible assumption | (with_reducible refine Below.trans ?_ (Below.mono (by assumption) (by first | omega | (simp <;> omega)))) | with_reducible apply Below.drew | with_reducible apply below_drewN | (with_reducible refine Below.alloc ?_ (by first | omega | (simp <;> omega)) _) | (with_reducible refine Below.setCell ?_ (by first | omega | (simp <;> omega)) _)))⟩
end Go.Proofs.YtldmgjeecomddaaDoor

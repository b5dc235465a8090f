/-
  Chapter 4: IsCycle of the model, at any arguments.
-/
import Derived.Test.YtmkejopkmdcfeaaJd
namespace Go.Proofs.Ytmkejopkmdcfeaa
open Go.RowKit Rm

set_option maxRecDepth 100000 in
set_option maxHeartbeats 3200000 in
theorem sIsCycle_any (A B : Option Addr) (n c base n1 d1 base1 : Nat) (ps : List Pt) (xs : List Fr) (w : World) (ha : w.ownsRow base 65 4 (.slice A n c) n (ptcs ps)) (hx : w.ownsRow base1 26 2 (.slice B n1 d1) n1 (frcs xs)) (hn : n ≤ 1048576) (hn1 : n1 ≤ 1048576) :
    Calls Try.prog 50 #[.slice A n c, .slice B n1 d1] w fun e w' => e = .returned (.tuple #[.bool ((icO ps xs n1).getD false), .bool (icO ps xs n1).isSome]) ∧ Below w.heap.size w w' := by
  have hmap := fun W hW => imGood_any A n c base ps W hW hn
  have HA := hide ha
  rcases hm : mapB ps with _ | _
  · rw [hm] at hmap
    rw [icO_no (.inl hm)]
    simp only [Option.getD_none, Option.isSome_none]
    have HM := hide hmap
    clear hmap hm ha hx
    go_enter Try.func50, Try.ntmps50
    go_wp2_with (go_at_call 53; (with_reducible refine ((unhide HM) _ (own_below (unhide HA) ?pb)).mono ?_); (case pb => exact (by repeat (first | with_reducible exact Below.refl _ _ | with_reducible assumption | (with_reducible refine Below.trans ?_ (Below.mono (by assumption) (by first | omega | (simp <;> omega)))) | with_reducible apply Below.drew | with_reducible apply below_drewN | (with_reducible refine Below.alloc ?_ (by first | omega | (simp <;> omega)) _) | (with_reducible refine Below.setCell ?_ (by first | omega | (simp <;> omega)) _)))); rintro e w1 ⟨rfl, hbw1⟩)
    go_ret2
    exact ⟨rfl, (by repeat (first | with_reducible exact Below.refl _ _ | with_reducible assumption | (with_reducible refine Below.trans ?_ (Below.mono (by assumption) (by first | omega | (simp <;> omega)))) | with_reducible apply Below.drew | with_reducible apply below_drewN | (with_reducible refine Below.alloc ?_ (by first | omega | (simp <;> omega)) _) | (with_reducible refine Below.setCell ?_ (by first | omega | (simp <;> omega)) _)))⟩
  rw [hm] at hmap
  have HM := hide hmap
  clear hmap
  by_cases hl : 1 ≤ n1 ∧ n1 ≤ 60
  · obtain ⟨hl1, hl2⟩ := hl
    rw [icO_yes hm hl1 hl2]
    obtain ⟨gs, hB⟩ := own_form hx (by omega)
    subst hB
    have hcap := own_cap hx
    have HC0 := hide (fcells_own hx)
    obtain ⟨qs, hps, hg⟩ := gmap_of hm
    have hlenq : qs.length = n := by have := own_len ha; rw [hps, List.length_map] at this; exact this
    obtain ⟨g, hA⟩ := own_form ha (by have := hg.lo; omega)
    subst hA
    have hgl := (ha.lt g rfl).2
    have HG := Lib.hid hg; have HPS := Lib.hid hps
    have hi60 : (1 : Int) ≤ (n1 : Int) ∧ (n1 : Int) ≤ 60 := by omega
    have HI := Lib.hid hi60
    clear ha hx hm hlenq hg hps hi60
    go_enter Try.func50, Try.ntmps50
    go_wp2_with (first
      | (go_at_call 53; (with_reducible refine ((unhide HM) _ (own_below (unhide HA) ?pb)).mono ?_); (case pb => exact (by repeat (first | with_reducible exact Below.refl _ _ | with_reducible assumption | (with_reducible refine Below.trans ?_ (Below.mono (by assumption) (by first | omega | (simp <;> omega)))) | with_reducible apply Below.drew | with_reducible apply below_drewN | (with_reducible refine Below.alloc ?_ (by first | omega | (simp <;> omega)) _) | (with_reducible refine Below.setCell ?_ (by first | omega | (simp <;> omega)) _)))); rintro e w1 ⟨rfl, hbw1⟩)
      | (go_at_call 84; refine (l1In_yes HI.out _).mono ?_; rintro e w' ⟨rfl, rfl⟩))
    have HC := hide ((unhide HC0).below hbw1)
    have HA1 := hide (own_below (unhide HA) hbw1)
    have HB1 := hide hbw1
    have hs1 := hbw1.size
    clear hbw1 HC0
    go_loopw [19] (fun i wr => ∃ (j : Nat), i = .int .i64 j ∧ j ≤ n1 ∧ Hid (∀ t, t < j → uB (fAt xs t).1 (fAt xs t).2 = true) ∧ Below w1.heap.size w1 wr) (fun i _ => n1 - (intOf i).toNat)
    case atStart => exact ⟨0, rfl, by omega, hide (fun t ht => absurd ht (by omega)), Below.refl _ _⟩
    case round =>
      obtain ⟨j, rfl, hj, HP, hbwr⟩ := hrel
      have hzwr := hbwr.size
      by_cases hlt : j < n1
      · have hC := (unhide HC).below hbwr
        have x0 := hC.at0 j hlt
        have x1 := hC.at1 j hlt
        have hgs := hC.lt
        have hun := fun W => raUnit_any (fAt xs j).1 (fAt xs j).2 W
        have HB := hide hbwr
        clear hC hbwr
        rcases hu : uB (fAt xs j).1 (fAt xs j).2 with _ | _
        · have hbad := icK_bad (ps := ps) hlt hu
          have HBAD := Lib.hid hbad
          rw [hu] at hun
          have HU := hide hun
          clear hun hu hbad
          generalize (fAt xs j).1 = xn at *
          generalize (fAt xs j).2 = xd at *
          go_wp2_with ((go_at_call 54; (with_reducible refine ((unhide HU) _).mono ?_); rintro e w5 ⟨rfl, hbw5⟩; obtain ⟨hcw5, hfw5⟩ := bcell hbw5; have hzw5 := hbw5.size; (try simp at hzw5)))
          have hb := unhide HB
          have hb1 := unhide HB1
          go_ret2
          exact ⟨by rw [HBAD.out]; rfl, (by repeat (first | with_reducible exact Below.refl _ _ | with_reducible assumption | (with_reducible refine Below.trans ?_ (Below.mono (by assumption) (by first | omega | (simp <;> omega)))) | with_reducible apply Below.drew | with_reducible apply below_drewN | (with_reducible refine Below.alloc ?_ (by first | omega | (simp <;> omega)) _) | (with_reducible refine Below.setCell ?_ (by first | omega | (simp <;> omega)) _)))⟩
        · have hup : Hid (∀ t, t < j + 1 → uB (fAt xs t).1 (fAt xs t).2 = true) := hide (fun t ht => by
            rcases Nat.lt_or_eq_of_le (Nat.le_of_lt_succ ht) with h1 | rfl
            · exact (unhide HP) t h1
            · exact hu)
          rw [hu] at hun
          have HU := hide hun
          clear hun hu
          generalize (fAt xs j).1 = xn at *
          generalize (fAt xs j).2 = xd at *
          go_wp2_with ((go_at_call 54; (with_reducible refine ((unhide HU) _).mono ?_); rintro e w5 ⟨rfl, hbw5⟩; obtain ⟨hcw5, hfw5⟩ := bcell hbw5; have hzw5 := hbw5.size; (try simp at hzw5)))
          have hb := unhide HB
          go_roundw
          case rel => exact ⟨j + 1, by go_num, by omega, hup, (by repeat (first | with_reducible exact Below.refl _ _ | with_reducible assumption | (with_reducible refine Below.trans ?_ (Below.mono (by assumption) (by first | omega | (simp <;> omega)))) | with_reducible apply Below.drew | with_reducible apply below_drewN | (with_reducible refine Below.alloc ?_ (by first | omega | (simp <;> omega)) _) | (with_reducible refine Below.setCell ?_ (by first | omega | (simp <;> omega)) _)))⟩
          case measure => simp [intOf]; omega
      · obtain rfl : j = n1 := by omega
        have hor := fun (W : World) hW hC => orIsCycle_any g n c base gs j d1 qs xs W hW HG.out hC hcap hl1 hl2 (unhide HP)
        rw [← HPS.out] at hor
        obtain ⟨z1, hz1⟩ : ∃ z, z = (icK ps xs j j).getD false := ⟨_, rfl⟩
        obtain ⟨z2, hz2⟩ : ∃ z, z = (icK ps xs j j).isSome := ⟨_, rfl⟩
        rw [← hz1, ← hz2] at hor
        have HZ := Lib.hid (And.intro hz1 hz2)
        have HOR := hide hor
        clear hz1 hz2
        have HCr := hide ((unhide HC).below hbwr)
        have HAr := hide (own_below (unhide HA1) hbwr)
        have HB := hide hbwr
        clear hor hbwr HP
        go_wp2_with (go_at_call 85; (with_reducible refine ((unhide HOR) _ (unhide HAr) (unhide HCr)).mono ?_); rintro e w5 ⟨rfl, hbw5⟩; have hs5 := hbw5.size)
        have hb := unhide HB
        have hb1 := unhide HB1
        go_ret2
        exact ⟨by rw [← HZ.out.1, ← HZ.out.2]; rfl, (by repeat (first | with_reducible exact Below.refl _ _ | with_reducible assumption | (with_reducible refine Below.trans ?_ (Below.mono (by assumption) (by first | omega | (simp <;> omega)))) | with_reducible apply Below.drew | with_reducible apply below_drewN | (with_reducible refine Below.alloc ?_ (by first | omega | (simp <;> omega)) _) | (with_reducible refine Below.setCell ?_ (by first | omega | (simp <;> omega)) _)))⟩
  · rw [icO_no (.inr hl)]
    simp only [Option.getD_none, Option.isSome_none]
    have hi60 : ¬ ((1 : Int) ≤ (n1 : Int) ∧ (n1 : Int) ≤ 60) := by omega
    have HI := Lib.hid hi60
    clear ha hx hm hi60 hl
    go_enter Try.func50, Try.ntmps50
    go_wp2_with (first
      | (go_at_call 53; (with_reducible refine ((unhide HM) _ (own_below (unhide HA) ?pb)).mono ?_); (case pb => exact (by repeat (first | with_reducible exact Below.refl _ _ | with_reducible assumption | (with_reducible refine Below.trans ?_ (Below.mono (by assumption) (by first | omega | (simp <;> omega)))) | with_reducible apply Below.drew | with_reducible apply below_drewN | (with_reducible refine Below.alloc ?_ (by first | omega | (simp <;> omega)) _) | (with_reducible refine Below.setCell ?_ (by first | omega | (simp <;> omega)) _)))); rintro e w1 ⟨rfl, hbw1⟩)
      | (go_at_call 84; refine (l1In_no HI.out _).mono ?_; rintro e w' ⟨rfl, rfl⟩))
    go_ret2
    exact ⟨rfl, (by repeat (first | with_reducible exact Below.refl _ _ | with_reducible assumption | (with_reducible refine Below.trans ?_ (Below.mono (by assumption) (by first | omega | (simp <;> omega)))) | with_reducible apply Below.drew | with_reducible apply below_drewN | (with_reducible refine Below.alloc ?_ (by first | omega | (simp <;> omega)) _) | (with_reducible refine Below.setCell ?_ (by first | omega | (simp <;> omega)) _)))⟩
end Go.Proofs.Ytmkejopkmdcfeaa

/-
  Chapter 4: orbits of the model.
-/
import Derived.Test.YthccdooacbablabOr
namespace Go.Proofs.Ythccdooacbablab
open Go.RowKit Rm

set_option maxRecDepth 100000 in
set_option maxHeartbeats 1600000 in
theorem orRun_map (g n c base : Nat) (qs : List QP) (x : Rat) (m : Nat) (w : World) (ha : w.ownsRow base 45 4 (.slice (some ⟨g, 0, none⟩) n c) n (ptcs (qs.map qp))) (hg : GMap qs) (hx : Un x) (hm : m ≤ 60) :
    Calls Try.prog 17 #[.slice (some ⟨g, 0, none⟩) n c, .agg #[.int .i64 (x.num), .int .i64 (x.den)], .int .i64 m] w fun e w' => ∃ gs d : Nat, e = .returned (.slice (some ⟨gs, 0, none⟩) (run qs m x).length d) ∧
      w'.ownsRow w.heap.size 31 2 (.slice (some ⟨gs, 0, none⟩) (run qs m x).length d) (run qs m x).length (frcs ((run qs m x).map qf)) ∧ Below w.heap.size w w' := by
  obtain ⟨i0, hi0, hz0, hz1, hz2⟩ := info_parts iRat
  have hlen : qs.length = n := by have := own_len ha; rw [List.length_map] at this; exact this
  have hlo := hg.lo
  rw [hlen] at hlo
  obtain ⟨g', cap, hv, _, hgl⟩ := ha.form (by omega)
  obtain rfl : g = g' := by injection hv with h1; exact (Addr.mk.inj (Option.some.inj h1)).1
  have hat := fun (y : Rat) (hy : Un y) W hW => imAt_any g n c base qs y W hW hg hy.fit
  have HAT := hide hat; clear hat
  have HA := hide ha; clear ha hv
  have HST := hide (Runs.start qs hx m)
  obtain ⟨xn, hxn⟩ : ∃ r, r = x.num := ⟨_, rfl⟩
  obtain ⟨xd, hxd⟩ : ∃ r, r = (x.den : Int) := ⟨_, rfl⟩
  rw [← hxn, ← hxd]
  have HX := Lib.hid (And.intro hxn hxd); clear hxn hxd
  go_enter Try.func17, Try.ntmps17
  go_wp2_with fail
  go_loopw [7] (fun v wr => ∃ (gs j c' : Nat) (init : List Rat) (y : Rat) (r : Nat), v = .slice (some ⟨gs, 0, none⟩) (j + 1) c' ∧ Hid (Runs qs x m init y r) ∧ wr.ownsRow w.heap.size 31 2 (.slice (some ⟨gs, 0, none⟩) (j + 1) c') (j + 1) (frcs ((init ++ [y]).map qf)) ∧ Below w.heap.size w wr) (fun v _ => m + 1 - lenOf v)
  case atStart => exact ⟨_, 0, _, [], x, m, rfl, HST, one_own _ _ _ _ (by simp) (by simp) HX.out.1 HX.out.2, (by repeat (first | with_reducible exact Below.refl _ _ | with_reducible assumption | (with_reducible refine Below.trans ?_ (Below.mono (by assumption) (by first | omega | (simp <;> omega)))) | with_reducible apply Below.drew | with_reducible apply below_drewN | (with_reducible refine Below.alloc ?_ (by first | omega | (simp <;> omega)) _) | (with_reducible refine Below.setCell ?_ (by first | omega | (simp <;> omega)) _)))⟩
  case round =>
    obtain ⟨gs, j, c', init, y, r, rfl, HRU, hown, hbwr⟩ := hrel
    have hzwr := hbwr.size
    obtain ⟨hj, hgsl, f0, f1⟩ := own_last hown
    have hrl : j + r = m := by rw [hj]; exact (unhide HRU).len
    have HJ := Lib.hid hj
    clear hj
    by_cases hkm : j < m
    · obtain ⟨r, rfl⟩ : ∃ q, r = q + 1 := ⟨r - 1, by omega⟩
      have t1 : IntKind.i64.wrap (j : Int) = (j : Int) := IntWalk.i64_in _ (by omega)
      have hval := (unhide HAT) y (unhide HRU).un
      have hvB : ∀ i, (Value.slice (some ⟨gs, 0, none⟩) (j + 1) c').ownBlock = some i → w.heap.size ≤ i := fun i e => (hown.lt i e).1
      rcases hv : vAt qs y with _ | z
      · rw [hv] at hval
        simp only [oN_none, oD_none, Option.isSome_none] at hval
        have hrun := (unhide HRU).stop hv
        have hrl2 : (run qs m x).length = j + 1 := by rw [hrun, List.length_append, ← HJ.out]; rfl
        rw [← hrun] at hown
        have HRL := Lib.hid hrl2
        have HV := hide hval
        have HO := hide hown
        have HB := hide hbwr
        clear hval hv hown hbwr hrun hrl2 hvB
        generalize y.num = yn at *
        generalize (y.den : Int) = yd at *
        go_wp2_with (go_at_call 28; (with_reducible refine ((unhide HV) _ (own_below (unhide HA) ?pb)).mono ?_); (case pb => exact (unhide HB)); rintro e w3 ⟨rfl, hbw3⟩; have hz3 := hbw3.size; (skip; (try ((have kw3gsX0 := (bnew hbw3) (gs) ?pf); (case pf => (first | omega | (simp; done) | (simp; omega))); obtain ⟨kcw3gsX0, kfw3gsX0, klw3gsX0⟩ := kw3gsX0))))
        have hb := unhide HB
        have hbz : Below w.heap.size w w3 := hb.trans (hbw3.mono hb.size)
        go_ret
        exact ⟨gs, c', by rw [HRL.out]; rfl, by rw [HRL.out]; exact own_below (unhide HO) (by repeat (first | with_reducible exact Below.refl _ _ | with_reducible assumption | (with_reducible refine Below.trans ?_ (Below.mono (by assumption) (by first | omega | (simp <;> omega)))) | with_reducible apply Below.drew | with_reducible apply below_drewN | (with_reducible refine Below.alloc ?_ (by first | omega | (simp <;> omega)) _) | (with_reducible refine Below.setCell ?_ (by first | omega | (simp <;> omega)) _))), (by repeat (first | with_reducible exact Below.refl _ _ | with_reducible assumption | (with_reducible refine Below.trans ?_ (Below.mono (by assumption) (by first | omega | (simp <;> omega)))) | with_reducible apply Below.drew | with_reducible apply below_drewN | (with_reducible refine Below.alloc ?_ (by first | omega | (simp <;> omega)) _) | (with_reducible refine Below.setCell ?_ (by first | omega | (simp <;> omega)) _)))⟩
      · rw [hv] at hval
        simp only [oN_some, oD_some, Option.isSome_some] at hval
        have hru := (unhide HRU).step hg hv
        have HRU2 := hide hru
        have hsn := frq_sn (init ++ [y]) z
        have HSN := Lib.hid hsn
        have HV := hide hval
        have HO := hide hown
        have HB := hide hbwr
        have HVB := hide hvB
        clear hval hv hown hbwr hru hsn hvB
        generalize y.num = yn at *
        generalize (y.den : Int) = yd at *
        generalize z.num = zn at *
        generalize (z.den : Int) = zd at *
        go_wp2_with (first
          | (go_at_call 28; (with_reducible refine ((unhide HV) _ (own_below (unhide HA) ?pb)).mono ?_); (case pb => exact (unhide HB)); rintro e w3 ⟨rfl, hbw3⟩; have hz3 := hbw3.size; (skip; (try ((have kw3gsX0 := (bnew hbw3) (gs) ?pf); (case pf => (first | omega | (simp; done) | (simp; omega))); obtain ⟨kcw3gsX0, kfw3gsX0, klw3gsX0⟩ := kw3gsX0))))
          | (at_builtin; refine wpList_append_any rfl _ _ _ rfl w.heap.size 31 i0 _ 2 16 Try.underlying41 hi0 hz0 hz1 hz2 rfl (by omega) (.slice (some ⟨gs, 0, none⟩) (j + 1) c') (j + 1) _ rfl (own_below (unhide HO) (show Below wr.heap.size wr _ from (by repeat (first | with_reducible exact Below.refl _ _ | with_reducible assumption | (with_reducible refine Below.trans ?_ (Below.mono (by assumption) (by first | omega | (simp <;> omega)))) | with_reducible apply Below.drew | with_reducible apply below_drewN | (with_reducible refine Below.alloc ?_ (by first | omega | (simp <;> omega)) _) | (with_reducible refine Below.setCell ?_ (by first | omega | (simp <;> omega)) _))))) _ 1 [.int .i64 zn, .int .i64 zd] rfl (lies2 (by simp [go_sem, *]) (by simp [go_sem, *])) rfl (by simp [Value.oneCell']) (Nat.le_trans (by omega) maxLen_ge) (by omega) (by first | omega | (simp <;> omega)) (j + 1 + 1) rfl ?_; intro A4 c4 w4 hown4 hgrow4))
        have hb := unhide HB
        have hby : Below wr.heap.size wr w3 := hbw3
        have hbz : Below w.heap.size w w4 := Below.grown (show Below w.heap.size w _ from (by repeat (first | with_reducible exact Below.refl _ _ | with_reducible assumption | (with_reducible refine Below.trans ?_ (Below.mono (by assumption) (by first | omega | (simp <;> omega)))) | with_reducible apply Below.drew | with_reducible apply below_drewN | (with_reducible refine Below.alloc ?_ (by first | omega | (simp <;> omega)) _) | (with_reducible refine Below.setCell ?_ (by first | omega | (simp <;> omega)) _)))) hgrow4 (by first | omega | (simp <;> omega)) (unhide HVB)
        obtain ⟨g4, rfl⟩ := own_form0 hown4 (by omega)
        rw [HSN.out] at hown4
        have HO4 := hide hown4
        have HBZ := hide hbz
        clear hown4 hgrow4 hbz hby hbw3 hb
        go_wp2_with fail
        go_roundw
        case rel => exact ⟨g4, j + 1, c4, _, z, r, rfl, HRU2, unhide HO4, unhide HBZ⟩
        case measure => simp [lenOf]; omega
    · obtain rfl : r = 0 := by omega
      have hrun := (unhide HRU).full
      have hrl2 : (run qs m x).length = j + 1 := by rw [hrun, List.length_append, ← HJ.out]; rfl
      rw [← hrun] at hown
      have HRL := Lib.hid hrl2
      have HO := hide hown
      have HB := hide hbwr
      clear hown hbwr hrun hrl2
      go_wp2_with fail
      go_ret
      exact ⟨gs, c', by rw [HRL.out]; rfl, by rw [HRL.out]; exact unhide HO, unhide HB⟩
end Go.Proofs.Ythccdooacbablab

/-
  Chapter 6: ItineraryOf of the model.
-/
import Derived.Test.YthccdooacbablabWe
namespace Go.Proofs.Ythccdooacbablab
open Go.RowKit Rm

set_option maxRecDepth 100000 in
set_option maxHeartbeats 1600000 in
theorem sItineraryOf_any (A : Option Addr) (n c base : Nat) (ps : List Pt) (a b m : Int) (w : World) (ha : w.ownsRow base 45 4 (.slice A n c) n (ptcs ps)) (hn : n ≤ 1048576) :
    Calls Try.prog 5 #[.slice A n c, .agg #[.int .i64 (a), .int .i64 (b)], .int .i64 m] w fun e w' => GivesI w.heap.size (itL ps a b m) (itZ ps a b m) e w' ∧ Below w.heap.size w w' := by
  obtain ⟨i0, hi0, iz0, iz1, iz2⟩ := info_parts iInt
  have hlw := fun W hW => woMap_any A n c base ps W hW hn
  have hun := fun W => raUnit_any a b W
  have HA := hide ha
  rcases hm : lmB ps with _ | _
  · have hz : itZ ps a b m = false := by unfold itZ; rw [hm]; rfl
    rw [hz, itL_no hz]
    rw [hm] at hlw
    have HLW := hide hlw
    clear hm hz ha hun hlw
    go_enter Try.func5, Try.ntmps5
    go_wp2_with (go_at_call 14; (with_reducible refine ((unhide HLW) _ (own_below (unhide HA) ?pb)).mono ?_); (case pb => exact (by repeat (first | with_reducible exact Below.refl _ _ | with_reducible assumption | (with_reducible refine Below.trans ?_ (Below.mono (by assumption) (by first | omega | (simp <;> omega)))) | with_reducible apply Below.drew | with_reducible apply below_drewN | (with_reducible refine Below.alloc ?_ (by first | omega | (simp <;> omega)) _) | (with_reducible refine Below.setCell ?_ (by first | omega | (simp <;> omega)) _)))); rintro e w1 ⟨rfl, hbw1⟩; (skip; (try ((have kw1w0 := (bnew hbw1) (w.heap.size) ?pf); (case pf => (first | omega | (simp; done) | (simp; omega))); obtain ⟨kcw1w0, kfw1w0, klw1w0⟩ := kw1w0))))
    go_ret2
    exact ⟨givesI_none _ _, (by repeat (first | with_reducible exact Below.refl _ _ | with_reducible assumption | (with_reducible refine Below.trans ?_ (Below.mono (by assumption) (by first | omega | (simp <;> omega)))) | with_reducible apply Below.drew | with_reducible apply below_drewN | (with_reducible refine Below.alloc ?_ (by first | omega | (simp <;> omega)) _) | (with_reducible refine Below.setCell ?_ (by first | omega | (simp <;> omega)) _)))⟩
  · rw [hm] at hlw
    have HLW := hide hlw; clear hlw
    rcases hu : uB a b with _ | _
    · have hz : itZ ps a b m = false := by
        unfold itZ
        rcases orb_cases ps a b (m - 1) with ⟨_, _, ho⟩ | ⟨qs, x, k, rfl, hg, rfl, rfl, hx, hmk, hk, hr, hask, _⟩
        · rw [ho]; simp
        · rw [uB_un hx] at hu; cases hu
      rw [hz, itL_no hz]
      rw [hu] at hun
      have HU := hide hun
      clear hm hz ha hun hu
      go_enter Try.func5, Try.ntmps5
      go_wp2_with (first
        | (go_at_call 14; (with_reducible refine ((unhide HLW) _ (own_below (unhide HA) ?pb)).mono ?_); (case pb => exact (by repeat (first | with_reducible exact Below.refl _ _ | with_reducible assumption | (with_reducible refine Below.trans ?_ (Below.mono (by assumption) (by first | omega | (simp <;> omega)))) | with_reducible apply Below.drew | with_reducible apply below_drewN | (with_reducible refine Below.alloc ?_ (by first | omega | (simp <;> omega)) _) | (with_reducible refine Below.setCell ?_ (by first | omega | (simp <;> omega)) _)))); rintro e w1 ⟨rfl, hbw1⟩; (skip; (try ((have kw1w0 := (bnew hbw1) (w.heap.size) ?pf); (case pf => (first | omega | (simp; done) | (simp; omega))); obtain ⟨kcw1w0, kfw1w0, klw1w0⟩ := kw1w0))))
        | (go_at_call 15; (with_reducible refine ((unhide HU) _).mono ?_); rintro e w2 ⟨rfl, hbw2⟩; obtain ⟨hcw2, hfw2⟩ := bcell hbw2; have hzw2 := hbw2.size; (try simp at hzw2); (try ((have kw2w0 := (bnew hbw2) (w.heap.size) ?pf); (case pf => (first | omega | (simp; done) | (simp; omega))); obtain ⟨kcw2w0, kfw2w0, klw2w0⟩ := kw2w0))))
      go_ret2
      exact ⟨givesI_none _ _, (by repeat (first | with_reducible exact Below.refl _ _ | with_reducible assumption | (with_reducible refine Below.trans ?_ (Below.mono (by assumption) (by first | omega | (simp <;> omega)))) | with_reducible apply Below.drew | with_reducible apply below_drewN | (with_reducible refine Below.alloc ?_ (by first | omega | (simp <;> omega)) _) | (with_reducible refine Below.setCell ?_ (by first | omega | (simp <;> omega)) _)))⟩
    · rw [hu] at hun
      have HU := hide hun; clear hun
      by_cases hr : 1 ≤ m ∧ m ≤ 20
      · obtain ⟨qs, hq, hl⟩ := lmB_of hm
        have hmb : mapB ps = true := by rw [hq]; exact hl.toGMap.mapB
        obtain ⟨g, mm, qs', hAg, hnm, hq', hg', hlen⟩ := own_form ha hmb
        obtain rfl : qs = qs' := by have := congrArg dec (hq.symm.trans hq'); rwa [dec_qp, dec_qp] at this
        subst hAg hnm hq
        obtain ⟨x, rfl, rfl, hxf, hx0, hx1⟩ := uB_rat hu
        have hx : Un x := ⟨hxf, hx0, hx1⟩
        obtain ⟨k, rfl⟩ : ∃ k : Nat, m = (k : Int) + 1 := ⟨(m - 1).toNat, by omega⟩
        have ek : (k : Int) + 1 - 1 = k := by omega
        have hk : k ≤ 60 := by omega
        have hrun := fun W hW => orRun_map g (mm + 1) c base qs x k W hW hg' hx hk
        have s1 : IntKind.i64.wrap (k : Int) = (k : Int) := IntWalk.i64_in _ (by omega)
        have HR := hide hrun; clear hrun
        have hin := fun W => l1In_yes hr W
        have HIN := hide hin; clear hin
        rcases orb_cases (qs.map qp) x.num x.den k with ⟨hno, _, _⟩ | ⟨qs2, x2, k2, hq2, hg2, e1, e2, _, e3, _, hro, _, hcase⟩
        · rw [ask_map hg' hx hk] at hno; cases hno
        · have hlen2 : (run qs k x).length ≤ k + 1 ∧ 1 ≤ (run qs k x).length := ⟨(run_len qs k x).2, (run_len qs k x).1⟩
          rw [runO_map hg' hx hk] at hro
          injection hro with hro
          rw [← hro] at hcase
          obtain rfl : k = k2 := by omega
          rcases hcase with ⟨_, hl2, ho⟩ | ⟨hO, ho⟩
          · have hz : itZ (qs.map qp) x.num x.den ((k : Int) + 1) = false := by unfold itZ; rw [ek, ho]; simp
            rw [hz, itL_no hz]
            have hlt : (run qs k x).length < k + 1 := by omega
            have e4 : decide (((run qs k x).length : Int) < (k : Int) + 1) = true := decide_eq_true (by omega)
            clear hm hz ha hl hq' hmb hg' hlen hro ho hq2 hg2 e1 e2 hxf hx0 hx1 hx hlen2 hl2 hu e3
            generalize run qs k x = L at *
            generalize x.num = xn at *
            generalize (x.den : Int) = xd at *
            go_enter Try.func5, Try.ntmps5
            go_wp2_with (first
              | (go_at_call 14; (with_reducible refine ((unhide HLW) _ (own_below (unhide HA) ?pb)).mono ?_); (case pb => exact (by repeat (first | with_reducible exact Below.refl _ _ | with_reducible assumption | (with_reducible refine Below.trans ?_ (Below.mono (by assumption) (by first | omega | (simp <;> omega)))) | with_reducible apply Below.drew | with_reducible apply below_drewN | (with_reducible refine Below.alloc ?_ (by first | omega | (simp <;> omega)) _) | (with_reducible refine Below.setCell ?_ (by first | omega | (simp <;> omega)) _)))); rintro e w1 ⟨rfl, hbw1⟩; have hs1 := hbw1.size; (try simp at hs1); (skip; (try ((have kw1w0 := (bnew hbw1) (w.heap.size) ?pf); (case pf => (first | omega | (simp; done) | (simp; omega))); obtain ⟨kcw1w0, kfw1w0, klw1w0⟩ := kw1w0))))
              | (go_at_call 15; (with_reducible refine ((unhide HU) _).mono ?_); rintro e w2 ⟨rfl, hbw2⟩; obtain ⟨hcw2, hfw2⟩ := bcell hbw2; have hzw2 := hbw2.size; (try simp at hzw2); (try ((have kw2w0 := (bnew hbw2) (w.heap.size) ?pf); (case pf => (first | omega | (simp; done) | (simp; omega))); obtain ⟨kcw2w0, kfw2w0, klw2w0⟩ := kw2w0)))
              | (go_at_call 16; (with_reducible refine ((unhide HIN) _).mono ?_); rintro e w' ⟨rfl, rfl⟩)
              | (go_at_call 17; (with_reducible refine ((unhide HR) _ (own_below (unhide HA) ?pb)).mono ?_); (case pb => exact (by repeat (first | with_reducible exact Below.refl _ _ | with_reducible assumption | (with_reducible refine Below.trans ?_ (Below.mono (by assumption) (by first | omega | (simp <;> omega)))) | with_reducible apply Below.drew | with_reducible apply below_drewN | (with_reducible refine Below.alloc ?_ (by first | omega | (simp <;> omega)) _) | (with_reducible refine Below.setCell ?_ (by first | omega | (simp <;> omega)) _)))); rintro e w3 ⟨gs, d, rfl, hown, hbw3⟩; (skip; (try ((have kw3w0 := (bnew hbw3) (w.heap.size) ?pf); (case pf => (first | omega | (simp; done) | (simp; omega))); obtain ⟨kcw3w0, kfw3w0, klw3w0⟩ := kw3w0)))))
            go_ret2
            exact ⟨givesI_none _ _, (by repeat (first | with_reducible exact Below.refl _ _ | with_reducible assumption | (with_reducible refine Below.trans ?_ (Below.mono (by assumption) (by first | omega | (simp <;> omega)))) | with_reducible apply Below.drew | with_reducible apply below_drewN | (with_reducible refine Below.alloc ?_ (by first | omega | (simp <;> omega)) _) | (with_reducible refine Below.setCell ?_ (by first | omega | (simp <;> omega)) _)))⟩
          · have hz : itZ (qs.map qp) x.num x.den ((k : Int) + 1) = true := by unfold itZ; rw [ek, hm, ho, decide_eq_true hr]; rfl
            have hyes := itL_yes hz (show orbO (qs.map qp) x.num x.den ((k : Int) + 1 - 1) = some (run qs k x) by rw [ek]; exact ho)
            have hall := itK_all (qs := qs) (l := run qs k x)
            rw [hyes, hz, ← hall]
            have hlN := hO.len
            have hunl := hO.all
            have hlk := itK_len (qs := qs) (l := run qs k x) (Nat.le_refl _)
            rw [hlN] at hlk ⊢
            have HLK := Lib.hid hlk; have HN := Lib.hid hlN; have HUL := hide hunl; have HGM := Lib.hid hg'
            clear hm hz ha hl hq' hmb hg' hlen hro ho hq2 hg2 e1 e2 hxf hx0 hx1 hx hlen2 hu e3 hlk hlN hunl hO hyes hall
            generalize run qs k x = L at *
            generalize x.num = xn at *
            generalize (x.den : Int) = xd at *
            go_enter Try.func5, Try.ntmps5
            go_wp2_with (first
              | (go_at_call 14; (with_reducible refine ((unhide HLW) _ (own_below (unhide HA) ?pb)).mono ?_); (case pb => exact (by repeat (first | with_reducible exact Below.refl _ _ | with_reducible assumption | (with_reducible refine Below.trans ?_ (Below.mono (by assumption) (by first | omega | (simp <;> omega)))) | with_reducible apply Below.drew | with_reducible apply below_drewN | (with_reducible refine Below.alloc ?_ (by first | omega | (simp <;> omega)) _) | (with_reducible refine Below.setCell ?_ (by first | omega | (simp <;> omega)) _)))); rintro e w1 ⟨rfl, hbw1⟩; have hs1 := hbw1.size; (try simp at hs1); (skip; (try ((have kw1w0 := (bnew hbw1) (w.heap.size) ?pf); (case pf => (first | omega | (simp; done) | (simp; omega))); obtain ⟨kcw1w0, kfw1w0, klw1w0⟩ := kw1w0))))
              | (go_at_call 15; (with_reducible refine ((unhide HU) _).mono ?_); rintro e w2 ⟨rfl, hbw2⟩; obtain ⟨hcw2, hfw2⟩ := bcell hbw2; have hzw2 := hbw2.size; (try simp at hzw2); (try ((have kw2w0 := (bnew hbw2) (w.heap.size) ?pf); (case pf => (first | omega | (simp; done) | (simp; omega))); obtain ⟨kcw2w0, kfw2w0, klw2w0⟩ := kw2w0)))
              | (go_at_call 16; (with_reducible refine ((unhide HIN) _).mono ?_); rintro e w' ⟨rfl, rfl⟩)
              | (go_at_call 17; (with_reducible refine ((unhide HR) _ (own_below (unhide HA) ?pb)).mono ?_); (case pb => exact (by repeat (first | with_reducible exact Below.refl _ _ | with_reducible assumption | (with_reducible refine Below.trans ?_ (Below.mono (by assumption) (by first | omega | (simp <;> omega)))) | with_reducible apply Below.drew | with_reducible apply below_drewN | (with_reducible refine Below.alloc ?_ (by first | omega | (simp <;> omega)) _) | (with_reducible refine Below.setCell ?_ (by first | omega | (simp <;> omega)) _)))); rintro e w3 ⟨gs, d, rfl, hown, hbw3⟩; rw [HN.out] at hown ⊢; have HO3 := hide hown; clear hown; (skip; (try ((have kw3w0 := (bnew hbw3) (w.heap.size) ?pf); (case pf => (first | omega | (simp; done) | (simp; omega))); obtain ⟨kcw3w0, kfw3w0, klw3w0⟩ := kw3w0)))))
            have hbA : Below w.heap.size w w3 := (by repeat (first | with_reducible exact Below.refl _ _ | with_reducible assumption | (with_reducible refine Below.trans ?_ (Below.mono (by assumption) (by first | omega | (simp <;> omega)))) | with_reducible apply Below.drew | with_reducible apply below_drewN | (with_reducible refine Below.alloc ?_ (by first | omega | (simp <;> omega)) _) | (with_reducible refine Below.setCell ?_ (by first | omega | (simp <;> omega)) _)))
            have HA3 := hide (own_below (unhide HA) hbA)
            have HBA := hide hbA
            have hzA := hbA.size
            clear hbA hbw1 hbw2 hbw3 hcw2 hfw2 kcw1w0 kfw1w0 klw1w0 kcw2w0 kfw2w0 klw2w0 kcw3w0 kfw3w0 klw3w0
            go_loopw [9, 36] (fun v i wr => ∃ (j : Nat) (A4 : Option Addr) (c4 : Nat), i = .int .i64 (j : Int) ∧ v = .slice A4 j c4 ∧ j ≤ k + 1 ∧ wr.ownsRow w3.heap.size 3 1 (.slice A4 j c4) j (ints (itK qs L j)) ∧ Below w3.heap.size w3 wr) (fun _ i _ => k + 1 - (intOf i).toNat)
            case atStart => exact ⟨0, none, 0, rfl, rfl, by omega, World.ownsRow_nil _ _ _ _, Below.refl _ _⟩
            case round =>
              obtain ⟨j, A4, c4, rfl, rfl, hj, hown, hbwr⟩ := hrel
              have hzwr := hbwr.size
              by_cases hlt : j < k + 1
              · have hjl : j < L.length := by rw [HN.out]; exact hlt
                obtain ⟨g1, hg1e, hg1, _, f0, f1⟩ := frs_cells (own_below (unhide HO3) (by have := hbwr; exact (Below.mono (B' := w3.heap.size) this (Nat.le_refl _)))) hlt (fAt_q L hjl)
                obtain rfl : gs = g1 := (Addr.mk.inj (Option.some.inj hg1e)).1
                have hu := (unhide HUL) j hlt
                have hfl := fun W hV => woAddress_any g mm c base qs (L.getD j 0) W (own_below (own_below (unhide HA3) hbwr) hV) HGM.out hu.fit hu.hi
                have hsn := itK_sn (qs := qs) hjl
                have hvB : ∀ k, (Value.slice A4 j c4).ownBlock = some k → w3.heap.size ≤ k := fun k e => (hown.lt k e).1
                have HFL := hide hfl; have HSN := Lib.hid hsn; have HVB := hide hvB; have HO := hide hown; have HB := hide hbwr
                clear hu hfl hsn hvB hown hbwr hg1e
                generalize adQ qs (L.getD j 0) = z at *
                generalize (L.getD j 0).num = yn at *
                generalize ((L.getD j 0).den : Int) = yd at *
                go_wp2_with (first
                  | (go_at_call 18; (with_reducible refine ((unhide HFL) _ ?pb).mono ?_); (case pb => exact (by repeat (first | with_reducible exact Below.refl _ _ | with_reducible assumption | (with_reducible refine Below.trans ?_ (Below.mono (by assumption) (by first | omega | (simp <;> omega)))) | with_reducible apply Below.drew | with_reducible apply below_drewN | (with_reducible refine Below.alloc ?_ (by first | omega | (simp <;> omega)) _) | (with_reducible refine Below.setCell ?_ (by first | omega | (simp <;> omega)) _)))); rintro e w4 ⟨rfl, hbw4⟩; have hz4 := hbw4.size; (try simp at hz4))
                  | (at_builtin; refine wpList_append_any rfl _ _ _ rfl w3.heap.size 3 i0 _ 1 8 Try.underlying26 hi0 iz0 iz1 iz2 rfl (by omega) (.slice A4 j c4) j _ rfl (own_below (unhide HO) (show Below wr.heap.size wr _ from (by repeat (first | with_reducible exact Below.refl _ _ | with_reducible assumption | (with_reducible refine Below.trans ?_ (Below.mono (by assumption) (by first | omega | (simp <;> omega)))) | with_reducible apply Below.drew | with_reducible apply below_drewN | (with_reducible refine Below.alloc ?_ (by first | omega | (simp <;> omega)) _) | (with_reducible refine Below.setCell ?_ (by first | omega | (simp <;> omega)) _))))) _ 1 [.int .i64 (z : Int)] rfl (lies_one (by simp [go_sem, *])) rfl (one_cell rfl) (Nat.le_trans (by omega) maxLen_ge) (by omega) (by first | omega | (simp <;> omega)) (j + 1) rfl ?_; intro A5 c5 w5 hown5 hgrow5))
                rw [← HSN.out] at hown5
                have hb := unhide HB
                have hbz : Below w3.heap.size w3 w5 := Below.grown (hb.trans ((show Below wr.heap.size wr _ from (by repeat (first | with_reducible exact Below.refl _ _ | with_reducible assumption | (with_reducible refine Below.trans ?_ (Below.mono (by assumption) (by first | omega | (simp <;> omega)))) | with_reducible apply Below.drew | with_reducible apply below_drewN | (with_reducible refine Below.alloc ?_ (by first | omega | (simp <;> omega)) _) | (with_reducible refine Below.setCell ?_ (by first | omega | (simp <;> omega)) _)))).mono hb.size)) hgrow5 (by first | omega | (simp <;> omega)) (unhide HVB)
                have HO5 := hide hown5; have HBZ := hide hbz
                clear hown5 hbz hgrow5 hb
                go_wp2_with fail
                go_roundw
                case rel => exact ⟨j + 1, A5, c5, by go_num, rfl, by omega, unhide HO5, unhide HBZ⟩
                case measure => (simp [intOf] <;> omega)
              · obtain rfl : j = k + 1 := by omega
                have HO := hide hown
                have HB := hide hbwr
                clear hown hbwr
                go_wp2
                go_ret2
                exact ⟨⟨A4, c4, by rw [HLK.out] <;> rfl, by rw [HLK.out]; exact (unhide HO).mono hzA⟩, (unhide HBA).trans ((unhide HB).mono hzA)⟩
      · have hz : itZ ps a b m = false := by unfold itZ; rw [decide_eq_false hr]; simp
        rw [hz, itL_no hz]
        have hin := fun W => l1In_no hr W
        have HIN := hide hin
        clear hm hz ha hu hr hin
        go_enter Try.func5, Try.ntmps5
        go_wp2_with (first
          | (go_at_call 14; (with_reducible refine ((unhide HLW) _ (own_below (unhide HA) ?pb)).mono ?_); (case pb => exact (by repeat (first | with_reducible exact Below.refl _ _ | with_reducible assumption | (with_reducible refine Below.trans ?_ (Below.mono (by assumption) (by first | omega | (simp <;> omega)))) | with_reducible apply Below.drew | with_reducible apply below_drewN | (with_reducible refine Below.alloc ?_ (by first | omega | (simp <;> omega)) _) | (with_reducible refine Below.setCell ?_ (by first | omega | (simp <;> omega)) _)))); rintro e w1 ⟨rfl, hbw1⟩; have hs1 := hbw1.size; (try simp at hs1); (skip; (try ((have kw1w0 := (bnew hbw1) (w.heap.size) ?pf); (case pf => (first | omega | (simp; done) | (simp; omega))); obtain ⟨kcw1w0, kfw1w0, klw1w0⟩ := kw1w0))))
          | (go_at_call 15; (with_reducible refine ((unhide HU) _).mono ?_); rintro e w2 ⟨rfl, hbw2⟩; obtain ⟨hcw2, hfw2⟩ := bcell hbw2; have hzw2 := hbw2.size; (try simp at hzw2); (try ((have kw2w0 := (bnew hbw2) (w.heap.size) ?pf); (case pf => (first | omega | (simp; done) | (simp; omega))); obtain ⟨kcw2w0, kfw2w0, klw2w0⟩ := kw2w0)))
          | (go_at_call 16; (with_reducible refine ((unhide HIN) _).mono ?_); rintro e w' ⟨rfl, rfl⟩))
        go_ret2
        exact ⟨givesI_none _ _, (by repeat (first | with_reducible exact Below.refl _ _ | with_reducible assumption | (with_reducible refine Below.trans ?_ (Below.mono (by assumption) (by first | omega | (simp <;> omega)))) | with_reducible apply Below.drew | with_reducible apply below_drewN | (with_reducible refine Below.alloc ?_ (by first | omega | (simp <;> omega)) _) | (with_reducible refine Below.setCell ?_ (by first | omega | (simp <;> omega)) _)))⟩
end Go.Proofs.Ythccdooacbablab

/-
  Chapter 4: MultiplierAt of the model.
-/
import Derived.Test.YthccdooacbablaaOy
namespace Go.Proofs.Ythccdooacbablaa
open Go.RowKit Rm

set_option maxRecDepth 100000 in
set_option maxHeartbeats 6400000 in
theorem sMultiplierAt_any (A : Option Addr) (n c base : Nat) (ps : List Pt) (a b m : Int) (w : World) (ha : w.ownsRow base 62 4 (.slice A n c) n (ptcs ps)) (hn : n ≤ 1048576) :
    Calls Try.prog 64 #[.slice A n c, .agg #[.int .i64 (a), .int .i64 (b)], .int .i64 m] w fun e w' => e = .returned (.tuple #[.agg #[.int .i64 (oN (mlO ps a b m)), .int .i64 (oD (mlO ps a b m))], .bool (mlO ps a b m).isSome]) ∧ Below w.heap.size w w' := by
  rcases s_cyc (a := a) (b := b) (m := m) ha hn with ⟨ho, hask⟩ | ⟨ho, hask, hcy⟩ | ⟨qs, cy, P, rfl, ho, hC, hask, hcy⟩
  · rw [mlO_no ho]
    simp only [oN_none, oD_none, Option.isSome_none]
    have HI := hide hask; have HA := hide ha
    clear hask ha ho
    go_enter Try.func64, Try.ntmps64
    go_wp2_with (go_at_call 107; (with_reducible refine ((unhide HI) _ (own_below (unhide HA) ?pb)).mono ?_); (case pb => exact (by repeat (first | with_reducible exact Below.refl _ _ | with_reducible assumption | (with_reducible refine Below.trans ?_ (Below.mono (by assumption) (by first | omega | (simp <;> omega)))) | with_reducible apply Below.drew | with_reducible apply below_drewN | (with_reducible refine Below.alloc ?_ (by first | omega | (simp <;> omega)) _) | (with_reducible refine Below.setCell ?_ (by first | omega | (simp <;> omega)) _)))); rintro e w1 ⟨rfl, hbw1⟩; have hs1 := hbw1.size; (skip; (try ((have kw1w0 := (bnew hbw1) (w.heap.size) ?pf); (case pf => (first | omega | (simp; done) | (simp; omega))); obtain ⟨kcw1w0, kfw1w0, klw1w0⟩ := kw1w0)); (try ((have kw1w1 := (bnew hbw1) (w.heap.size + 1) ?pf); (case pf => (first | omega | (simp; done) | (simp; omega))); obtain ⟨kcw1w1, kfw1w1, klw1w1⟩ := kw1w1))))
    exact bodyPost_ret (v := .tuple #[.agg #[.int .i64 (0), .int .i64 (0)], .bool false]) (by simp [results, Try.results64, go_sem, *]) rfl ⟨rfl, (by repeat (first | with_reducible exact Below.refl _ _ | with_reducible assumption | (with_reducible refine Below.trans ?_ (Below.mono (by assumption) (by first | omega | (simp <;> omega)))) | with_reducible apply Below.drew | with_reducible apply below_drewN | (with_reducible refine Below.alloc ?_ (by first | omega | (simp <;> omega)) _) | (with_reducible refine Below.setCell ?_ (by first | omega | (simp <;> omega)) _)))⟩
  · rw [mlO_no ho]
    simp only [oN_none, oD_none, Option.isSome_none]
    have HI := hide hask; have HA := hide ha; have HY := hide hcy
    clear hask ha ho hcy
    go_enter Try.func64, Try.ntmps64
    go_wp2_with (first
      | (go_at_call 107; (with_reducible refine ((unhide HI) _ (own_below (unhide HA) ?pb)).mono ?_); (case pb => exact (by repeat (first | with_reducible exact Below.refl _ _ | with_reducible assumption | (with_reducible refine Below.trans ?_ (Below.mono (by assumption) (by first | omega | (simp <;> omega)))) | with_reducible apply Below.drew | with_reducible apply below_drewN | (with_reducible refine Below.alloc ?_ (by first | omega | (simp <;> omega)) _) | (with_reducible refine Below.setCell ?_ (by first | omega | (simp <;> omega)) _)))); rintro e w1 ⟨rfl, hbw1⟩; have hs1 := hbw1.size; (skip; (try ((have kw1w0 := (bnew hbw1) (w.heap.size) ?pf); (case pf => (first | omega | (simp; done) | (simp; omega))); obtain ⟨kcw1w0, kfw1w0, klw1w0⟩ := kw1w0)); (try ((have kw1w1 := (bnew hbw1) (w.heap.size + 1) ?pf); (case pf => (first | omega | (simp; done) | (simp; omega))); obtain ⟨kcw1w1, kfw1w1, klw1w1⟩ := kw1w1))))
      | (go_at_call 108; (with_reducible refine ((unhide HY) _ (own_below (unhide HA) ?pb)).mono ?_); (case pb => exact (by repeat (first | with_reducible exact Below.refl _ _ | with_reducible assumption | (with_reducible refine Below.trans ?_ (Below.mono (by assumption) (by first | omega | (simp <;> omega)))) | with_reducible apply Below.drew | with_reducible apply below_drewN | (with_reducible refine Below.alloc ?_ (by first | omega | (simp <;> omega)) _) | (with_reducible refine Below.setCell ?_ (by first | omega | (simp <;> omega)) _)))); rintro e w2 ⟨rfl, hbw2⟩; have hs2 := hbw2.size; (skip; (try ((have kw2w0 := (bnew hbw2) (w.heap.size) ?pf); (case pf => (first | omega | (simp; done) | (simp; omega))); obtain ⟨kcw2w0, kfw2w0, klw2w0⟩ := kw2w0)); (try ((have kw2w1 := (bnew hbw2) (w.heap.size + 1) ?pf); (case pf => (first | omega | (simp; done) | (simp; omega))); obtain ⟨kcw2w1, kfw2w1, klw2w1⟩ := kw2w1)))))
    exact bodyPost_ret (v := .tuple #[.agg #[.int .i64 (0), .int .i64 (0)], .bool false]) (by simp [results, Try.results64, go_sem, *]) rfl ⟨rfl, (by repeat (first | with_reducible exact Below.refl _ _ | with_reducible assumption | (with_reducible refine Below.trans ?_ (Below.mono (by assumption) (by first | omega | (simp <;> omega)))) | with_reducible apply Below.drew | with_reducible apply below_drewN | (with_reducible refine Below.alloc ?_ (by first | omega | (simp <;> omega)) _) | (with_reducible refine Below.setCell ?_ (by first | omega | (simp <;> omega)) _)))⟩
  · rw [mlO_some ho, hC.len]
    obtain ⟨g, hA⟩ := own_form0 ha (by have := hC.map.lo; have := own_len ha; rw [List.length_map] at this; omega)
    subst hA
    have hgl := (ha.lt g rfl).2
    have HG := Lib.hid hC.map; have HU := hide hC.all
    have hPlo := hC.lo; have hPhi := hC.hi
    have HI := hide hask; have HA := hide ha; have HY := hide hcy
    clear hask ha ho hC hcy
    go_enter Try.func64, Try.ntmps64
    go_wp2_with (first
      | (go_at_call 107; (with_reducible refine ((unhide HI) _ (own_below (unhide HA) ?pb)).mono ?_); (case pb => exact (by repeat (first | with_reducible exact Below.refl _ _ | with_reducible assumption | (with_reducible refine Below.trans ?_ (Below.mono (by assumption) (by first | omega | (simp <;> omega)))) | with_reducible apply Below.drew | with_reducible apply below_drewN | (with_reducible refine Below.alloc ?_ (by first | omega | (simp <;> omega)) _) | (with_reducible refine Below.setCell ?_ (by first | omega | (simp <;> omega)) _)))); rintro e w1 ⟨rfl, hbw1⟩; have hs1 := hbw1.size; (skip; (try ((have kw1w0 := (bnew hbw1) (w.heap.size) ?pf); (case pf => (first | omega | (simp; done) | (simp; omega))); obtain ⟨kcw1w0, kfw1w0, klw1w0⟩ := kw1w0)); (try ((have kw1w1 := (bnew hbw1) (w.heap.size + 1) ?pf); (case pf => (first | omega | (simp; done) | (simp; omega))); obtain ⟨kcw1w1, kfw1w1, klw1w1⟩ := kw1w1))))
      | (go_at_call 108; (with_reducible refine ((unhide HY) _ (own_below (unhide HA) ?pb)).mono ?_); (case pb => exact (by repeat (first | with_reducible exact Below.refl _ _ | with_reducible assumption | (with_reducible refine Below.trans ?_ (Below.mono (by assumption) (by first | omega | (simp <;> omega)))) | with_reducible apply Below.drew | with_reducible apply below_drewN | (with_reducible refine Below.alloc ?_ (by first | omega | (simp <;> omega)) _) | (with_reducible refine Below.setCell ?_ (by first | omega | (simp <;> omega)) _)))); rintro e w2 ⟨gs, d, rfl, hgs0, hrc, hbw2⟩; have hs2 := hbw2.size; (skip; (try ((have kw2w0 := (bnew hbw2) (w.heap.size) ?pf); (case pf => (first | omega | (simp; done) | (simp; omega))); obtain ⟨kcw2w0, kfw2w0, klw2w0⟩ := kw2w0)); (try ((have kw2w1 := (bnew hbw2) (w.heap.size + 1) ?pf); (case pf => (first | omega | (simp; done) | (simp; omega))); obtain ⟨kcw2w1, kfw2w1, klw2w1⟩ := kw2w1))); have HRC := hide hrc; clear hrc)
      | (go_at_call 83; (with_reducible refine (raInt_any 1 _).mono ?_); rintro e w3 ⟨rfl, hbw3⟩; have hs3 := hbw3.size; (skip; (try ((have kw3w0 := (bnew hbw3) (w.heap.size) ?pf); (case pf => (first | omega | (simp; done) | (simp; omega))); obtain ⟨kcw3w0, kfw3w0, klw3w0⟩ := kw3w0)); (try ((have kw3w1 := (bnew hbw3) (w.heap.size + 1) ?pf); (case pf => (first | omega | (simp; done) | (simp; omega))); obtain ⟨kcw3w1, kfw3w1, klw3w1⟩ := kw3w1))); replace HRC := hide ((unhide HRC).below hbw3)))
    have hsq : w.heap.size + 1 < w3.heap.size := klw3w1
    have r0 : w3.cell? ⟨w.heap.size + 1, 0, none⟩ = some (.int .i64 0) := by rw [kcw3w1, kcw2w1, kcw1w1]; simp [go_sem]
    have r1 : w3.cell? ⟨w.heap.size + 1, 1, none⟩ = some (.int .i64 0) := by rw [kcw3w1, kcw2w1, kcw1w1]; simp [go_sem]
    have rf : ∀ o, w3.frozen? ⟨w.heap.size + 1, o, none⟩ = false := fun o => by rw [kfw3w1, kfw2w1, kfw1w1]; simp [go_sem]
    have hb0 : Below w.heap.size w (w3.alloc (.cells #[.int .i64 1, .int .i64 1] 26)) := (by repeat (first | with_reducible exact Below.refl _ _ | with_reducible assumption | (with_reducible refine Below.trans ?_ (Below.mono (by assumption) (by first | omega | (simp <;> omega)))) | with_reducible apply Below.drew | with_reducible apply below_drewN | (with_reducible refine Below.alloc ?_ (by first | omega | (simp <;> omega)) _) | (with_reducible refine Below.setCell ?_ (by first | omega | (simp <;> omega)) _)))
    have hbA : Below w3.heap.size w3 (w3.alloc (.cells #[.int .i64 1, .int .i64 1] 26)) := (by repeat (first | with_reducible exact Below.refl _ _ | with_reducible assumption | (with_reducible refine Below.trans ?_ (Below.mono (by assumption) (by first | omega | (simp <;> omega)))) | with_reducible apply Below.drew | with_reducible apply below_drewN | (with_reducible refine Below.alloc ?_ (by first | omega | (simp <;> omega)) _) | (with_reducible refine Below.setCell ?_ (by first | omega | (simp <;> omega)) _)))
    have m0 : (w3.alloc (.cells #[.int .i64 1, .int .i64 1] 26)).cell? ⟨w3.heap.size, 0, none⟩ = some (.int .i64 (1 : Rat).num) := by simp [go_sem]
    have m1 : (w3.alloc (.cells #[.int .i64 1, .int .i64 1] 26)).cell? ⟨w3.heap.size, 1, none⟩ = some (.int .i64 ((1 : Rat).den : Int)) := by simp [go_sem]
    have mf : ∀ o, (w3.alloc (.cells #[.int .i64 1, .int .i64 1] 26)).frozen? ⟨w3.heap.size, o, none⟩ = false := by intro o; simp [go_sem]
    have hMq : w3.heap.size < (w3.alloc (.cells #[.int .i64 1, .int .i64 1] 26)).heap.size := by simp
    have hgM := (unhide HRC).lt
    have HC := hide ((unhide HRC).below hbA)
    have HAq := hide (own_below (unhide HA) hb0)
    replace r0 := (hbA.cell (p := ⟨w.heap.size + 1, 0, none⟩) hsq).trans r0
    replace r1 := (hbA.cell (p := ⟨w.heap.size + 1, 1, none⟩) hsq).trans r1
    replace rf := fun o => (hbA.frozen (p := ⟨w.heap.size + 1, o, none⟩) hsq).trans (rf o)
    have HBQ := hide hb0
    have hwW : w.heap.size ≤ w3.heap.size := by omega
    clear hb0 hbA hbw1 hbw2 hbw3 kcw1w0 kcw1w1 kcw2w0 kcw2w1 kcw3w0 kcw3w1 kfw1w0 kfw1w1 kfw2w0 kfw2w1 kfw3w0 kfw3w1 klw1w0 klw1w1 klw2w0 klw2w1 klw3w0 klw3w1 HRC
    generalize w3.alloc (.cells #[.int .i64 1, .int .i64 1] 26) = wq at *
    generalize w3.heap.size = M at *
    have hRq : w.heap.size + 1 < wq.heap.size := by omega
    go_loopw [36] (fun i wr => ∃ (j : Nat) (cur : Rat), i = .int .i64 j ∧ j ≤ P ∧ Hid (mlK qs cy j = some cur) ∧ wr.cell? ⟨M, 0, none⟩ = some (.int .i64 cur.num) ∧ wr.cell? ⟨M, 1, none⟩ = some (.int .i64 cur.den) ∧ (∀ o, wr.frozen? ⟨M, o, none⟩ = false) ∧ wq.grownBy wr (some M)) (fun i _ => P - (intOf i).toNat)
    case atStart => exact ⟨0, 1, rfl, by omega, hide rfl, m0, m1, mf, World.grownBy.refl _ _⟩
    case round =>
      obtain ⟨j, cur, rfl, hj, HP, c0, c1, cf, hgr⟩ := hrel
      have hsr := hgr.size
      have hMr : M < wr.heap.size := by omega
      have hRr : w.heap.size + 1 < wr.heap.size := by omega
      have q0 := (World.cell?_of_block (a := ⟨w.heap.size + 1, 0, none⟩) (hgr.block (w.heap.size + 1) hRq (fun e => by have := Option.some.inj e; omega))).trans r0
      have q1 := (World.cell?_of_block (a := ⟨w.heap.size + 1, 1, none⟩) (hgr.block (w.heap.size + 1) hRq (fun e => by have := Option.some.inj e; omega))).trans r1
      have qz := fun o => (World.frozen?_of_block (a := ⟨w.heap.size + 1, o, none⟩) (hgr.block (w.heap.size + 1) hRq (fun e => by have := Option.some.inj e; omega))).trans (rf o)
      have hb := (unhide HBQ).grown hgr (by omega) (fun i e => by have := Option.some.inj e; omega)
      by_cases hlt : j < P
      · have hC := (unhide HC).kept hgr (by omega)
        have y0 := hC.at0 j hlt
        have y1 := hC.at1 j hlt
        have hgs := hC.lt
        have hown := own_kept (unhide HAq) hgr (fun i hi e => by
          have h1 : g = i := Option.some.inj hi
          have h2 : i = M := Option.some.inj e
          omega)
        have HAr := hide hown
        have hyu := (unhide HU) j hlt
        have hap := fun W hW => orSlope_q g n c base qs (cy.getD j 0) W hW HG.out hyu
        have hcurf := mlK_fits (unhide HP)
        have HB := hide hb
        have HGR := hide hgr
        clear hC hb hgr hown m0 m1 r0 r1
        rcases hs : slAt qs (cy.getD j 0) with _ | s
        · have hno := mlK_up (mlK_none1 (unhide HP) hs) P (by omega)
          have HNO := Lib.hid hno
          rw [hs] at hap
          simp only [oN_none, oD_none, Option.isSome_none] at hap
          have HAP := hide hap
          clear hap hs hno hcurf hyu
          generalize (cy.getD j 0).num = a1 at *
          generalize ((cy.getD j 0).den : Int) = a2 at *
          generalize cur.num = u1 at *
          generalize (cur.den : Int) = u2 at *
          go_wp2_with ((go_at_call 109; (with_reducible refine ((unhide HAP) _ (own_below (unhide HAr) ?pb)).mono ?_); (case pb => exact (by repeat (first | with_reducible exact Below.refl _ _ | with_reducible assumption | (with_reducible refine Below.trans ?_ (Below.mono (by assumption) (by first | omega | (simp <;> omega)))) | with_reducible apply Below.drew | with_reducible apply below_drewN | (with_reducible refine Below.alloc ?_ (by first | omega | (simp <;> omega)) _) | (with_reducible refine Below.setCell ?_ (by first | omega | (simp <;> omega)) _)))); rintro e w5 ⟨rfl, hbw5⟩; have hs5 := hbw5.size; (try simp at hs5); have p0 : w5.cell? ⟨w.heap.size + 1, 0, none⟩ = some (.int .i64 0) := (hbw5.cell (p := ⟨w.heap.size + 1, 0, none⟩) (by simp; omega)).trans (by simp [go_sem, *]); have p1 : w5.cell? ⟨w.heap.size + 1, 1, none⟩ = some (.int .i64 0) := (hbw5.cell (p := ⟨w.heap.size + 1, 1, none⟩) (by simp; omega)).trans (by simp [go_sem, *]); have pz : ∀ o, w5.frozen? ⟨w.heap.size + 1, o, none⟩ = false := (fun o => (hbw5.frozen (p := ⟨w.heap.size + 1, o, none⟩) (by simp; omega)).trans (by simp [go_sem, *])); have n0 : w5.cell? ⟨M, 0, none⟩ = some (.int .i64 u1) := (hbw5.cell (p := ⟨M, 0, none⟩) (by simp; omega)).trans (by simp [go_sem, *]); have n1 : w5.cell? ⟨M, 1, none⟩ = some (.int .i64 u2) := (hbw5.cell (p := ⟨M, 1, none⟩) (by simp; omega)).trans (by simp [go_sem, *]); have nf : ∀ o, w5.frozen? ⟨M, o, none⟩ = false := (fun o => (hbw5.frozen (p := ⟨M, o, none⟩) (by simp; omega)).trans (by simp [go_sem, *])); have hR5 : w.heap.size + 1 < w5.heap.size := (by omega); have hM5 : M < w5.heap.size := (by omega); clear q0 q1 qz c0 c1 cf))
          have hb := unhide HB
          exact bodyPost_ret (v := .tuple #[.agg #[.int .i64 (0), .int .i64 (0)], .bool false]) (by simp [results, Try.results64, go_sem, *]) rfl ⟨by rw [HNO.out]; rfl, (by repeat (first | with_reducible exact Below.refl _ _ | with_reducible assumption | (with_reducible refine Below.trans ?_ (Below.mono (by assumption) (by first | omega | (simp <;> omega)))) | with_reducible apply Below.drew | with_reducible apply below_drewN | (with_reducible refine Below.alloc ?_ (by first | omega | (simp <;> omega)) _) | (with_reducible refine Below.setCell ?_ (by first | omega | (simp <;> omega)) _)))⟩
        · have hsf := slAt_fits HG.out hyu hs
          rw [hs] at hap
          simp only [oN_some, oD_some, Option.isSome_some] at hap
          have HAP := hide hap
          have hmu := fun W => raMul_o (some cur) (some s) (isR_some hcurf) (isR_some hsf) W
          have hom : omul (some cur) (some s) = keep (cur * s) := rfl
          rw [hom] at hmu
          simp only [oN_some, oD_some] at hmu
          rcases hd : keep (cur * s) with _ | d
          · have hno := mlK_up (mlK_none2 (unhide HP) hs hd) P (by omega)
            have HNO := Lib.hid hno
            rw [hd] at hmu
            simp only [oN_none, oD_none, Option.isSome_none] at hmu
            have HMU := hide hmu
            clear hap hs hno hcurf hyu hmu hom hd hsf
            generalize (cy.getD j 0).num = a1 at *
            generalize ((cy.getD j 0).den : Int) = a2 at *
            generalize cur.num = u1 at *
            generalize (cur.den : Int) = u2 at *
            generalize s.num = s1 at *
            generalize (s.den : Int) = s2 at *
            go_wp2_with (first
              | (go_at_call 109; (with_reducible refine ((unhide HAP) _ (own_below (unhide HAr) ?pb)).mono ?_); (case pb => exact (by repeat (first | with_reducible exact Below.refl _ _ | with_reducible assumption | (with_reducible refine Below.trans ?_ (Below.mono (by assumption) (by first | omega | (simp <;> omega)))) | with_reducible apply Below.drew | with_reducible apply below_drewN | (with_reducible refine Below.alloc ?_ (by first | omega | (simp <;> omega)) _) | (with_reducible refine Below.setCell ?_ (by first | omega | (simp <;> omega)) _)))); rintro e w5 ⟨rfl, hbw5⟩; have hs5 := hbw5.size; (try simp at hs5); have p0 : w5.cell? ⟨w.heap.size + 1, 0, none⟩ = some (.int .i64 0) := (hbw5.cell (p := ⟨w.heap.size + 1, 0, none⟩) (by simp; omega)).trans (by simp [go_sem, *]); have p1 : w5.cell? ⟨w.heap.size + 1, 1, none⟩ = some (.int .i64 0) := (hbw5.cell (p := ⟨w.heap.size + 1, 1, none⟩) (by simp; omega)).trans (by simp [go_sem, *]); have pz : ∀ o, w5.frozen? ⟨w.heap.size + 1, o, none⟩ = false := (fun o => (hbw5.frozen (p := ⟨w.heap.size + 1, o, none⟩) (by simp; omega)).trans (by simp [go_sem, *])); have n0 : w5.cell? ⟨M, 0, none⟩ = some (.int .i64 u1) := (hbw5.cell (p := ⟨M, 0, none⟩) (by simp; omega)).trans (by simp [go_sem, *]); have n1 : w5.cell? ⟨M, 1, none⟩ = some (.int .i64 u2) := (hbw5.cell (p := ⟨M, 1, none⟩) (by simp; omega)).trans (by simp [go_sem, *]); have nf : ∀ o, w5.frozen? ⟨M, o, none⟩ = false := (fun o => (hbw5.frozen (p := ⟨M, o, none⟩) (by simp; omega)).trans (by simp [go_sem, *])); have hR5 : w.heap.size + 1 < w5.heap.size := (by omega); have hM5 : M < w5.heap.size := (by omega); clear q0 q1 qz c0 c1 cf)
              | (go_at_call 85; (with_reducible refine ((unhide HMU) _).mono ?_); rintro e w6 ⟨rfl, hbw6⟩; have hs6 := hbw6.size; (try simp at hs6); have q0 : w6.cell? ⟨w.heap.size + 1, 0, none⟩ = some (.int .i64 0) := (hbw6.cell (p := ⟨w.heap.size + 1, 0, none⟩) (by simp; omega)).trans (by simp [go_sem, *]); have q1 : w6.cell? ⟨w.heap.size + 1, 1, none⟩ = some (.int .i64 0) := (hbw6.cell (p := ⟨w.heap.size + 1, 1, none⟩) (by simp; omega)).trans (by simp [go_sem, *]); have qz : ∀ o, w6.frozen? ⟨w.heap.size + 1, o, none⟩ = false := (fun o => (hbw6.frozen (p := ⟨w.heap.size + 1, o, none⟩) (by simp; omega)).trans (by simp [go_sem, *])); have n0x : w6.cell? ⟨M, 0, none⟩ = some (.int .i64 u1) := (hbw6.cell (p := ⟨M, 0, none⟩) (by simp; omega)).trans (by simp [go_sem, *]); have n1x : w6.cell? ⟨M, 1, none⟩ = some (.int .i64 u2) := (hbw6.cell (p := ⟨M, 1, none⟩) (by simp; omega)).trans (by simp [go_sem, *]); have nfx : ∀ o, w6.frozen? ⟨M, o, none⟩ = false := (fun o => (hbw6.frozen (p := ⟨M, o, none⟩) (by simp; omega)).trans (by simp [go_sem, *])); have hR6 : w.heap.size + 1 < w6.heap.size := (by omega); have hM6 : M < w6.heap.size := (by omega); clear p0 p1 pz n0 n1 nf))
            have hb := unhide HB
            exact bodyPost_ret (v := .tuple #[.agg #[.int .i64 (0), .int .i64 (0)], .bool false]) (by simp [results, Try.results64, go_sem, *]) rfl ⟨by rw [HNO.out]; rfl, (by repeat (first | with_reducible exact Below.refl _ _ | with_reducible assumption | (with_reducible refine Below.trans ?_ (Below.mono (by assumption) (by first | omega | (simp <;> omega)))) | with_reducible apply Below.drew | with_reducible apply below_drewN | (with_reducible refine Below.alloc ?_ (by first | omega | (simp <;> omega)) _) | (with_reducible refine Below.setCell ?_ (by first | omega | (simp <;> omega)) _)))⟩
          · have hst := mlK_step (unhide HP) hs hd
            have HST := hide hst
            rw [hd] at hmu
            simp only [oN_some, oD_some, Option.isSome_some] at hmu
            have HMU := hide hmu
            clear hap hs hcurf hyu hmu hom hd hsf hst
            obtain ⟨dn, hdn⟩ : ∃ r, r = d.num := ⟨_, rfl⟩
            obtain ⟨dd, hdd⟩ : ∃ r, r = (d.den : Int) := ⟨_, rfl⟩
            rw [← hdn, ← hdd] at HMU
            have HDV := Lib.hid (And.intro hdn hdd)
            clear hdn hdd
            generalize (cy.getD j 0).num = a1 at *
            generalize ((cy.getD j 0).den : Int) = a2 at *
            generalize cur.num = u1 at *
            generalize (cur.den : Int) = u2 at *
            generalize s.num = s1 at *
            generalize (s.den : Int) = s2 at *
            go_wp2_with (first
              | (go_at_call 109; (with_reducible refine ((unhide HAP) _ (own_below (unhide HAr) ?pb)).mono ?_); (case pb => exact (by repeat (first | with_reducible exact Below.refl _ _ | with_reducible assumption | (with_reducible refine Below.trans ?_ (Below.mono (by assumption) (by first | omega | (simp <;> omega)))) | with_reducible apply Below.drew | with_reducible apply below_drewN | (with_reducible refine Below.alloc ?_ (by first | omega | (simp <;> omega)) _) | (with_reducible refine Below.setCell ?_ (by first | omega | (simp <;> omega)) _)))); rintro e w5 ⟨rfl, hbw5⟩; have hs5 := hbw5.size; (try simp at hs5); have p0 : w5.cell? ⟨w.heap.size + 1, 0, none⟩ = some (.int .i64 0) := (hbw5.cell (p := ⟨w.heap.size + 1, 0, none⟩) (by simp; omega)).trans (by simp [go_sem, *]); have p1 : w5.cell? ⟨w.heap.size + 1, 1, none⟩ = some (.int .i64 0) := (hbw5.cell (p := ⟨w.heap.size + 1, 1, none⟩) (by simp; omega)).trans (by simp [go_sem, *]); have pz : ∀ o, w5.frozen? ⟨w.heap.size + 1, o, none⟩ = false := (fun o => (hbw5.frozen (p := ⟨w.heap.size + 1, o, none⟩) (by simp; omega)).trans (by simp [go_sem, *])); have n0 : w5.cell? ⟨M, 0, none⟩ = some (.int .i64 u1) := (hbw5.cell (p := ⟨M, 0, none⟩) (by simp; omega)).trans (by simp [go_sem, *]); have n1 : w5.cell? ⟨M, 1, none⟩ = some (.int .i64 u2) := (hbw5.cell (p := ⟨M, 1, none⟩) (by simp; omega)).trans (by simp [go_sem, *]); have nf : ∀ o, w5.frozen? ⟨M, o, none⟩ = false := (fun o => (hbw5.frozen (p := ⟨M, o, none⟩) (by simp; omega)).trans (by simp [go_sem, *])); have hR5 : w.heap.size + 1 < w5.heap.size := (by omega); have hM5 : M < w5.heap.size := (by omega); clear q0 q1 qz c0 c1 cf)
              | (go_at_call 85; (with_reducible refine ((unhide HMU) _).mono ?_); rintro e w6 ⟨rfl, hbw6⟩; have hs6 := hbw6.size; (try simp at hs6); have q0 : w6.cell? ⟨w.heap.size + 1, 0, none⟩ = some (.int .i64 0) := (hbw6.cell (p := ⟨w.heap.size + 1, 0, none⟩) (by simp; omega)).trans (by simp [go_sem, *]); have q1 : w6.cell? ⟨w.heap.size + 1, 1, none⟩ = some (.int .i64 0) := (hbw6.cell (p := ⟨w.heap.size + 1, 1, none⟩) (by simp; omega)).trans (by simp [go_sem, *]); have qz : ∀ o, w6.frozen? ⟨w.heap.size + 1, o, none⟩ = false := (fun o => (hbw6.frozen (p := ⟨w.heap.size + 1, o, none⟩) (by simp; omega)).trans (by simp [go_sem, *])); have n0x : w6.cell? ⟨M, 0, none⟩ = some (.int .i64 u1) := (hbw6.cell (p := ⟨M, 0, none⟩) (by simp; omega)).trans (by simp [go_sem, *]); have n1x : w6.cell? ⟨M, 1, none⟩ = some (.int .i64 u2) := (hbw6.cell (p := ⟨M, 1, none⟩) (by simp; omega)).trans (by simp [go_sem, *]); have nfx : ∀ o, w6.frozen? ⟨M, o, none⟩ = false := (fun o => (hbw6.frozen (p := ⟨M, o, none⟩) (by simp; omega)).trans (by simp [go_sem, *])); have hR6 : w.heap.size + 1 < w6.heap.size := (by omega); have hM6 : M < w6.heap.size := (by omega); clear p0 p1 pz n0 n1 nf))
            have hbl : Below wr.heap.size wr w6 := (by repeat (first | with_reducible exact Below.refl _ _ | with_reducible assumption | (with_reducible refine Below.trans ?_ (Below.mono (by assumption) (by first | omega | (simp <;> omega)))) | with_reducible apply Below.drew | with_reducible apply below_drewN | (with_reducible refine Below.alloc ?_ (by first | omega | (simp <;> omega)) _) | (with_reducible refine Below.setCell ?_ (by first | omega | (simp <;> omega)) _)))
            have HGD0 := hide (grown_set (grown_set (grown_on (unhide HGR) hbl) 0 (.int .i64 dn)) 1 (.int .i64 dd))
            have HGD := hide (grown_on (unhide HGD0) ((Below.refl _ _).alloc (Nat.le_refl _) (.cells #[.int .i64 dn, .int .i64 dd] 26)))
            go_roundw
            case rel => exact ⟨j + 1, d, by go_num, by omega, HST, by rw [← HDV.out.1]; simp [go_sem, *], by rw [← HDV.out.2]; simp [go_sem, *], fun o => by simp [go_sem, *], unhide HGD⟩
            case measure => simp [intOf]; omega
      · obtain rfl : j = P := by omega
        have HB := hide hb
        have hbz := hb.size
        have HPR := Lib.hid (unhide HP)
        clear hb hgr cf m0 m1 r0 r1 rf HP
        generalize hcn : cur.num = u1 at *
        generalize hcd : (cur.den : Int) = u2 at *
        have HCN := Lib.hid (And.intro hcn hcd)
        clear hcn hcd
        go_wp2_with fail
        have hb := unhide HB
        exact bodyPost_ret (v := .tuple #[.agg #[.int .i64 (u1), .int .i64 (u2)], .bool true]) (by simp [results, Try.results64, go_sem, *]) rfl ⟨by rw [HPR.out, ← HCN.out.1, ← HCN.out.2]; rfl, (by repeat (first | with_reducible exact Below.refl _ _ | with_reducible assumption | (with_reducible refine Below.trans ?_ (Below.mono (by assumption) (by first | omega | (simp <;> omega)))) | with_reducible apply Below.drew | with_reducible apply below_drewN | (with_reducible refine Below.alloc ?_ (by first | omega | (simp <;> omega)) _) | (with_reducible refine Below.setCell ?_ (by first | omega | (simp <;> omega)) _)))⟩
end Go.Proofs.Ythccdooacbablaa

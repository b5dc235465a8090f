/-
  Chapter 4: MultiplierAt of both.
-/
import Derived.Test.YthccdooacbablaaOx
import Derived.Test.YthccdooacbablaaOg
import Derived.Test.YthccdooacbablaaOw
namespace Go.Proofs.Ythccdooacbablaa
open Go.RowKit Rm

/-- The product of the slopes at the first k fractions. -/
def mlK (qs : List QP) (cy : List Rat) : Nat → Option Rat
  | 0 => some 1
  | k + 1 => (mlK qs cy k).bind fun c => (slAt qs (cy.getD k 0)).bind fun s => keep (c * s)
theorem mlK_none1 {qs : List QP} {cy : List Rat} {k : Nat} {c : Rat} (h : mlK qs cy k = some c) (h2 : slAt qs (cy.getD k 0) = none) : mlK qs cy (k + 1) = none := by
  simp only [mlK, h, h2]; rfl
theorem mlK_none2 {qs : List QP} {cy : List Rat} {k : Nat} {c s : Rat} (h : mlK qs cy k = some c) (h2 : slAt qs (cy.getD k 0) = some s) (h3 : keep (c * s) = none) : mlK qs cy (k + 1) = none := by
  simp only [mlK, h, h2]; exact h3
theorem mlK_step {qs : List QP} {cy : List Rat} {k : Nat} {c s d : Rat} (h : mlK qs cy k = some c) (h2 : slAt qs (cy.getD k 0) = some s) (h3 : keep (c * s) = some d) : mlK qs cy (k + 1) = some d := by
  simp only [mlK, h, h2]; exact h3
theorem mlK_up {qs : List QP} {cy : List Rat} {k : Nat} (h : mlK qs cy k = none) : ∀ m, k ≤ m → mlK qs cy m = none
  | 0, hm => by rw [show (0 : Nat) = k by omega]; exact h
  | m + 1, hm => by
    rcases Nat.lt_or_eq_of_le hm with h1 | h1
    · have := mlK_up h m (by omega)
      simp only [mlK, this]; rfl
    · rw [← h1]; exact h
theorem mlK_fits {qs : List QP} {cy : List Rat} : ∀ {k : Nat} {c : Rat}, mlK qs cy k = some c → fits c = true
  | 0, c, h => by
    have h' : (1 : Rat) = c := Option.some.inj h
    rw [← h']; rfl
  | k + 1, c, h => by
    cases h1 : mlK qs cy k with
    | none => rw [mlK_up h1 (k + 1) (by omega)] at h; cases h
    | some c' =>
      cases h2 : slAt qs (cy.getD k 0) with
      | none => rw [mlK_none1 h1 h2] at h; cases h
      | some s =>
        cases h3 : keep (c' * s) with
        | none => rw [mlK_none2 h1 h2 h3] at h; cases h
        | some d =>
          rw [mlK_step h1 h2 h3] at h
          rw [← Option.some.inj h]
          obtain ⟨e, hf⟩ := keep_some h3
          rw [e]; exact hf
theorem slAt_fits {qs : List QP} (hg : GMap qs) {x s : Rat} (hx : Un x) (h : slAt qs x = some s) : fits s = true := by
  obtain ⟨i, hp⟩ := piece_ex hg hx.hi
  rw [slAt_eq hp.len hp.up hp.at_] at h
  have hl := hp.len
  split at h
  · cases h
  · rw [← Option.some.inj h]
    exact slope_fits (hg.cx i (by omega)) (hg.cy i (by omega)) (hg.cx _ hl) (hg.cy _ hl) (hg.inc i hl)
def mlO (ps : List Pt) (a b m : Int) : Option Rat := (cyO ps a b m).bind fun cy => mlK (dec ps) cy cy.length
theorem mlO_no {ps : List Pt} {a b m : Int} (h : cyO ps a b m = none) : mlO ps a b m = none := by unfold mlO; rw [h]; rfl
theorem mlO_some {qs : List QP} {a b m : Int} {cy : List Rat} (h : cyO (qs.map qp) a b m = some cy) : mlO (qs.map qp) a b m = mlK qs cy cy.length := by
  unfold mlO; rw [h, dec_qp]; rfl

set_option maxRecDepth 100000 in
set_option maxHeartbeats 6400000 in
theorem iMultiplierAt_any (A : Option Addr) (n c base : Nat) (ps : List Pt) (a b m : Int) (w : World) (ha : w.ownsRow base 62 4 (.slice A n c) n (ptcs ps)) (hn : n ≤ 1048576) :
    Calls Try.prog 66 #[.slice A n c, .agg #[.int .i64 (a), .int .i64 (b)], .int .i64 m] w fun e w' => e = .returned (.tuple #[.agg #[.int .i64 (oN (mlO ps a b m)), .int .i64 (oD (mlO ps a b m))], .bool (mlO ps a b m).isSome]) ∧ Below w.heap.size w w' := by
  rcases i_cyc A n c base ps a b m hn with ⟨ho, hno⟩ | ⟨qs, cy, P, rfl, ho, hC, hrun⟩
  · rw [mlO_no ho]
    simp only [oN_none, oD_none, Option.isSome_none]
    have HI := hide hno; have HA := hide ha
    clear hno ha ho
    go_enter Try.func66, Try.ntmps66
    go_wp2_with (go_at_call 111; (with_reducible refine ((unhide HI) _ (own_below (unhide HA) ?pb)).mono ?_); (case pb => exact (by repeat (first | with_reducible exact Below.refl _ _ | with_reducible assumption | (with_reducible refine Below.trans ?_ (Below.mono (by assumption) (by first | omega | (simp <;> omega)))) | with_reducible apply Below.drew | with_reducible apply below_drewN | (with_reducible refine Below.alloc ?_ (by first | omega | (simp <;> omega)) _) | (with_reducible refine Below.setCell ?_ (by first | omega | (simp <;> omega)) _)))); rintro e w1 ⟨rfl, hbw1⟩; have hs1 := hbw1.size; (skip; (try ((have kw1w0 := (bnew hbw1) (w.heap.size) ?pf); (case pf => (first | omega | (simp; done) | (simp; omega))); obtain ⟨kcw1w0, kfw1w0, klw1w0⟩ := kw1w0)); (try ((have kw1w1 := (bnew hbw1) (w.heap.size + 1) ?pf); (case pf => (first | omega | (simp; done) | (simp; omega))); obtain ⟨kcw1w1, kfw1w1, klw1w1⟩ := kw1w1))))
    exact bodyPost_ret (v := .tuple #[.agg #[.int .i64 (0), .int .i64 (0)], .bool false]) (by simp [results, Try.results66, go_sem, *]) rfl ⟨rfl, (by repeat (first | with_reducible exact Below.refl _ _ | with_reducible assumption | (with_reducible refine Below.trans ?_ (Below.mono (by assumption) (by first | omega | (simp <;> omega)))) | with_reducible apply Below.drew | with_reducible apply below_drewN | (with_reducible refine Below.alloc ?_ (by first | omega | (simp <;> omega)) _) | (with_reducible refine Below.setCell ?_ (by first | omega | (simp <;> omega)) _)))⟩
  · rw [mlO_some ho, hC.len]
    obtain ⟨g, hA⟩ := own_form0 ha (by have := hC.map.lo; have := own_len ha; rw [List.length_map] at this; omega)
    subst hA
    have hgl := (ha.lt g rfl).2
    have HG := Lib.hid hC.map; have HU := hide hC.all
    have hPlo := hC.lo; have hPhi := hC.hi
    have HI := hide hrun; have HA := hide ha
    clear hrun ha ho hC
    go_enter Try.func66, Try.ntmps66
    go_wp2_with (go_at_call 111; (with_reducible refine ((unhide HI) _ (own_below (unhide HA) ?pb)).mono ?_); (case pb => exact (by repeat (first | with_reducible exact Below.refl _ _ | with_reducible assumption | (with_reducible refine Below.trans ?_ (Below.mono (by assumption) (by first | omega | (simp <;> omega)))) | with_reducible apply Below.drew | with_reducible apply below_drewN | (with_reducible refine Below.alloc ?_ (by first | omega | (simp <;> omega)) _) | (with_reducible refine Below.setCell ?_ (by first | omega | (simp <;> omega)) _)))); rintro e w1 ⟨gs, d, rfl, hgs0, hrc, hbw1⟩; have hs1 := hbw1.size; (skip; (try ((have kw1w0 := (bnew hbw1) (w.heap.size) ?pf); (case pf => (first | omega | (simp; done) | (simp; omega))); obtain ⟨kcw1w0, kfw1w0, klw1w0⟩ := kw1w0)); (try ((have kw1w1 := (bnew hbw1) (w.heap.size + 1) ?pf); (case pf => (first | omega | (simp; done) | (simp; omega))); obtain ⟨kcw1w1, kfw1w1, klw1w1⟩ := kw1w1))); have HRC := hide hrc; clear hrc)
    have hsq : w.heap.size + 1 < w1.heap.size := klw1w1
    have r0 : w1.cell? ⟨w.heap.size + 1, 0, none⟩ = some (.int .i64 0) := by rw [kcw1w1]; simp [go_sem]
    have r1 : w1.cell? ⟨w.heap.size + 1, 1, none⟩ = some (.int .i64 0) := by rw [kcw1w1]; simp [go_sem]
    have rf : ∀ o, w1.frozen? ⟨w.heap.size + 1, o, none⟩ = false := fun o => by rw [kfw1w1]; simp [go_sem]
    have hb0 : Below w.heap.size w (w1.alloc (.cells #[.int .i64 1, .int .i64 1] 26)) := (by repeat (first | with_reducible exact Below.refl _ _ | with_reducible assumption | (with_reducible refine Below.trans ?_ (Below.mono (by assumption) (by first | omega | (simp <;> omega)))) | with_reducible apply Below.drew | with_reducible apply below_drewN | (with_reducible refine Below.alloc ?_ (by first | omega | (simp <;> omega)) _) | (with_reducible refine Below.setCell ?_ (by first | omega | (simp <;> omega)) _)))
    have hbA : Below w1.heap.size w1 (w1.alloc (.cells #[.int .i64 1, .int .i64 1] 26)) := (by repeat (first | with_reducible exact Below.refl _ _ | with_reducible assumption | (with_reducible refine Below.trans ?_ (Below.mono (by assumption) (by first | omega | (simp <;> omega)))) | with_reducible apply Below.drew | with_reducible apply below_drewN | (with_reducible refine Below.alloc ?_ (by first | omega | (simp <;> omega)) _) | (with_reducible refine Below.setCell ?_ (by first | omega | (simp <;> omega)) _)))
    have m0 : (w1.alloc (.cells #[.int .i64 1, .int .i64 1] 26)).cell? ⟨w1.heap.size, 0, none⟩ = some (.int .i64 (1 : Rat).num) := by simp [go_sem]
    have m1 : (w1.alloc (.cells #[.int .i64 1, .int .i64 1] 26)).cell? ⟨w1.heap.size, 1, none⟩ = some (.int .i64 ((1 : Rat).den : Int)) := by simp [go_sem]
    have mf : ∀ o, (w1.alloc (.cells #[.int .i64 1, .int .i64 1] 26)).frozen? ⟨w1.heap.size, o, none⟩ = false := by intro o; simp [go_sem]
    have hMq : w1.heap.size < (w1.alloc (.cells #[.int .i64 1, .int .i64 1] 26)).heap.size := by simp
    have hgM := (unhide HRC).lt
    have HC := hide ((unhide HRC).below hbA)
    have HAq := hide (own_below (unhide HA) hb0)
    replace r0 := (hbA.cell (p := ⟨w.heap.size + 1, 0, none⟩) hsq).trans r0
    replace r1 := (hbA.cell (p := ⟨w.heap.size + 1, 1, none⟩) hsq).trans r1
    replace rf := fun o => (hbA.frozen (p := ⟨w.heap.size + 1, o, none⟩) hsq).trans (rf o)
    have HBQ := hide hb0
    have hwW : w.heap.size ≤ w1.heap.size := by omega
    clear hb0 hbA hbw1 kcw1w0 kcw1w1 kfw1w0 kfw1w1 klw1w0 klw1w1 HRC
    generalize w1.alloc (.cells #[.int .i64 1, .int .i64 1] 26) = wq at *
    generalize w1.heap.size = M at *
    have hRq : w.heap.size + 1 < wq.heap.size := by omega
    go_loopw [28] (fun i wr => ∃ (j : Nat) (cur : Rat), i = .int .i64 j ∧ j ≤ P ∧ Hid (mlK qs cy j = some cur) ∧ wr.cell? ⟨M, 0, none⟩ = some (.int .i64 cur.num) ∧ wr.cell? ⟨M, 1, none⟩ = some (.int .i64 cur.den) ∧ (∀ o, wr.frozen? ⟨M, o, none⟩ = false) ∧ wq.grownBy wr (some M)) (fun i _ => P - (intOf i).toNat)
    case atStart => exact ⟨0, 1, rfl, by omega, hide rfl, m0, m1, mf, World.grownBy.refl _ _⟩
    case round =>
      obtain ⟨j, cur, rfl, hj, HP, c0, c1, cf, hgr⟩ := hrel
      have hsr := hgr.size
      have hMr : M < wr.heap.size := by omega
      have hRr : w.heap.size + 1 < wr.heap.size := by omega
      have q0 := (World.cell?_of_block (a := ⟨w.heap.size + 1, 0, none⟩) (hgr.block (w.heap.size + 1) hRq (fun e => by have := Option.some.inj e; omega))).trans r0
      have q1 := (World.cell?_of_block (a := ⟨w.heap.size + 1, 1, none⟩) (hgr.block (w.heap.size + 1) hRq (fun e => by have := Option.some.inj e; omega))).trans r1
      have qz := fun o => (World.frozen?_of_block (a := ⟨w.heap.size + 1, o, none⟩) (hgr.block (w.heap.size + 1) hRq (fun e => by have := Option.some.inj e; omega))).trans (rf o)
      have hb := (unhide HBQ).grown hgr (by omega) (fun i e => by have := Option.some.inj e; omega)
      by_cases hlt : j < P
      · have hC := (unhide HC).kept hgr (by omega)
        have y0 := hC.at0 j hlt
        have y1 := hC.at1 j hlt
        have hgs := hC.lt
        have hown := own_kept (unhide HAq) hgr (fun i hi e => by
          have h1 : g = i := Option.some.inj hi
          have h2 : i = M := Option.some.inj e
          omega)
        have HAr := hide hown
        have hyu := (unhide HU) j hlt
        have hap := fun W hW => slopeAt_q g n c base qs (cy.getD j 0) W hW HG.out hyu
        have hcurf := mlK_fits (unhide HP)
        have HB := hide hb
        have HGR := hide hgr
        clear hC hb hgr hown m0 m1 r0 r1
        rcases hs : slAt qs (cy.getD j 0) with _ | s
        · have hno := mlK_up (mlK_none1 (unhide HP) hs) P (by omega)
          have HNO := Lib.hid hno
          rw [hs] at hap
          simp only [oN_none, oD_none, Option.isSome_none] at hap
          have HAP := hide hap
          clear hap hs hno hcurf hyu
          generalize (cy.getD j 0).num = a1 at *
          generalize ((cy.getD j 0).den : Int) = a2 at *
          generalize cur.num = u1 at *
          generalize (cur.den : Int) = u2 at *
          go_wp2_with ((go_at_call 112; (with_reducible refine ((unhide HAP) _ (own_below (unhide HAr) ?pb)).mono ?_); (case pb => exact (by repeat (first | with_reducible exact Below.refl _ _ | with_reducible assumption | (with_reducible refine Below.trans ?_ (Below.mono (by assumption) (by first | omega | (simp <;> omega)))) | with_reducible apply Below.drew | with_reducible apply below_drewN | (with_reducible refine Below.alloc ?_ (by first | omega | (simp <;> omega)) _) | (with_reducible refine Below.setCell ?_ (by first | omega | (simp <;> omega)) _)))); rintro e w5 ⟨rfl, hbw5⟩; have hs5 := hbw5.size; (try simp at hs5); have p0 : w5.cell? ⟨w.heap.size + 1, 0, none⟩ = some (.int .i64 0) := (hbw5.cell (p := ⟨w.heap.size + 1, 0, none⟩) (by simp; omega)).trans (by simp [go_sem, *]); have p1 : w5.cell? ⟨w.heap.size + 1, 1, none⟩ = some (.int .i64 0) := (hbw5.cell (p := ⟨w.heap.size + 1, 1, none⟩) (by simp; omega)).trans (by simp [go_sem, *]); have pz : ∀ o, w5.frozen? ⟨w.heap.size + 1, o, none⟩ = false := (fun o => (hbw5.frozen (p := ⟨w.heap.size + 1, o, none⟩) (by simp; omega)).trans (by simp [go_sem, *])); have n0 : w5.cell? ⟨M, 0, none⟩ = some (.int .i64 u1) := (hbw5.cell (p := ⟨M, 0, none⟩) (by simp; omega)).trans (by simp [go_sem, *]); have n1 : w5.cell? ⟨M, 1, none⟩ = some (.int .i64 u2) := (hbw5.cell (p := ⟨M, 1, none⟩) (by simp; omega)).trans (by simp [go_sem, *]); have nf : ∀ o, w5.frozen? ⟨M, o, none⟩ = false := (fun o => (hbw5.frozen (p := ⟨M, o, none⟩) (by simp; omega)).trans (by simp [go_sem, *])); have hR5 : w.heap.size + 1 < w5.heap.size := (by omega); have hM5 : M < w5.heap.size := (by omega); clear q0 q1 qz c0 c1 cf))
          have hb := unhide HB
          exact bodyPost_ret (v := .tuple #[.agg #[.int .i64 (0), .int .i64 (0)], .bool false]) (by simp [results, Try.results66, go_sem, *]) rfl ⟨by rw [HNO.out]; rfl, (by repeat (first | with_reducible exact Below.refl _ _ | with_reducible assumption | (with_reducible refine Below.trans ?_ (Below.mono (by assumption) (by first | omega | (simp <;> omega)))) | with_reducible apply Below.drew | with_reducible apply below_drewN | (with_reducible refine Below.alloc ?_ (by first | omega | (simp <;> omega)) _) | (with_reducible refine Below.setCell ?_ (by first | omega | (simp <;> omega)) _)))⟩
        · have hsf := slAt_fits HG.out hyu hs
          rw [hs] at hap
          simp only [oN_some, oD_some, Option.isSome_some] at hap
          have HAP := hide hap
          have hmu := fun W => iMultiplyRats_o (some cur) (some s) (isR_some hcurf) (isR_some hsf) W
          have hom : omul (some cur) (some s) = keep (cur * s) := rfl
          rw [hom] at hmu
          simp only [oN_some, oD_some] at hmu
          rcases hd : keep (cur * s) with _ | d
          · have hno := mlK_up (mlK_none2 (unhide HP) hs hd) P (by omega)
            have HNO := Lib.hid hno
            rw [hd] at hmu
            simp only [oN_none, oD_none, Option.isSome_none] at hmu
            have HMU := hide hmu
            clear hap hs hno hcurf hyu hmu hom hd hsf
            generalize (cy.getD j 0).num = a1 at *
            generalize ((cy.getD j 0).den : Int) = a2 at *
            generalize cur.num = u1 at *
            generalize (cur.den : Int) = u2 at *
            generalize s.num = s1 at *
            generalize (s.den : Int) = s2 at *
            go_wp2_with (first
              | (go_at_call 112; (with_reducible refine ((unhide HAP) _ (own_below (unhide HAr) ?pb)).mono ?_); (case pb => exact (by repeat (first | with_reducible exact Below.refl _ _ | with_reducible assumption | (with_reducible refine Below.trans ?_ (Below.mono (by assumption) (by first | omega | (simp <;> omega)))) | with_reducible apply Below.drew | with_reducible apply below_drewN | (with_reducible refine Below.alloc ?_ (by first | omega | (simp <;> omega)) _) | (with_reducible refine Below.setCell ?_ (by first | omega | (simp <;> omega)) _)))); rintro e w5 ⟨rfl, hbw5⟩; have hs5 := hbw5.size; (try simp at hs5); have p0 : w5.cell? ⟨w.heap.size + 1, 0, none⟩ = some (.int .i64 0) := (hbw5.cell (p := ⟨w.heap.size + 1, 0, none⟩) (by simp; omega)).trans (by simp [go_sem, *]); have p1 : w5.cell? ⟨w.heap.size + 1, 1, none⟩ = some (.int .i64 0) := (hbw5.cell (p := ⟨w.heap.size + 1, 1, none⟩) (by simp; omega)).trans (by simp [go_sem, *]); have pz : ∀ o, w5.frozen? ⟨w.heap.size + 1, o, none⟩ = false := (fun o => (hbw5.frozen (p := ⟨w.heap.size + 1, o, none⟩) (by simp; omega)).trans (by simp [go_sem, *])); have n0 : w5.cell? ⟨M, 0, none⟩ = some (.int .i64 u1) := (hbw5.cell (p := ⟨M, 0, none⟩) (by simp; omega)).trans (by simp [go_sem, *]); have n1 : w5.cell? ⟨M, 1, none⟩ = some (.int .i64 u2) := (hbw5.cell (p := ⟨M, 1, none⟩) (by simp; omega)).trans (by simp [go_sem, *]); have nf : ∀ o, w5.frozen? ⟨M, o, none⟩ = false := (fun o => (hbw5.frozen (p := ⟨M, o, none⟩) (by simp; omega)).trans (by simp [go_sem, *])); have hR5 : w.heap.size + 1 < w5.heap.size := (by omega); have hM5 : M < w5.heap.size := (by omega); clear q0 q1 qz c0 c1 cf)
              | (go_at_call 113; (with_reducible refine ((unhide HMU) _).mono ?_); rintro e w6 ⟨rfl, hbw6⟩; have hs6 := hbw6.size; (try simp at hs6); have q0 : w6.cell? ⟨w.heap.size + 1, 0, none⟩ = some (.int .i64 0) := (hbw6.cell (p := ⟨w.heap.size + 1, 0, none⟩) (by simp; omega)).trans (by simp [go_sem, *]); have q1 : w6.cell? ⟨w.heap.size + 1, 1, none⟩ = some (.int .i64 0) := (hbw6.cell (p := ⟨w.heap.size + 1, 1, none⟩) (by simp; omega)).trans (by simp [go_sem, *]); have qz : ∀ o, w6.frozen? ⟨w.heap.size + 1, o, none⟩ = false := (fun o => (hbw6.frozen (p := ⟨w.heap.size + 1, o, none⟩) (by simp; omega)).trans (by simp [go_sem, *])); have n0x : w6.cell? ⟨M, 0, none⟩ = some (.int .i64 u1) := (hbw6.cell (p := ⟨M, 0, none⟩) (by simp; omega)).trans (by simp [go_sem, *]); have n1x : w6.cell? ⟨M, 1, none⟩ = some (.int .i64 u2) := (hbw6.cell (p := ⟨M, 1, none⟩) (by simp; omega)).trans (by simp [go_sem, *]); have nfx : ∀ o, w6.frozen? ⟨M, o, none⟩ = false := (fun o => (hbw6.frozen (p := ⟨M, o, none⟩) (by simp; omega)).trans (by simp [go_sem, *])); have hR6 : w.heap.size + 1 < w6.heap.size := (by omega); have hM6 : M < w6.heap.size := (by omega); clear p0 p1 pz n0 n1 nf))
            have hb := unhide HB
            exact bodyPost_ret (v := .tuple #[.agg #[.int .i64 (0), .int .i64 (0)], .bool false]) (by simp [results, Try.results66, go_sem, *]) rfl ⟨by rw [HNO.out]; rfl, (by repeat (first | with_reducible exact Below.refl _ _ | with_reducible assumption | (with_reducible refine Below.trans ?_ (Below.mono (by assumption) (by first | omega | (simp <;> omega)))) | with_reducible apply Below.drew | with_reducible apply below_drewN | (with_reducible refine Below.alloc ?_ (by first | omega | (simp <;> omega)) _) | (with_reducible refine Below.setCell ?_ (by first | omega | (simp <;> omega)) _)))⟩
          · have hst := mlK_step (unhide HP) hs hd
            have HST := hide hst
            rw [hd] at hmu
            simp only [oN_some, oD_some, Option.isSome_some] at hmu
            have HMU := hide hmu
            clear hap hs hcurf hyu hmu hom hd hsf hst
            obtain ⟨dn, hdn⟩ : ∃ r, r = d.num := ⟨_, rfl⟩
            obtain ⟨dd, hdd⟩ : ∃ r, r = (d.den : Int) := ⟨_, rfl⟩
            rw [← hdn, ← hdd] at HMU
            have HDV := Lib.hid (And.intro hdn hdd)
            clear hdn hdd
            generalize (cy.getD j 0).num = a1 at *
            generalize ((cy.getD j 0).den : Int) = a2 at *
            generalize cur.num = u1 at *
            generalize (cur.den : Int) = u2 at *
            generalize s.num = s1 at *
            generalize (s.den : Int) = s2 at *
            go_wp2_with (first
              | (go_at_call 112; (with_reducible refine ((unhide HAP) _ (own_below (unhide HAr) ?pb)).mono ?_); (case pb => exact (by repeat (first | with_reducible exact Below.refl _ _ | with_reducible assumption | (with_reducible refine Below.trans ?_ (Below.mono (by assumption) (by first | omega | (simp <;> omega)))) | with_reducible apply Below.drew | with_reducible apply below_drewN | (with_reducible refine Below.alloc ?_ (by first | omega | (simp <;> omega)) _) | (with_reducible refine Below.setCell ?_ (by first | omega | (simp <;> omega)) _)))); rintro e w5 ⟨rfl, hbw5⟩; have hs5 := hbw5.size; (try simp at hs5); have p0 : w5.cell? ⟨w.heap.size + 1, 0, none⟩ = some (.int .i64 0) := (hbw5.cell (p := ⟨w.heap.size + 1, 0, none⟩) (by simp; omega)).trans (by simp [go_sem, *]); have p1 : w5.cell? ⟨w.heap.size + 1, 1, none⟩ = some (.int .i64 0) := (hbw5.cell (p := ⟨w.heap.size + 1, 1, none⟩) (by simp; omega)).trans (by simp [go_sem, *]); have pz : ∀ o, w5.frozen? ⟨w.heap.size + 1, o, none⟩ = false := (fun o => (hbw5.frozen (p := ⟨w.heap.size + 1, o, none⟩) (by simp; omega)).trans (by simp [go_sem, *])); have n0 : w5.cell? ⟨M, 0, none⟩ = some (.int .i64 u1) := (hbw5.cell (p := ⟨M, 0, none⟩) (by simp; omega)).trans (by simp [go_sem, *]); have n1 : w5.cell? ⟨M, 1, none⟩ = some (.int .i64 u2) := (hbw5.cell (p := ⟨M, 1, none⟩) (by simp; omega)).trans (by simp [go_sem, *]); have nf : ∀ o, w5.frozen? ⟨M, o, none⟩ = false := (fun o => (hbw5.frozen (p := ⟨M, o, none⟩) (by simp; omega)).trans (by simp [go_sem, *])); have hR5 : w.heap.size + 1 < w5.heap.size := (by omega); have hM5 : M < w5.heap.size := (by omega); clear q0 q1 qz c0 c1 cf)
              | (go_at_call 113; (with_reducible refine ((unhide HMU) _).mono ?_); rintro e w6 ⟨rfl, hbw6⟩; have hs6 := hbw6.size; (try simp at hs6); have q0 : w6.cell? ⟨w.heap.size + 1, 0, none⟩ = some (.int .i64 0) := (hbw6.cell (p := ⟨w.heap.size + 1, 0, none⟩) (by simp; omega)).trans (by simp [go_sem, *]); have q1 : w6.cell? ⟨w.heap.size + 1, 1, none⟩ = some (.int .i64 0) := (hbw6.cell (p := ⟨w.heap.size + 1, 1, none⟩) (by simp; omega)).trans (by simp [go_sem, *]); have qz : ∀ o, w6.frozen? ⟨w.heap.size + 1, o, none⟩ = false := (fun o => (hbw6.frozen (p := ⟨w.heap.size + 1, o, none⟩) (by simp; omega)).trans (by simp [go_sem, *])); have n0x : w6.cell? ⟨M, 0, none⟩ = some (.int .i64 u1) := (hbw6.cell (p := ⟨M, 0, none⟩) (by simp; omega)).trans (by simp [go_sem, *]); have n1x : w6.cell? ⟨M, 1, none⟩ = some (.int .i64 u2) := (hbw6.cell (p := ⟨M, 1, none⟩) (by simp; omega)).trans (by simp [go_sem, *]); have nfx : ∀ o, w6.frozen? ⟨M, o, none⟩ = false := (fun o => (hbw6.frozen (p := ⟨M, o, none⟩) (by simp; omega)).trans (by simp [go_sem, *])); have hR6 : w.heap.size + 1 < w6.heap.size := (by omega); have hM6 : M < w6.heap.size := (by omega); clear p0 p1 pz n0 n1 nf))
            have hbl : Below wr.heap.size wr w6 := (by repeat (first | with_reducible exact Below.refl _ _ | with_reducible assumption | (with_reducible refine Below.trans ?_ (Below.mono (by assumption) (by first | omega | (simp <;> omega)))) | with_reducible apply Below.drew | with_reducible apply below_drewN | (with_reducible refine Below.alloc ?_ (by first | omega | (simp <;> omega)) _) | (with_reducible refine Below.setCell ?_ (by first | omega | (simp <;> omega)) _)))
            have HGD := hide (grown_set (grown_set (grown_on (unhide HGR) hbl) 0 (.int .i64 dn)) 1 (.int .i64 dd))
            go_roundw
            case rel => exact ⟨j + 1, d, by go_num, by omega, HST, by rw [← HDV.out.1]; simp [go_sem, *], by rw [← HDV.out.2]; simp [go_sem, *], fun o => by simp [go_sem, *], unhide HGD⟩
            case measure => simp [intOf]; omega
      · obtain rfl : j = P := by omega
        have HB := hide hb
        have hbz := hb.size
        have HPR := Lib.hid (unhide HP)
        clear hb hgr cf m0 m1 r0 r1 rf HP
        generalize hcn : cur.num = u1 at *
        generalize hcd : (cur.den : Int) = u2 at *
        have HCN := Lib.hid (And.intro hcn hcd)
        clear hcn hcd
        go_wp2_with fail
        have hb := unhide HB
        exact bodyPost_ret (v := .tuple #[.agg #[.int .i64 (u1), .int .i64 (u2)], .bool true]) (by simp [results, Try.results66, go_sem, *]) rfl ⟨by rw [HPR.out, ← HCN.out.1, ← HCN.out.2]; rfl, (by repeat (first | with_reducible exact Below.refl _ _ | with_reducible assumption | (with_reducible refine Below.trans ?_ (Below.mono (by assumption) (by first | omega | (simp <;> omega)))) | with_reducible apply Below.drew | with_reducible apply below_drewN | (with_reducible refine Below.alloc ?_ (by first | omega | (simp <;> omega)) _) | (with_reducible refine Below.setCell ?_ (by first | omega | (simp <;> omega)) _)))⟩
end Go.Proofs.Ythccdooacbablaa

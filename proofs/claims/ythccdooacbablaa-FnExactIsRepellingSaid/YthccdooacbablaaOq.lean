/-
  Chapter 4: PeriodOf of both.
-/
import Derived.Test.YthccdooacbablaaOp
namespace Go.Proofs.Ythccdooacbablaa
open Go.RowKit Rm

def peO (ps : List Pt) (a b m : Int) : Option (Nat × Nat) := (orbO ps a b m).bind perO
def pe1 (o : Option (Nat × Nat)) : Int := match o with | some r => (r.1 : Int) | none => 0
def pe2 (o : Option (Nat × Nat)) : Int := match o with | some r => (r.2 : Int) | none => 0
theorem pe2_sub {t j : Nat} (h : t < j) : (Value.tuple #[.int .i64 (pe1 (some (t, j - t))), .int .i64 (pe2 (some (t, j - t))), .bool (some (t, j - t)).isSome]) = .tuple #[.int .i64 (t : Int), .int .i64 ((j : Int) - (t : Int)), .bool true] := by
  show (Value.tuple #[.int .i64 (t : Int), .int .i64 ((j - t : Nat) : Int), .bool true]) = _
  rw [show ((j - t : Nat) : Int) = (j : Int) - (t : Int) by omega]
theorem peO_some {ps : List Pt} {a b m : Int} {l : List Rat} (h : orbO ps a b m = some l) : peO ps a b m = perO l := by unfold peO; rw [h]; rfl
theorem peO_none {ps : List Pt} {a b m : Int} (h : orbO ps a b m = none) : peO ps a b m = none := by unfold peO; rw [h]; rfl

set_option maxRecDepth 100000 in
set_option maxHeartbeats 1600000 in
theorem iPeriodOf_any (A : Option Addr) (n c base : Nat) (ps : List Pt) (a b m : Int) (w : World) (ha : w.ownsRow base 62 4 (.slice A n c) n (ptcs ps)) (hn : n ≤ 1048576) :
    Calls Try.prog 167 #[.slice A n c, .agg #[.int .i64 (a), .int .i64 (b)], .int .i64 m] w fun e w' => e = .returned (.tuple #[.int .i64 (pe1 (peO ps a b m)), .int .i64 (pe2 (peO ps a b m)), .bool (peO ps a b m).isSome]) ∧ Below w.heap.size w w' := by
  rcases i_cases (A := A) (n := n) (c := c) (base := base) (ps := ps) (a := a) (b := b) (m := m) hn with ⟨ho, hno⟩ | ⟨qs, x, k, rfl, rfl, rfl, rfl, hk, hO, ho, hrun⟩
  · have HI := hide hno; have HA := hide ha
    rw [peO_none ho]
    simp only [pe1, pe2, Option.isSome_none]
    clear hno ha ho
    go_enter Try.func167, Try.ntmps167
    go_wp2_with (go_at_call 96; (with_reducible refine ((unhide HI) _ (own_below (unhide HA) ?pb)).mono ?_); (case pb => exact (by repeat (first | with_reducible exact Below.refl _ _ | with_reducible assumption | (with_reducible refine Below.trans ?_ (Below.mono (by assumption) (by first | omega | (simp <;> omega)))) | with_reducible apply Below.drew | with_reducible apply below_drewN | (with_reducible refine Below.alloc ?_ (by first | omega | (simp <;> omega)) _) | (with_reducible refine Below.setCell ?_ (by first | omega | (simp <;> omega)) _)))); rintro e w1 ⟨B1, d1, rfl, hbw1⟩; have hs1 := hbw1.size; (skip; (try ((have kw1w0 := (bnew hbw1) (w.heap.size) ?pf); (case pf => (first | omega | (simp; done) | (simp; omega))); obtain ⟨kcw1w0, kfw1w0, klw1w0⟩ := kw1w0)); (try ((have kw1w1 := (bnew hbw1) (w.heap.size + 1) ?pf); (case pf => (first | omega | (simp; done) | (simp; omega))); obtain ⟨kcw1w1, kfw1w1, klw1w1⟩ := kw1w1))))
    go_ret3
    exact ⟨rfl, (by repeat (first | with_reducible exact Below.refl _ _ | with_reducible assumption | (with_reducible refine Below.trans ?_ (Below.mono (by assumption) (by first | omega | (simp <;> omega)))) | with_reducible apply Below.drew | with_reducible apply below_drewN | (with_reducible refine Below.alloc ?_ (by first | omega | (simp <;> omega)) _) | (with_reducible refine Below.setCell ?_ (by first | omega | (simp <;> omega)) _)))⟩
  · have HI := hide hrun; have HA := hide ha
    rw [peO_some ho]
    clear hrun ha ho
    generalize x.num = xn at *
    generalize (x.den : Int) = xd at *
    go_enter Try.func167, Try.ntmps167
    go_wp2_with (go_at_call 96; (with_reducible refine ((unhide HI) _ (own_below (unhide HA) ?pb)).mono ?_); (case pb => exact (by repeat (first | with_reducible exact Below.refl _ _ | with_reducible assumption | (with_reducible refine Below.trans ?_ (Below.mono (by assumption) (by first | omega | (simp <;> omega)))) | with_reducible apply Below.drew | with_reducible apply below_drewN | (with_reducible refine Below.alloc ?_ (by first | omega | (simp <;> omega)) _) | (with_reducible refine Below.setCell ?_ (by first | omega | (simp <;> omega)) _)))); rintro e w2 ⟨gs, d, rfl, hown, hbw2⟩; have hs2 := hbw2.size; have hbA : Below w.heap.size w w2 := (by repeat (first | with_reducible exact Below.refl _ _ | with_reducible assumption | (with_reducible refine Below.trans ?_ (Below.mono (by assumption) (by first | omega | (simp <;> omega)))) | with_reducible apply Below.drew | with_reducible apply below_drewN | (with_reducible refine Below.alloc ?_ (by first | omega | (simp <;> omega)) _) | (with_reducible refine Below.setCell ?_ (by first | omega | (simp <;> omega)) _))); have HOW := hide hown; clear hown hbw2)
    have hsA := hbA.size
    have hcap := own_cap (unhide HOW)
    have HRC := hide (rcells_own (unhide HOW))
    have HBA := hide hbA
    have hll := hO.len
    have HLL := Lib.hid hll
    clear hbA hll
    go_loopw [25] (fun i wr => ∃ j : Nat, i = .int .i64 j ∧ j ≤ k + 1 ∧ Hid (perK (run qs k x) j = none) ∧ Below w2.heap.size w2 wr) (fun i _ => k + 1 - (intOf i).toNat)
    case atStart => exact ⟨0, rfl, by omega, hide rfl, Below.refl _ _⟩
    case round =>
      obtain ⟨j, rfl, hj, HP, hbwr⟩ := hrel
      have hzwr := hbwr.size
      by_cases hlt : j < k + 1
      · have hC := (unhide HRC).below hbwr
        have f0 := hC.at0 j hlt
        have f1 := hC.at1 j hlt
        have hgs := hC.lt
        have HC := hide (hC.less (i := j) (by omega))
        have hix := fun (W : World) (hW : RCells W gs j (run qs k x)) => index_any gs j d (run qs k x) ((run qs k x).getD j 0) W hW (by rw [HLL.out]; omega) (by omega)
        have HB := hide hbwr
        have s1 : (0 : Int) ≤ (j : Int) := by omega
        have s2 : (j : Int) ≤ (d : Int) := by omega
        have s3 : ((j : Int)).toNat = j := by omega
        rcases hr : ixOf ((run qs k x).take j) ((run qs k x).getD j 0) with _ | t
        · have HP2 := hide (perK_none (unhide HP) hr)
          rw [hr] at hix
          have hix' : ∀ (W : World), RCells W gs j (run qs k x) → Calls Try.prog 179 #[.slice (some ⟨gs, 0, none⟩) j d, .agg #[.int .i64 (((run qs k x).getD j 0).num), .int .i64 (((run qs k x).getD j 0).den)]] W fun e w' => e = .returned (.int .i64 (-1)) ∧ Below W.heap.size W w' := hix
          have HIX := hide hix'
          clear hix hix' hr hC hbwr
          generalize ((run qs k x).getD j 0).num = yn at *
          generalize (((run qs k x).getD j 0).den : Int) = yd at *
          go_upto_region 7 with fail
          go_region_held3 (fun w' => w'.cell? ⟨wr.heap.size, 0, none⟩ = some (.int .i64 yn) ∧ w'.cell? ⟨wr.heap.size, 1, none⟩ = some (.int .i64 yd)) (simp [go_sem, *])
            ((go_at_call 179; (with_reducible refine ((unhide HIX) _ ((unhide HC).below ?pb)).mono ?_); (case pb => exact (by repeat (first | with_reducible exact Below.refl _ _ | with_reducible assumption | (with_reducible refine Below.trans ?_ (Below.mono (by assumption) (by first | omega | (simp <;> omega)))) | with_reducible apply Below.drew | with_reducible apply below_drewN | (with_reducible refine Below.alloc ?_ (by first | omega | (simp <;> omega)) _) | (with_reducible refine Below.setCell ?_ (by first | omega | (simp <;> omega)) _)))); rintro e w5 ⟨rfl, hbw5⟩; have hs5 := hbw5.size; (try simp at hs5); (skip; (try ((have kw5wr0 := (bnew hbw5) (wr.heap.size) ?pf); (case pf => (first | omega | (simp; done) | (simp; omega))); obtain ⟨kcw5wr0, kfw5wr0, klw5wr0⟩ := kw5wr0)))))
          all_goals
            go_wp2_with fail
            have hb := unhide HB
            go_roundw
            case rel => exact ⟨j + 1, by go_num, by omega, HP2, (by repeat (first | with_reducible exact Below.refl _ _ | with_reducible assumption | (with_reducible refine Below.trans ?_ (Below.mono (by assumption) (by first | omega | (simp <;> omega)))) | with_reducible apply Below.drew | with_reducible apply below_drewN | (with_reducible refine Below.alloc ?_ (by first | omega | (simp <;> omega)) _) | (with_reducible refine Below.setCell ?_ (by first | omega | (simp <;> omega)) _)))⟩
            case measure => simp [intOf]; omega
        · have htj : t < j := by have := (ixOf_lt _ _ _ hr).1; simp at this; omega
          have hper := perO_some (by rw [HLL.out]; omega) (perK_some (unhide HP) hr)
          have HPER := Lib.hid hper
          rw [hr] at hix
          have hix' : ∀ (W : World), RCells W gs j (run qs k x) → Calls Try.prog 179 #[.slice (some ⟨gs, 0, none⟩) j d, .agg #[.int .i64 (((run qs k x).getD j 0).num), .int .i64 (((run qs k x).getD j 0).den)]] W fun e w' => e = .returned (.int .i64 (t : Int)) ∧ Below W.heap.size W w' := hix
          have HIX := hide hix'
          clear hix hix' hr hC hbwr hper
          have s4 : IntKind.i64.wrap ((j : Int) - (t : Int)) = (j : Int) - (t : Int) := IntWalk.i64_in _ (by omega)
          have s5 : (0 : Int) ≤ (t : Int) := by omega
          generalize ((run qs k x).getD j 0).num = yn at *
          generalize (((run qs k x).getD j 0).den : Int) = yd at *
          go_upto_region 7 with fail
          go_region_held3 (fun w' => w'.cell? ⟨wr.heap.size, 0, none⟩ = some (.int .i64 yn) ∧ w'.cell? ⟨wr.heap.size, 1, none⟩ = some (.int .i64 yd)) (simp [go_sem, *])
            ((go_at_call 179; (with_reducible refine ((unhide HIX) _ ((unhide HC).below ?pb)).mono ?_); (case pb => exact (by repeat (first | with_reducible exact Below.refl _ _ | with_reducible assumption | (with_reducible refine Below.trans ?_ (Below.mono (by assumption) (by first | omega | (simp <;> omega)))) | with_reducible apply Below.drew | with_reducible apply below_drewN | (with_reducible refine Below.alloc ?_ (by first | omega | (simp <;> omega)) _) | (with_reducible refine Below.setCell ?_ (by first | omega | (simp <;> omega)) _)))); rintro e w5 ⟨rfl, hbw5⟩; have hs5 := hbw5.size; (try simp at hs5); (skip; (try ((have kw5wr0 := (bnew hbw5) (wr.heap.size) ?pf); (case pf => (first | omega | (simp; done) | (simp; omega))); obtain ⟨kcw5wr0, kfw5wr0, klw5wr0⟩ := kw5wr0)))))
          all_goals
            go_wp2_with fail
            have hb := unhide HB
            have hbA := unhide HBA
            go_ret3
            rw [HPER.out]
            exact ⟨by rw [pe2_sub htj]; simp [*], (by repeat (first | with_reducible exact Below.refl _ _ | with_reducible assumption | (with_reducible refine Below.trans ?_ (Below.mono (by assumption) (by first | omega | (simp <;> omega)))) | with_reducible apply Below.drew | with_reducible apply below_drewN | (with_reducible refine Below.alloc ?_ (by first | omega | (simp <;> omega)) _) | (with_reducible refine Below.setCell ?_ (by first | omega | (simp <;> omega)) _)))⟩
      · obtain rfl : j = k + 1 := by omega
        have hper : perO (run qs k x) = none := by have := unhide HP; unfold perO; rw [HLL.out]; exact this
        have HPER := Lib.hid hper
        have HB := hide hbwr
        clear hbwr hper
        go_wp2_with fail
        have hb := unhide HB
        have hbA := unhide HBA
        go_ret3
        rw [HPER.out]
        exact ⟨rfl, (by repeat (first | with_reducible exact Below.refl _ _ | with_reducible assumption | (with_reducible refine Below.trans ?_ (Below.mono (by assumption) (by first | omega | (simp <;> omega)))) | with_reducible apply Below.drew | with_reducible apply below_drewN | (with_reducible refine Below.alloc ?_ (by first | omega | (simp <;> omega)) _) | (with_reducible refine Below.setCell ?_ (by first | omega | (simp <;> omega)) _)))⟩

set_option maxRecDepth 100000 in
set_option maxHeartbeats 1600000 in
theorem orPeriod_full (A : Option Addr) (n c base : Nat) (qs : List QP) (x : Rat) (k : Nat) (w : World) (ha : w.ownsRow base 62 4 (.slice A n c) n (ptcs (qs.map qp))) (hk : k ≤ 60) (hO : Orb qs x k (run qs k x))
    (hrun : ∀ W : World, W.ownsRow base 62 4 (.slice A n c) n (ptcs (qs.map qp)) → Calls Try.prog 54 #[.slice A n c, .agg #[.int .i64 (x.num), .int .i64 (x.den)], .int .i64 k] W fun e w' => ∃ gs d : Nat, e = .returned (.slice (some ⟨gs, 0, none⟩) (k + 1) d) ∧
        w'.ownsRow W.heap.size 26 2 (.slice (some ⟨gs, 0, none⟩) (k + 1) d) (k + 1) (frcs ((run qs k x).map qf)) ∧ Below W.heap.size W w') :
    Calls Try.prog 146 #[.slice A n c, .agg #[.int .i64 (x.num), .int .i64 (x.den)], .int .i64 k] w fun e w' => e = .returned (.tuple #[.int .i64 (pe1 (perO (run qs k x))), .int .i64 (pe2 (perO (run qs k x))), .bool (perO (run qs k x)).isSome]) ∧ Below w.heap.size w w' := by
    have HI := hide hrun; have HA := hide ha
    clear hrun ha
    generalize x.num = xn at *
    generalize (x.den : Int) = xd at *
    go_enter Try.func146, Try.ntmps146
    go_wp2_with (go_at_call 54; (with_reducible refine ((unhide HI) _ (own_below (unhide HA) ?pb)).mono ?_); (case pb => exact (by repeat (first | with_reducible exact Below.refl _ _ | with_reducible assumption | (with_reducible refine Below.trans ?_ (Below.mono (by assumption) (by first | omega | (simp <;> omega)))) | with_reducible apply Below.drew | with_reducible apply below_drewN | (with_reducible refine Below.alloc ?_ (by first | omega | (simp <;> omega)) _) | (with_reducible refine Below.setCell ?_ (by first | omega | (simp <;> omega)) _)))); rintro e w2 ⟨gs, d, rfl, hown, hbw2⟩; have hs2 := hbw2.size; have hbA : Below w.heap.size w w2 := (by repeat (first | with_reducible exact Below.refl _ _ | with_reducible assumption | (with_reducible refine Below.trans ?_ (Below.mono (by assumption) (by first | omega | (simp <;> omega)))) | with_reducible apply Below.drew | with_reducible apply below_drewN | (with_reducible refine Below.alloc ?_ (by first | omega | (simp <;> omega)) _) | (with_reducible refine Below.setCell ?_ (by first | omega | (simp <;> omega)) _))); have HOW := hide hown; clear hown hbw2)
    have hsA := hbA.size
    have hcap := own_cap (unhide HOW)
    have HRC := hide (rcells_own (unhide HOW))
    have HBA := hide hbA
    have hll := hO.len
    have HLL := Lib.hid hll
    clear hbA hll
    go_loopw [23] (fun i wr => ∃ j : Nat, i = .int .i64 j ∧ j ≤ k + 1 ∧ Hid (perK (run qs k x) j = none) ∧ Below w2.heap.size w2 wr) (fun i _ => k + 1 - (intOf i).toNat)
    case atStart => exact ⟨0, rfl, by omega, hide rfl, Below.refl _ _⟩
    case round =>
      obtain ⟨j, rfl, hj, HP, hbwr⟩ := hrel
      have hzwr := hbwr.size
      by_cases hlt : j < k + 1
      · have hC := (unhide HRC).below hbwr
        have f0 := hC.at0 j hlt
        have f1 := hC.at1 j hlt
        have hgs := hC.lt
        have HC := hide (hC.less (i := j) (by omega))
        have hix := fun (W : World) (hW : RCells W gs j (run qs k x)) => orAt_any gs j d (run qs k x) ((run qs k x).getD j 0) W hW (by rw [HLL.out]; omega) (by omega)
        have HB := hide hbwr
        have s1 : (0 : Int) ≤ (j : Int) := by omega
        have s2 : (j : Int) ≤ (d : Int) := by omega
        have s3 : ((j : Int)).toNat = j := by omega
        rcases hr : ixOf ((run qs k x).take j) ((run qs k x).getD j 0) with _ | t
        · have HP2 := hide (perK_none (unhide HP) hr)
          rw [hr] at hix
          have hix' : ∀ (W : World), RCells W gs j (run qs k x) → Calls Try.prog 166 #[.slice (some ⟨gs, 0, none⟩) j d, .agg #[.int .i64 (((run qs k x).getD j 0).num), .int .i64 (((run qs k x).getD j 0).den)]] W fun e w' => e = .returned (.int .i64 (-1)) ∧ Below W.heap.size W w' := hix
          have HIX := hide hix'
          clear hix hix' hr hC hbwr
          generalize ((run qs k x).getD j 0).num = yn at *
          generalize (((run qs k x).getD j 0).den : Int) = yd at *
          go_upto_region 7 with fail
          go_region_held3 (fun w' => w'.cell? ⟨wr.heap.size, 0, none⟩ = some (.int .i64 yn) ∧ w'.cell? ⟨wr.heap.size, 1, none⟩ = some (.int .i64 yd)) (simp [go_sem, *])
            ((go_at_call 166; (with_reducible refine ((unhide HIX) _ ((unhide HC).below ?pb)).mono ?_); (case pb => exact (by repeat (first | with_reducible exact Below.refl _ _ | with_reducible assumption | (with_reducible refine Below.trans ?_ (Below.mono (by assumption) (by first | omega | (simp <;> omega)))) | with_reducible apply Below.drew | with_reducible apply below_drewN | (with_reducible refine Below.alloc ?_ (by first | omega | (simp <;> omega)) _) | (with_reducible refine Below.setCell ?_ (by first | omega | (simp <;> omega)) _)))); rintro e w5 ⟨rfl, hbw5⟩; have hs5 := hbw5.size; (try simp at hs5); (skip; (try ((have kw5wr0 := (bnew hbw5) (wr.heap.size) ?pf); (case pf => (first | omega | (simp; done) | (simp; omega))); obtain ⟨kcw5wr0, kfw5wr0, klw5wr0⟩ := kw5wr0)))))
          all_goals
            go_wp2_with fail
            have hb := unhide HB
            go_roundw
            case rel => exact ⟨j + 1, by go_num, by omega, HP2, (by repeat (first | with_reducible exact Below.refl _ _ | with_reducible assumption | (with_reducible refine Below.trans ?_ (Below.mono (by assumption) (by first | omega | (simp <;> omega)))) | with_reducible apply Below.drew | with_reducible apply below_drewN | (with_reducible refine Below.alloc ?_ (by first | omega | (simp <;> omega)) _) | (with_reducible refine Below.setCell ?_ (by first | omega | (simp <;> omega)) _)))⟩
            case measure => simp [intOf]; omega
        · have htj : t < j := by have := (ixOf_lt _ _ _ hr).1; simp at this; omega
          have hper := perO_some (by rw [HLL.out]; omega) (perK_some (unhide HP) hr)
          have HPER := Lib.hid hper
          rw [hr] at hix
          have hix' : ∀ (W : World), RCells W gs j (run qs k x) → Calls Try.prog 166 #[.slice (some ⟨gs, 0, none⟩) j d, .agg #[.int .i64 (((run qs k x).getD j 0).num), .int .i64 (((run qs k x).getD j 0).den)]] W fun e w' => e = .returned (.int .i64 (t : Int)) ∧ Below W.heap.size W w' := hix
          have HIX := hide hix'
          clear hix hix' hr hC hbwr hper
          have s4 : IntKind.i64.wrap ((j : Int) - (t : Int)) = (j : Int) - (t : Int) := IntWalk.i64_in _ (by omega)
          have s5 : (0 : Int) ≤ (t : Int) := by omega
          generalize ((run qs k x).getD j 0).num = yn at *
          generalize (((run qs k x).getD j 0).den : Int) = yd at *
          go_upto_region 7 with fail
          go_region_held3 (fun w' => w'.cell? ⟨wr.heap.size, 0, none⟩ = some (.int .i64 yn) ∧ w'.cell? ⟨wr.heap.size, 1, none⟩ = some (.int .i64 yd)) (simp [go_sem, *])
            ((go_at_call 166; (with_reducible refine ((unhide HIX) _ ((unhide HC).below ?pb)).mono ?_); (case pb => exact (by repeat (first | with_reducible exact Below.refl _ _ | with_reducible assumption | (with_reducible refine Below.trans ?_ (Below.mono (by assumption) (by first | omega | (simp <;> omega)))) | with_reducible apply Below.drew | with_reducible apply below_drewN | (with_reducible refine Below.alloc ?_ (by first | omega | (simp <;> omega)) _) | (with_reducible refine Below.setCell ?_ (by first | omega | (simp <;> omega)) _)))); rintro e w5 ⟨rfl, hbw5⟩; have hs5 := hbw5.size; (try simp at hs5); (skip; (try ((have kw5wr0 := (bnew hbw5) (wr.heap.size) ?pf); (case pf => (first | omega | (simp; done) | (simp; omega))); obtain ⟨kcw5wr0, kfw5wr0, klw5wr0⟩ := kw5wr0)))))
          all_goals
            go_wp2_with fail
            have hb := unhide HB
            have hbA := unhide HBA
            go_ret3
            rw [HPER.out]
            exact ⟨by rw [pe2_sub htj]; simp [*], (by repeat (first | with_reducible exact Below.refl _ _ | with_reducible assumption | (with_reducible refine Below.trans ?_ (Below.mono (by assumption) (by first | omega | (simp <;> omega)))) | with_reducible apply Below.drew | with_reducible apply below_drewN | (with_reducible refine Below.alloc ?_ (by first | omega | (simp <;> omega)) _) | (with_reducible refine Below.setCell ?_ (by first | omega | (simp <;> omega)) _)))⟩
      · obtain rfl : j = k + 1 := by omega
        have hper : perO (run qs k x) = none := by have := unhide HP; unfold perO; rw [HLL.out]; exact this
        have HPER := Lib.hid hper
        have HB := hide hbwr
        clear hbwr hper
        go_wp2_with fail
        have hb := unhide HB
        have hbA := unhide HBA
        go_ret3
        rw [HPER.out]
        exact ⟨rfl, (by repeat (first | with_reducible exact Below.refl _ _ | with_reducible assumption | (with_reducible refine Below.trans ?_ (Below.mono (by assumption) (by first | omega | (simp <;> omega)))) | with_reducible apply Below.drew | with_reducible apply below_drewN | (with_reducible refine Below.alloc ?_ (by first | omega | (simp <;> omega)) _) | (with_reducible refine Below.setCell ?_ (by first | omega | (simp <;> omega)) _)))⟩

set_option maxRecDepth 100000 in
set_option maxHeartbeats 1600000 in
theorem orPeriod_short (A : Option Addr) (n c base : Nat) (ps : List Pt) (a b : Int) (k L : Nat) (w : World) (ha : w.ownsRow base 62 4 (.slice A n c) n (ptcs ps)) (hLk : L ≤ k)
    (hrun : ∀ W : World, W.ownsRow base 62 4 (.slice A n c) n (ptcs ps) → Calls Try.prog 54 #[.slice A n c, .agg #[.int .i64 (a), .int .i64 (b)], .int .i64 k] W fun e w' => ∃ gs d : Nat, e = .returned (.slice (some ⟨gs, 0, none⟩) L d) ∧ Below W.heap.size W w') :
    Calls Try.prog 146 #[.slice A n c, .agg #[.int .i64 (a), .int .i64 (b)], .int .i64 k] w fun e w' => e = .returned (.tuple #[.int .i64 0, .int .i64 0, .bool false]) ∧ Below w.heap.size w w' := by
  have HI := hide hrun; have HA := hide ha
  clear hrun ha
  go_enter Try.func146, Try.ntmps146
  go_wp2_with (go_at_call 54; (with_reducible refine ((unhide HI) _ (own_below (unhide HA) ?pb)).mono ?_); (case pb => exact (by repeat (first | with_reducible exact Below.refl _ _ | with_reducible assumption | (with_reducible refine Below.trans ?_ (Below.mono (by assumption) (by first | omega | (simp <;> omega)))) | with_reducible apply Below.drew | with_reducible apply below_drewN | (with_reducible refine Below.alloc ?_ (by first | omega | (simp <;> omega)) _) | (with_reducible refine Below.setCell ?_ (by first | omega | (simp <;> omega)) _)))); rintro e w2 ⟨gs, d, rfl, hbw2⟩; have hs2 := hbw2.size)
  go_ret3
  exact ⟨rfl, (by repeat (first | with_reducible exact Below.refl _ _ | with_reducible assumption | (with_reducible refine Below.trans ?_ (Below.mono (by assumption) (by first | omega | (simp <;> omega)))) | with_reducible apply Below.drew | with_reducible apply below_drewN | (with_reducible refine Below.alloc ?_ (by first | omega | (simp <;> omega)) _) | (with_reducible refine Below.setCell ?_ (by first | omega | (simp <;> omega)) _)))⟩

end Go.Proofs.Ythccdooacbablaa

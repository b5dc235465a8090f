/-
  Chapter 4: GreatestDen, VisitsOf of both.
-/
import Derived.Test.YtmkejopkmdcfeaaOc
namespace Go.Proofs.Ytmkejopkmdcfeaa
open Go.RowKit Rm

/-- The greatest denominator of the first k fractions. -/
def gdK (l : List Rat) : Nat → Int
  | 0 => 0
  | k + 1 => if gdK l k < ((l.getD k 0).den : Int) then ((l.getD k 0).den : Int) else gdK l k
def gdO (ps : List Pt) (a b m : Int) : Option Int := (orbO ps a b m).map fun l => gdK l l.length
theorem l1Most_val (a b : Int) (W : World) : Calls Try.prog 74 #[.int .i64 a, .int .i64 b] W fun e w' => e = .returned (.int .i64 (if a < b then b else a)) ∧ W = w' := by
  by_cases h : a > b
  · rw [if_neg (show ¬ a < b by omega)]
    go_enter Try.func74, Try.ntmps74
    go_wp2
    go_ret
    exact ⟨rfl, rfl⟩
  · by_cases h2 : a < b
    · rw [if_pos h2]
      go_enter Try.func74, Try.ntmps74
      go_wp2
      go_ret
      exact ⟨rfl, rfl⟩
    · obtain rfl : a = b := by omega
      rw [if_neg h2]
      go_enter Try.func74, Try.ntmps74
      go_wp2
      go_ret
      exact ⟨rfl, rfl⟩

set_option maxRecDepth 100000 in
set_option maxHeartbeats 1600000 in
theorem sGreatestDen_any (A : Option Addr) (n c base : Nat) (ps : List Pt) (a b m : Int) (w : World) (ha : w.ownsRow base 65 4 (.slice A n c) n (ptcs ps)) (hn : n ≤ 1048576) :
    Calls Try.prog 40 #[.slice A n c, .agg #[.int .i64 (a), .int .i64 (b)], .int .i64 m] w fun e w' => e = .returned (.tuple #[.int .i64 ((gdO ps a b m).getD 0), .bool (gdO ps a b m).isSome]) ∧ Below w.heap.size w w' := by
  rcases s_cases (a := a) (b := b) (m := m) ha hn with ⟨ho, hr, hask⟩ | ⟨qs, x, k, L, rfl, rfl, rfl, rfl, hk, hL1, hLk, ho, hr, hl, hask, hrun⟩ | ⟨qs, x, k, rfl, rfl, rfl, rfl, hk, hO, ho, hr, hask, hrun⟩
  · have HI := hide hask; have HA := hide ha
    rw [show gdO ps a b m = none by unfold gdO; rw [ho]; rfl]
    simp only [Option.getD_none, Option.isSome_none]
    clear hask ha ho hr
    go_enter Try.func40, Try.ntmps40
    go_wp2_with (go_at_call 62; (with_reducible refine ((unhide HI) _ (own_below (unhide HA) ?pb)).mono ?_); (case pb => exact (by repeat (first | with_reducible exact Below.refl _ _ | with_reducible assumption | (with_reducible refine Below.trans ?_ (Below.mono (by assumption) (by first | omega | (simp <;> omega)))) | with_reducible apply Below.drew | with_reducible apply below_drewN | (with_reducible refine Below.alloc ?_ (by first | omega | (simp <;> omega)) _) | (with_reducible refine Below.setCell ?_ (by first | omega | (simp <;> omega)) _)))); rintro e w1 ⟨rfl, hbw1⟩; have hs1 := hbw1.size; (skip; (try ((have kw1w0 := (bnew hbw1) (w.heap.size) ?pf); (case pf => (first | omega | (simp; done) | (simp; omega))); obtain ⟨kcw1w0, kfw1w0, klw1w0⟩ := kw1w0)); (try ((have kw1w1 := (bnew hbw1) (w.heap.size + 1) ?pf); (case pf => (first | omega | (simp; done) | (simp; omega))); obtain ⟨kcw1w1, kfw1w1, klw1w1⟩ := kw1w1))))
    go_ret2
    exact ⟨rfl, (by repeat (first | with_reducible exact Below.refl _ _ | with_reducible assumption | (with_reducible refine Below.trans ?_ (Below.mono (by assumption) (by first | omega | (simp <;> omega)))) | with_reducible apply Below.drew | with_reducible apply below_drewN | (with_reducible refine Below.alloc ?_ (by first | omega | (simp <;> omega)) _) | (with_reducible refine Below.setCell ?_ (by first | omega | (simp <;> omega)) _)))⟩
  · have HI := hide hask; have HA := hide ha; have HR := hide hrun
    rw [show gdO (qs.map qp) x.num x.den k = none by unfold gdO; rw [ho]; rfl]
    simp only [Option.getD_none, Option.isSome_none]
    clear hask ha ho hr hl hrun
    generalize x.num = xn at *
    generalize (x.den : Int) = xd at *
    go_enter Try.func40, Try.ntmps40
    go_wp2_with (first
      | (go_at_call 62; (with_reducible refine ((unhide HI) _ (own_below (unhide HA) ?pb)).mono ?_); (case pb => exact (by repeat (first | with_reducible exact Below.refl _ _ | with_reducible assumption | (with_reducible refine Below.trans ?_ (Below.mono (by assumption) (by first | omega | (simp <;> omega)))) | with_reducible apply Below.drew | with_reducible apply below_drewN | (with_reducible refine Below.alloc ?_ (by first | omega | (simp <;> omega)) _) | (with_reducible refine Below.setCell ?_ (by first | omega | (simp <;> omega)) _)))); rintro e w1 ⟨rfl, hbw1⟩; have hs1 := hbw1.size; (skip; (try ((have kw1w0 := (bnew hbw1) (w.heap.size) ?pf); (case pf => (first | omega | (simp; done) | (simp; omega))); obtain ⟨kcw1w0, kfw1w0, klw1w0⟩ := kw1w0)); (try ((have kw1w1 := (bnew hbw1) (w.heap.size + 1) ?pf); (case pf => (first | omega | (simp; done) | (simp; omega))); obtain ⟨kcw1w1, kfw1w1, klw1w1⟩ := kw1w1))))
      | (go_at_call 63; (with_reducible refine ((unhide HR) _ (own_below (unhide HA) ?pb)).mono ?_); (case pb => exact (by repeat (first | with_reducible exact Below.refl _ _ | with_reducible assumption | (with_reducible refine Below.trans ?_ (Below.mono (by assumption) (by first | omega | (simp <;> omega)))) | with_reducible apply Below.drew | with_reducible apply below_drewN | (with_reducible refine Below.alloc ?_ (by first | omega | (simp <;> omega)) _) | (with_reducible refine Below.setCell ?_ (by first | omega | (simp <;> omega)) _)))); rintro e w2 ⟨gs, d, rfl, hbw2⟩; have hs2 := hbw2.size; (skip; (try ((have kw2w0 := (bnew hbw2) (w.heap.size) ?pf); (case pf => (first | omega | (simp; done) | (simp; omega))); obtain ⟨kcw2w0, kfw2w0, klw2w0⟩ := kw2w0)); (try ((have kw2w1 := (bnew hbw2) (w.heap.size + 1) ?pf); (case pf => (first | omega | (simp; done) | (simp; omega))); obtain ⟨kcw2w1, kfw2w1, klw2w1⟩ := kw2w1)))))
    go_ret2
    exact ⟨rfl, (by repeat (first | with_reducible exact Below.refl _ _ | with_reducible assumption | (with_reducible refine Below.trans ?_ (Below.mono (by assumption) (by first | omega | (simp <;> omega)))) | with_reducible apply Below.drew | with_reducible apply below_drewN | (with_reducible refine Below.alloc ?_ (by first | omega | (simp <;> omega)) _) | (with_reducible refine Below.setCell ?_ (by first | omega | (simp <;> omega)) _)))⟩
  · have HI := hide hask; have HA := hide ha; have HR := hide hrun
    rw [show gdO (qs.map qp) x.num x.den k = some (gdK (run qs k x) (k + 1)) by unfold gdO; rw [ho]; simp only [Option.map_some, hO.len]]
    simp only [Option.getD_some, Option.isSome_some]
    clear hask ha ho hr hrun
    generalize x.num = xn at *
    generalize (x.den : Int) = xd at *
    go_enter Try.func40, Try.ntmps40
    go_wp2_with (first
      | (go_at_call 62; (with_reducible refine ((unhide HI) _ (own_below (unhide HA) ?pb)).mono ?_); (case pb => exact (by repeat (first | with_reducible exact Below.refl _ _ | with_reducible assumption | (with_reducible refine Below.trans ?_ (Below.mono (by assumption) (by first | omega | (simp <;> omega)))) | with_reducible apply Below.drew | with_reducible apply below_drewN | (with_reducible refine Below.alloc ?_ (by first | omega | (simp <;> omega)) _) | (with_reducible refine Below.setCell ?_ (by first | omega | (simp <;> omega)) _)))); rintro e w1 ⟨rfl, hbw1⟩; have hs1 := hbw1.size; (skip; (try ((have kw1w0 := (bnew hbw1) (w.heap.size) ?pf); (case pf => (first | omega | (simp; done) | (simp; omega))); obtain ⟨kcw1w0, kfw1w0, klw1w0⟩ := kw1w0)); (try ((have kw1w1 := (bnew hbw1) (w.heap.size + 1) ?pf); (case pf => (first | omega | (simp; done) | (simp; omega))); obtain ⟨kcw1w1, kfw1w1, klw1w1⟩ := kw1w1))))
      | (go_at_call 63; (with_reducible refine ((unhide HR) _ (own_below (unhide HA) ?pb)).mono ?_); (case pb => exact (by repeat (first | with_reducible exact Below.refl _ _ | with_reducible assumption | (with_reducible refine Below.trans ?_ (Below.mono (by assumption) (by first | omega | (simp <;> omega)))) | with_reducible apply Below.drew | with_reducible apply below_drewN | (with_reducible refine Below.alloc ?_ (by first | omega | (simp <;> omega)) _) | (with_reducible refine Below.setCell ?_ (by first | omega | (simp <;> omega)) _)))); rintro e w2 ⟨gs, d, rfl, hown, hbw2⟩; have hs2 := hbw2.size; have hbA : Below w.heap.size w w2 := (by repeat (first | with_reducible exact Below.refl _ _ | with_reducible assumption | (with_reducible refine Below.trans ?_ (Below.mono (by assumption) (by first | omega | (simp <;> omega)))) | with_reducible apply Below.drew | with_reducible apply below_drewN | (with_reducible refine Below.alloc ?_ (by first | omega | (simp <;> omega)) _) | (with_reducible refine Below.setCell ?_ (by first | omega | (simp <;> omega)) _))); have HOW := hide hown; clear hown))
    have hsA := hbA.size
    have HBA := hide hbA
    clear hbA hbw1 hbw2
    go_loopw [9, 27] (fun v i wr => ∃ j : Nat, i = .int .i64 j ∧ v = .int .i64 (gdK (run qs k x) j) ∧ j ≤ k + 1 ∧ Below w2.heap.size w2 wr) (fun _ i _ => k + 1 - (intOf i).toNat)
    case atStart => exact ⟨0, rfl, rfl, by omega, Below.refl _ _⟩
    case round =>
      obtain ⟨j, rfl, rfl, hj, hbwr⟩ := hrel
      have hzwr := hbwr.size
      by_cases hlt : j < k + 1
      · obtain ⟨hgs, f0, f1⟩ := orb_cell hO (own_below (unhide HOW) hbwr) hlt
        have hst : gdK (run qs k x) (j + 1) = if gdK (run qs k x) j < (((run qs k x).getD j 0).den : Int) then (((run qs k x).getD j 0).den : Int) else gdK (run qs k x) j := rfl
        have HST := Lib.hid hst
        have HB := hide hbwr
        clear hst hbwr
        generalize ((run qs k x).getD j 0).num = yn at *
        generalize (((run qs k x).getD j 0).den : Int) = yd at *
        generalize gdK (run qs k x) j = cur at *
        go_wp2_with (go_at_call 74; (with_reducible refine (l1Most_val cur yd _).mono ?_); rintro e w' ⟨rfl, rfl⟩)
        have hb := unhide HB
        go_roundw
        case rel => exact ⟨j + 1, by go_num, by rw [HST.out], by omega, (by repeat (first | with_reducible exact Below.refl _ _ | with_reducible assumption | (with_reducible refine Below.trans ?_ (Below.mono (by assumption) (by first | omega | (simp <;> omega)))) | with_reducible apply Below.drew | with_reducible apply below_drewN | (with_reducible refine Below.alloc ?_ (by first | omega | (simp <;> omega)) _) | (with_reducible refine Below.setCell ?_ (by first | omega | (simp <;> omega)) _)))⟩
        case measure => simp [intOf]; omega
      · obtain rfl : j = k + 1 := by omega
        have HB := hide hbwr
        clear hbwr
        go_wp2
        have hb := unhide HB
        have hbA := unhide HBA
        go_ret2
        exact ⟨rfl, (by repeat (first | with_reducible exact Below.refl _ _ | with_reducible assumption | (with_reducible refine Below.trans ?_ (Below.mono (by assumption) (by first | omega | (simp <;> omega)))) | with_reducible apply Below.drew | with_reducible apply below_drewN | (with_reducible refine Below.alloc ?_ (by first | omega | (simp <;> omega)) _) | (with_reducible refine Below.setCell ?_ (by first | omega | (simp <;> omega)) _)))⟩

set_option maxRecDepth 100000 in
set_option maxHeartbeats 1600000 in
theorem iGreatestDen_any (A : Option Addr) (n c base : Nat) (ps : List Pt) (a b m : Int) (w : World) (ha : w.ownsRow base 65 4 (.slice A n c) n (ptcs ps)) (hn : n ≤ 1048576) :
    Calls Try.prog 41 #[.slice A n c, .agg #[.int .i64 (a), .int .i64 (b)], .int .i64 m] w fun e w' => e = .returned (.tuple #[.int .i64 ((gdO ps a b m).getD 0), .bool (gdO ps a b m).isSome]) ∧ Below w.heap.size w w' := by
  rcases i_cases (A := A) (n := n) (c := c) (base := base) (ps := ps) (a := a) (b := b) (m := m) hn with ⟨ho, hno⟩ | ⟨qs, x, k, rfl, rfl, rfl, rfl, hk, hO, ho, hrun⟩
  · have HI := hide hno; have HA := hide ha
    rw [show gdO ps a b m = none by unfold gdO; rw [ho]; rfl]
    simp only [Option.getD_none, Option.isSome_none]
    clear hno ha ho
    go_enter Try.func41, Try.ntmps41
    go_wp2_with (go_at_call 25; (with_reducible refine ((unhide HI) _ (own_below (unhide HA) ?pb)).mono ?_); (case pb => exact (by repeat (first | with_reducible exact Below.refl _ _ | with_reducible assumption | (with_reducible refine Below.trans ?_ (Below.mono (by assumption) (by first | omega | (simp <;> omega)))) | with_reducible apply Below.drew | with_reducible apply below_drewN | (with_reducible refine Below.alloc ?_ (by first | omega | (simp <;> omega)) _) | (with_reducible refine Below.setCell ?_ (by first | omega | (simp <;> omega)) _)))); rintro e w1 ⟨B1, d1, rfl, hbw1⟩; have hs1 := hbw1.size; (skip; (try ((have kw1w0 := (bnew hbw1) (w.heap.size) ?pf); (case pf => (first | omega | (simp; done) | (simp; omega))); obtain ⟨kcw1w0, kfw1w0, klw1w0⟩ := kw1w0)); (try ((have kw1w1 := (bnew hbw1) (w.heap.size + 1) ?pf); (case pf => (first | omega | (simp; done) | (simp; omega))); obtain ⟨kcw1w1, kfw1w1, klw1w1⟩ := kw1w1))))
    go_ret2
    exact ⟨rfl, (by repeat (first | with_reducible exact Below.refl _ _ | with_reducible assumption | (with_reducible refine Below.trans ?_ (Below.mono (by assumption) (by first | omega | (simp <;> omega)))) | with_reducible apply Below.drew | with_reducible apply below_drewN | (with_reducible refine Below.alloc ?_ (by first | omega | (simp <;> omega)) _) | (with_reducible refine Below.setCell ?_ (by first | omega | (simp <;> omega)) _)))⟩
  · have HI := hide hrun; have HA := hide ha
    rw [show gdO (qs.map qp) x.num x.den k = some (gdK (run qs k x) (k + 1)) by unfold gdO; rw [ho]; simp only [Option.map_some, hO.len]]
    simp only [Option.getD_some, Option.isSome_some]
    clear hrun ha ho
    generalize x.num = xn at *
    generalize (x.den : Int) = xd at *
    go_enter Try.func41, Try.ntmps41
    go_wp2_with (go_at_call 25; (with_reducible refine ((unhide HI) _ (own_below (unhide HA) ?pb)).mono ?_); (case pb => exact (by repeat (first | with_reducible exact Below.refl _ _ | with_reducible assumption | (with_reducible refine Below.trans ?_ (Below.mono (by assumption) (by first | omega | (simp <;> omega)))) | with_reducible apply Below.drew | with_reducible apply below_drewN | (with_reducible refine Below.alloc ?_ (by first | omega | (simp <;> omega)) _) | (with_reducible refine Below.setCell ?_ (by first | omega | (simp <;> omega)) _)))); rintro e w2 ⟨gs, d, rfl, hown, hbw2⟩; have hs2 := hbw2.size; have hbA : Below w.heap.size w w2 := (by repeat (first | with_reducible exact Below.refl _ _ | with_reducible assumption | (with_reducible refine Below.trans ?_ (Below.mono (by assumption) (by first | omega | (simp <;> omega)))) | with_reducible apply Below.drew | with_reducible apply below_drewN | (with_reducible refine Below.alloc ?_ (by first | omega | (simp <;> omega)) _) | (with_reducible refine Below.setCell ?_ (by first | omega | (simp <;> omega)) _))); have HOW := hide hown; clear hown)
    have hsA := hbA.size
    have HBA := hide hbA
    clear hbA hbw2
    go_loopw [10, 24] (fun v i wr => ∃ j : Nat, i = .int .i64 j ∧ v = .int .i64 (gdK (run qs k x) j) ∧ j ≤ k + 1 ∧ Below w2.heap.size w2 wr) (fun _ i _ => k + 1 - (intOf i).toNat)
    case atStart => exact ⟨0, rfl, rfl, by omega, Below.refl _ _⟩
    case round =>
      obtain ⟨j, rfl, rfl, hj, hbwr⟩ := hrel
      have hzwr := hbwr.size
      by_cases hlt : j < k + 1
      · obtain ⟨hgs, f0, f1⟩ := orb_cell hO (own_below (unhide HOW) hbwr) hlt
        have hst : gdK (run qs k x) (j + 1) = if gdK (run qs k x) j < (((run qs k x).getD j 0).den : Int) then (((run qs k x).getD j 0).den : Int) else gdK (run qs k x) j := rfl
        have HST := Lib.hid hst
        have HB := hide hbwr
        clear hst hbwr
        generalize ((run qs k x).getD j 0).num = yn at *
        generalize (((run qs k x).getD j 0).den : Int) = yd at *
        generalize gdK (run qs k x) j = cur at *
        by_cases hc : cur < yd
        · rw [if_pos hc] at HST
          go_wp2
          have hb := unhide HB
          go_roundw
          case rel => exact ⟨j + 1, by go_num, by rw [HST.out], by omega, (by repeat (first | with_reducible exact Below.refl _ _ | with_reducible assumption | (with_reducible refine Below.trans ?_ (Below.mono (by assumption) (by first | omega | (simp <;> omega)))) | with_reducible apply Below.drew | with_reducible apply below_drewN | (with_reducible refine Below.alloc ?_ (by first | omega | (simp <;> omega)) _) | (with_reducible refine Below.setCell ?_ (by first | omega | (simp <;> omega)) _)))⟩
          case measure => simp [intOf]; omega
        · rw [if_neg hc] at HST
          go_wp2
          have hb := unhide HB
          go_roundw
          case rel => exact ⟨j + 1, by go_num, by rw [HST.out], by omega, (by repeat (first | with_reducible exact Below.refl _ _ | with_reducible assumption | (with_reducible refine Below.trans ?_ (Below.mono (by assumption) (by first | omega | (simp <;> omega)))) | with_reducible apply Below.drew | with_reducible apply below_drewN | (with_reducible refine Below.alloc ?_ (by first | omega | (simp <;> omega)) _) | (with_reducible refine Below.setCell ?_ (by first | omega | (simp <;> omega)) _)))⟩
          case measure => simp [intOf]; omega
      · obtain rfl : j = k + 1 := by omega
        have HB := hide hbwr
        clear hbwr
        go_wp2
        have hb := unhide HB
        have hbA := unhide HBA
        go_ret2
        exact ⟨rfl, (by repeat (first | with_reducible exact Below.refl _ _ | with_reducible assumption | (with_reducible refine Below.trans ?_ (Below.mono (by assumption) (by first | omega | (simp <;> omega)))) | with_reducible apply Below.drew | with_reducible apply below_drewN | (with_reducible refine Below.alloc ?_ (by first | omega | (simp <;> omega)) _) | (with_reducible refine Below.setCell ?_ (by first | omega | (simp <;> omega)) _)))⟩
end Go.Proofs.Ytmkejopkmdcfeaa

/-
  Chapter 4: IterateMap, StepsInSize, GreatestDen of both.
-/
import Derived.Test.YtmkejopkmdcfeaaOa
namespace Go.Proofs.Ytmkejopkmdcfeaa
open Go.RowKit Rm

/-- The fraction behind all steps. -/
def itO (ps : List Pt) (a b m : Int) : Option Rat := (orbO ps a b m).map fun l => l.getD m.toNat 0
/-- The number of steps that can be computed. -/
def stO (ps : List Pt) (a b m : Int) : Option Int := (runO ps a b m).map fun l => ((l.length - 1 : Nat) : Int)

/-- A call of OrbitOf that gives a whole orbit, or none. -/
theorem iOrb_some {A : Option Addr} {n c base : Nat} {qs : List QP} {x : Rat} {k : Nat} (hn : n ≤ 1048576) (hO : Orb qs x k (run qs k x)) (ho : orbO (qs.map qp) x.num x.den k = some (run qs k x)) :
    ∀ W : World, W.ownsRow base 65 4 (.slice A n c) n (ptcs (qs.map qp)) → Calls Try.prog 25 #[.slice A n c, .agg #[.int .i64 (x.num), .int .i64 (x.den)], .int .i64 k] W fun e w' => ∃ gs d : Nat,
      e = .returned (.tuple #[.slice (some ⟨gs, 0, none⟩) (k + 1) d, .bool true]) ∧ w'.ownsRow W.heap.size 26 2 (.slice (some ⟨gs, 0, none⟩) (k + 1) d) (k + 1) (frcs ((run qs k x).map qf)) ∧ Below W.heap.size W w' := by
  intro W hW
  refine (iOrbitOf_any A n c base (qs.map qp) x.num x.den k W hW hn).mono ?_
  rintro e w' ⟨⟨A1, d, he, hown⟩, hb⟩
  rw [ho] at he hown
  simp only [Option.getD_some, Option.isSome_some, List.length_map, hO.len] at he hown
  obtain ⟨gs, rfl⟩ := own_form hown (by omega)
  exact ⟨gs, d, he, hown, hb⟩
theorem iOrb_none {A : Option Addr} {n c base : Nat} {ps : List Pt} {a b m : Int} (hn : n ≤ 1048576) (ho : orbO ps a b m = none) :
    ∀ W : World, W.ownsRow base 65 4 (.slice A n c) n (ptcs ps) → Calls Try.prog 25 #[.slice A n c, .agg #[.int .i64 (a), .int .i64 (b)], .int .i64 m] W fun e w' => ∃ (B : Option Addr) (d : Nat),
      e = .returned (.tuple #[.slice B 0 d, .bool false]) ∧ Below W.heap.size W w' := by
  intro W hW
  refine (iOrbitOf_any A n c base ps a b m W hW hn).mono ?_
  rintro e w' ⟨⟨A1, d, he, hown⟩, hb⟩
  rw [ho] at he
  exact ⟨A1, d, he, hb⟩
theorem orb_cell {w : World} {base gs k d : Nat} {qs : List QP} {x : Rat} {i : Nat} (hO : Orb qs x k (run qs k x)) (h : w.ownsRow base 26 2 (.slice (some ⟨gs, 0, none⟩) (k + 1) d) (k + 1) (frcs ((run qs k x).map qf))) (hi : i < k + 1) :
    gs < w.heap.size ∧ w.cell? ⟨gs, i * 2, none⟩ = some (.int .i64 ((run qs k x).getD i 0).num) ∧ w.cell? ⟨gs, i * 2 + 1, none⟩ = some (.int .i64 ((run qs k x).getD i 0).den) := by
  obtain ⟨g, hA, hg, _, h0, h1⟩ := frs_cells h hi (qAtR _ _ (by rw [hO.len]; exact hi))
  obtain rfl : gs = g := (Addr.mk.inj (Option.some.inj hA)).1
  exact ⟨hg, h0, h1⟩

set_option maxRecDepth 100000 in
set_option maxHeartbeats 1600000 in
theorem iIterateMap_any (A : Option Addr) (n c base : Nat) (ps : List Pt) (a b m : Int) (w : World) (ha : w.ownsRow base 65 4 (.slice A n c) n (ptcs ps)) (hn : n ≤ 1048576) :
    Calls Try.prog 23 #[.slice A n c, .agg #[.int .i64 (a), .int .i64 (b)], .int .i64 m] w fun e w' => e = .returned (.tuple #[.agg #[.int .i64 (oN (itO ps a b m)), .int .i64 (oD (itO ps a b m))], .bool (itO ps a b m).isSome]) ∧ Below w.heap.size w w' := by
  have hno : orbO ps a b m = none → _ := fun h => iOrb_none (A := A) (n := n) (c := c) (base := base) hn h
  have key : orbO ps a b m = none ∨ ∃ (qs : List QP) (x : Rat) (k : Nat), ps = qs.map qp ∧ a = x.num ∧ b = (x.den : Int) ∧ m = k ∧ Orb qs x k (run qs k x) ∧ orbO ps a b m = some (run qs k x) := by
    rcases orb_cases ps a b m with ⟨h1, h2, h3⟩ | ⟨qs, x, k, rfl, hg, rfl, rfl, hx, rfl, hk, hr, _, ⟨hl1, hl, ho⟩ | ⟨hO, ho⟩⟩
    · exact .inl h3
    · exact .inl ho
    · exact .inr ⟨qs, x, k, rfl, rfl, rfl, rfl, hO, ho⟩
  rcases key with ho | ⟨qs, x, k, rfl, rfl, rfl, rfl, hO, ho⟩
  · have HI := hide (hno ho); have HA := hide ha
    rw [show itO ps a b m = none by unfold itO; rw [ho]; rfl]
    simp only [oN_none, oD_none, Option.isSome_none]
    clear hno ha ho
    go_enter Try.func23, Try.ntmps23
    go_wp2_with (go_at_call 25; (with_reducible refine ((unhide HI) _ (own_below (unhide HA) ?pb)).mono ?_); (case pb => exact (by repeat (first | with_reducible exact Below.refl _ _ | with_reducible assumption | (with_reducible refine Below.trans ?_ (Below.mono (by assumption) (by first | omega | (simp <;> omega)))) | with_reducible apply Below.drew | with_reducible apply below_drewN | (with_reducible refine Below.alloc ?_ (by first | omega | (simp <;> omega)) _) | (with_reducible refine Below.setCell ?_ (by first | omega | (simp <;> omega)) _)))); rintro e w1 ⟨A1, d1, rfl, hbw1⟩; (skip; (try ((have kw1w0 := (bnew hbw1) (w.heap.size) ?pf); (case pf => (first | omega | (simp; done) | (simp; omega))); obtain ⟨kcw1w0, kfw1w0, klw1w0⟩ := kw1w0)); (try ((have kw1w1 := (bnew hbw1) (w.heap.size + 1) ?pf); (case pf => (first | omega | (simp; done) | (simp; omega))); obtain ⟨kcw1w1, kfw1w1, klw1w1⟩ := kw1w1))))
    exact bodyPost_ret (v := .tuple #[.agg #[.int .i64 (0), .int .i64 (0)], .bool false]) (by simp [results, Try.results23, go_sem, *]) rfl ⟨rfl, (by repeat (first | with_reducible exact Below.refl _ _ | with_reducible assumption | (with_reducible refine Below.trans ?_ (Below.mono (by assumption) (by first | omega | (simp <;> omega)))) | with_reducible apply Below.drew | with_reducible apply below_drewN | (with_reducible refine Below.alloc ?_ (by first | omega | (simp <;> omega)) _) | (with_reducible refine Below.setCell ?_ (by first | omega | (simp <;> omega)) _)))⟩
  · have HI := hide (iOrb_some (A := A) (n := n) (c := c) (base := base) hn hO ho); have HA := hide ha
    rw [show itO (qs.map qp) x.num x.den k = some ((run qs k x).getD k 0) by unfold itO; rw [ho]; rfl]
    simp only [oN_some, oD_some, Option.isSome_some]
    clear hno ha ho
    obtain ⟨yn, hyn⟩ : ∃ r, r = ((run qs k x).getD k 0).num := ⟨_, rfl⟩
    obtain ⟨yd, hyd⟩ : ∃ r, r = (((run qs k x).getD k 0).den : Int) := ⟨_, rfl⟩
    rw [← hyn, ← hyd]
    have HY := Lib.hid (And.intro hyn hyd)
    clear hyn hyd
    generalize x.num = xn at *
    generalize (x.den : Int) = xd at *
    have s4 : (k : Int) < (k : Int) + 1 := by omega
    go_enter Try.func23, Try.ntmps23
    go_wp2_with (go_at_call 25; (with_reducible refine ((unhide HI) _ (own_below (unhide HA) ?pb)).mono ?_); (case pb => exact (by repeat (first | with_reducible exact Below.refl _ _ | with_reducible assumption | (with_reducible refine Below.trans ?_ (Below.mono (by assumption) (by first | omega | (simp <;> omega)))) | with_reducible apply Below.drew | with_reducible apply below_drewN | (with_reducible refine Below.alloc ?_ (by first | omega | (simp <;> omega)) _) | (with_reducible refine Below.setCell ?_ (by first | omega | (simp <;> omega)) _)))); rintro e w1 ⟨gs, d1, rfl, hown, hbw1⟩; (skip; (try ((have kw1w0 := (bnew hbw1) (w.heap.size) ?pf); (case pf => (first | omega | (simp; done) | (simp; omega))); obtain ⟨kcw1w0, kfw1w0, klw1w0⟩ := kw1w0)); (try ((have kw1w1 := (bnew hbw1) (w.heap.size + 1) ?pf); (case pf => (first | omega | (simp; done) | (simp; omega))); obtain ⟨kcw1w1, kfw1w1, klw1w1⟩ := kw1w1))); obtain ⟨hgs, f0, f1⟩ := orb_cell hO hown (show k < k + 1 by omega); rw [← HY.out.1] at f0; rw [← HY.out.2] at f1; clear hown)
    exact bodyPost_ret (v := .tuple #[.agg #[.int .i64 (yn), .int .i64 (yd)], .bool true]) (by simp [results, Try.results23, go_sem, *]) rfl ⟨rfl, (by repeat (first | with_reducible exact Below.refl _ _ | with_reducible assumption | (with_reducible refine Below.trans ?_ (Below.mono (by assumption) (by first | omega | (simp <;> omega)))) | with_reducible apply Below.drew | with_reducible apply below_drewN | (with_reducible refine Below.alloc ?_ (by first | omega | (simp <;> omega)) _) | (with_reducible refine Below.setCell ?_ (by first | omega | (simp <;> omega)) _)))⟩
end Go.Proofs.Ytmkejopkmdcfeaa

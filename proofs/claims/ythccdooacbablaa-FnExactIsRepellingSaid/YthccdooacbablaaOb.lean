/-
  Chapter 4: IterateMap, StepsInSize, GreatestDen of both.
-/
import Derived.Test.YthccdooacbablaaOa
namespace Go.Proofs.Ythccdooacbablaa
open Go.RowKit Rm

/-- The fraction behind all steps. -/
def itO (ps : List Pt) (a b m : Int) : Option Rat := (orbO ps a b m).map fun l => l.getD m.toNat 0
/-- The number of steps that can be computed. -/
def stO (ps : List Pt) (a b m : Int) : Option Int := (runO ps a b m).map fun l => ((l.length - 1 : Nat) : Int)

/-- A call of OrbitOf that gives a whole orbit, or none. -/
theorem iOrb_some {A : Option Addr} {n c base : Nat} {qs : List QP} {x : Rat} {k : Nat} (hn : n ≤ 1048576) (hO : Orb qs x k (run qs k x)) (ho : orbO (qs.map qp) x.num x.den k = some (run qs k x)) :
    ∀ W : World, W.ownsRow base 62 4 (.slice A n c) n (ptcs (qs.map qp)) → Calls Try.prog 96 #[.slice A n c, .agg #[.int .i64 (x.num), .int .i64 (x.den)], .int .i64 k] W fun e w' => ∃ gs d : Nat,
      e = .returned (.tuple #[.slice (some ⟨gs, 0, none⟩) (k + 1) d, .bool true]) ∧ w'.ownsRow W.heap.size 26 2 (.slice (some ⟨gs, 0, none⟩) (k + 1) d) (k + 1) (frcs ((run qs k x).map qf)) ∧ Below W.heap.size W w' := by
  intro W hW
  refine (iOrbitOf_any A n c base (qs.map qp) x.num x.den k W hW hn).mono ?_
  rintro e w' ⟨⟨A1, d, he, hown⟩, hb⟩
  rw [ho] at he hown
  simp only [Option.getD_some, Option.isSome_some, List.length_map, hO.len] at he hown
  obtain ⟨gs, rfl⟩ := own_form0 hown (by omega)
  exact ⟨gs, d, he, hown, hb⟩
theorem iOrb_none {A : Option Addr} {n c base : Nat} {ps : List Pt} {a b m : Int} (hn : n ≤ 1048576) (ho : orbO ps a b m = none) :
    ∀ W : World, W.ownsRow base 62 4 (.slice A n c) n (ptcs ps) → Calls Try.prog 96 #[.slice A n c, .agg #[.int .i64 (a), .int .i64 (b)], .int .i64 m] W fun e w' => ∃ (B : Option Addr) (d : Nat),
      e = .returned (.tuple #[.slice B 0 d, .bool false]) ∧ Below W.heap.size W w' := by
  intro W hW
  refine (iOrbitOf_any A n c base ps a b m W hW hn).mono ?_
  rintro e w' ⟨⟨A1, d, he, hown⟩, hb⟩
  rw [ho] at he
  exact ⟨A1, d, he, hb⟩
theorem orb_cell {w : World} {base gs k d : Nat} {qs : List QP} {x : Rat} {i : Nat} (hO : Orb qs x k (run qs k x)) (h : w.ownsRow base 26 2 (.slice (some ⟨gs, 0, none⟩) (k + 1) d) (k + 1) (frcs ((run qs k x).map qf))) (hi : i < k + 1) :
    gs < w.heap.size ∧ w.cell? ⟨gs, i * 2, none⟩ = some (.int .i64 ((run qs k x).getD i 0).num) ∧ w.cell? ⟨gs, i * 2 + 1, none⟩ = some (.int .i64 ((run qs k x).getD i 0).den) := by
  obtain ⟨g, hA, hg, _, h0, h1⟩ := frs_cells h hi (qAtR _ _ (by rw [hO.len]; exact hi))
  obtain rfl : gs = g := (Addr.mk.inj (Option.some.inj hA)).1
  exact ⟨hg, h0, h1⟩

end Go.Proofs.Ythccdooacbablaa

/-
  Chapter 6: CompareWords of the program.
-/
import Derived.Test.YtjggjegjhcpjhaaWx
namespace Go.Proofs.Ytjggjegjhcpjhaa
open Go.RowKit Rm

theorem mapM_some {α β : Type} {f : α → Option β} {g : α → β} : ∀ {l : List α}, (∀ x ∈ l, f x = some (g x)) → l.mapM f = some (l.map g)
  | [], _ => rfl
  | x :: l, h => by
    rw [List.mapM_cons, h x (by simp), mapM_some fun y hy => h y (by simp [hy])]
    rfl
theorem flat_one {α β : Type} (g : α → β) : ∀ l : List α, (l.map fun x => [g x]).flatten = l.map g
  | [] => rfl
  | x :: l => by simp [flat_one g l]
theorem arL_part (r : List Int) {i : Nat} (h : i < 20) : ((arL r).drop (i * 1)).take 1 = [Value.int .i64 (arF r i)] := by
  have hl : i < (arL r).length := by simp [arL, h]
  rw [Nat.mul_one, List.drop_eq_getElem_cons hl]
  simp [arL]
theorem arr_lits (r : List Int) (hr : ∀ k, k < 20 → -1 ≤ arF r k ∧ arF r k ≤ 1000) : Try.prog.keyLits 2 93 (arA r).toList = some ((List.range 20).map fun i => Lit.int .i64 (arF r i)) := by
  have hu : Try.prog.underlying 93 = some (.array 20 3) := Try.underlying93
  have hc : Try.prog.cellsOf 93 = 20 := by kernel_rfl
  have hc1 : Try.prog.cellsOf 3 = 1 := by kernel_rfl
  have hone : ∀ i ∈ List.range 20, Try.prog.keyLits 1 3 ((((arA r).toList).drop (i * 1)).take 1) = some [Lit.int .i64 (arF r i)] := fun i hi => by
    have hi' := List.mem_range.1 hi
    rw [show (arA r).toList = arL r by simp [arA], arL_part r hi']
    have := hr i hi'
    have hw : (Lit.int .i64 (arF r i)).wf = true := WalkArith.wf_i64 (by omega)
    have hui : Try.prog.underlying 3 = some (.int .i64) := Try.underlying3
    unfold Program.keyLits
    rw [hui]
    simp only
    rw [if_pos ⟨trivial, hw⟩]
  unfold Program.keyLits
  rw [hu]
  simp only
  rw [if_pos (by rw [hc]; simp [arA, arL]), hc1, mapM_some hone]
  show some _ = _
  rw [flat_one]
theorem equal_arr (a b : List Int) (ha : ∀ k, k < 20 → -1 ≤ arF a k ∧ arF a k ≤ 1000) (hb : ∀ k, k < 20 → -1 ≤ arF b k ∧ arF b k ≤ 1000) (W : World) :
    ∃ z : Bool, (Op.equalIn 10000 93 (.agg (arA a)) (.agg (arA b))).run Try.prog W = .ok z W ∧ (z = true ↔ ∀ k, k < 20 → arF a k = arF b k) := by
  have hf : ∀ r : List Int, (Value.agg (arA r)).formed Try.prog 93 = true := fun r => by
    have hu : Try.prog.underlying 93 = some (.array 20 3) := Try.underlying93
    have hc : Try.prog.cellsOf 93 = 20 := by kernel_rfl
    unfold Value.formed
    rw [hu]
    simp only
    rw [hc, arA_size]
    rfl
  obtain ⟨z, h1, h2⟩ := run_equalIn_deep (P := Try.prog) 9998 2 93 (by kernel_rfl) W 2 2 _ _ _ _ (hf a) (hf b) (arr_lits a ha) (arr_lits b hb)
  refine ⟨z, h1, h2.trans ⟨fun h k hk => ?_, fun h => ?_⟩⟩
  · have h3 := congrArg (fun l => l[k]?) h
    simp [hk] at h3
    exact h3
  · exact List.map_congr_left fun k hk => by rw [h k (List.mem_range.1 hk)]
end Go.Proofs.Ytjggjegjhcpjhaa

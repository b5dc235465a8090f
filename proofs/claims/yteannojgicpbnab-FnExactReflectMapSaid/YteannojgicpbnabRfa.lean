/-
  Chapter 2: ReflectMap: what both return, at any argument.
-/
import Derived.Test.YteannojgicpbnabRfc
import Derived.Test.YteannojgicpbnabSima
namespace Go.Proofs.Yteannojgicpbnab
open Go.RowKit Rm

set_option maxRecDepth 100000 in
theorem iReflectMap_any (A : Option Addr) (n c base : Nat) (ps : List Pt) (w : World) (ha : w.ownsRow base 45 4 (.slice A n c) n (ptcs ps)) (hn : n ≤ 1048576) :
    Calls Try.prog 19 #[.slice A n c] w fun e w' => GivesP w.heap.size (rmF ps) (mapB ps) e w' ∧ Below w.heap.size w w' := by
  rcases hm : mapB ps with _ | _
  · have hmap := isMap_any A n c base ps w ha hn
    rw [hm] at hmap
    rw [rmF_no hm]
    have HM := hide hmap; clear hmap hm ha
    go_enter Try.func19, Try.ntmps19
    go_wp2_with (go_at_call 24; (with_reducible refine (unhide HM).mono ?_); rintro e w1 ⟨rfl, hbw1⟩)
    go_ret2
    exact ⟨⟨none, 0, rfl, World.ownsRow_nil _ _ _ _⟩, hbw1⟩
  · obtain ⟨g, m, qs, rfl, rfl, rfl, hg, hlen⟩ := own_form ha hm
    refine (iReflect_map g m c base qs w ha hg hm hn).mono ?_
    rintro e w1 ⟨v, rfl, ho, hb⟩
    rw [rmF_map hg, hlen, Nat.add_sub_cancel]
    obtain ⟨B, d, rfl⟩ := own_slice ho
    refine ⟨⟨B, d, by rw [rfD_len], ?_⟩, hb⟩
    rw [rfD_len]
    exact ho
set_option maxRecDepth 100000 in
theorem sReflectMap_any (A : Option Addr) (n c base : Nat) (ps : List Pt) (w : World) (ha : w.ownsRow base 45 4 (.slice A n c) n (ptcs ps)) (hn : n ≤ 1048576) :
    Calls Try.prog 18 #[.slice A n c] w fun e w' => GivesP w.heap.size (rmF ps) (mapB ps) e w' ∧ Below w.heap.size w w' := by
  rcases hm : mapB ps with _ | _
  · have hmap := imGood_any A n c base ps w ha hn
    rw [hm] at hmap
    rw [rmF_no hm]
    have HM := hide hmap; clear hmap hm ha
    go_enter Try.func18, Try.ntmps18
    go_wp2_with (go_at_call 21; (with_reducible refine (unhide HM).mono ?_); rintro e w1 ⟨rfl, hbw1⟩)
    go_ret2
    exact ⟨⟨none, 0, rfl, World.ownsRow_nil _ _ _ _⟩, hbw1⟩
  · obtain ⟨g, m, qs, rfl, rfl, rfl, hg, hlen⟩ := own_form ha hm
    refine (sReflect_map g m c base qs w ha hg hm hn).mono ?_
    rintro e w1 ⟨v, rfl, ho, hb⟩
    rw [rmF_map hg, hlen, Nat.add_sub_cancel]
    obtain ⟨B, d, rfl⟩ := own_slice ho
    refine ⟨⟨B, d, by rw [rfD_len], ?_⟩, hb⟩
    rw [rfD_len]
    exact ho
end Go.Proofs.Yteannojgicpbnab

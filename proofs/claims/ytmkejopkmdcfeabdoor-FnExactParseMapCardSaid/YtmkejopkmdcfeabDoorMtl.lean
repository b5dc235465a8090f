/-
  Chapter 2: the law of MapText.
-/
import Derived.Test.YtmkejopkmdcfeabDoorMt
namespace Go.Proofs.YtmkejopkmdcfeabDoor
open Go.RowKit Rm

/-- What MapText answers. -/
def mtF (ps : List Pt) : List UInt8 := match mapB ps with | true => mpT ps ps.length | false => []
theorem mtF_no {ps : List Pt} (h : mapB ps = false) : mtF ps = [] := by unfold mtF; simp only [h]
theorem mtF_yes {ps : List Pt} (h : mapB ps = true) : mtF ps = mpT ps ps.length := by unfold mtF; simp only [h]
set_option maxRecDepth 100000 in
theorem iMapText_any (A : Option Addr) (n c base : Nat) (ps : List Pt) (w : World) (ha : w.ownsRow base 31 4 (.slice A n c) n (ptcs ps)) (hn : n ≤ 1048576) (ht : Pow10 w) :
    Calls Tryd.prog 11 #[.slice A n c] w fun e w' => e = .returned (.tuple #[.string ⟨(mtF ps).toArray⟩, .bool (mapB ps)]) ∧ Below w.heap.size w w' := by
  have hl := own_len ha
  rcases hm : mapB ps with _ | _
  · have hmap := isMap_any A n c base ps w ha hn
    rw [hm] at hmap
    rw [mtF_no hm]
    have HM := hide hmap; clear hmap hm ha hl ht
    go_enter Tryd.func11, Tryd.ntmps11
    go_wp2_with (go_at_call 21; (with_reducible refine (unhide HM).mono ?_); rintro e w1 ⟨rfl, hbw1⟩)
    go_ret2
    exact ⟨rfl, hbw1⟩
  · obtain ⟨hg, h12, h2⟩ := goods_map hm
    rw [mtF_yes hm]
    rw [hl] at hg h12 h2 ⊢
    obtain ⟨g, cap, hv, _, hgl⟩ := ha.form (by omega)
    have hA : A = some ⟨g, 0, none⟩ := by injection hv
    subst hA
    exact iMapText_map g n c base ps w ha hg hm h12 ht
end Go.Proofs.YtmkejopkmdcfeabDoor

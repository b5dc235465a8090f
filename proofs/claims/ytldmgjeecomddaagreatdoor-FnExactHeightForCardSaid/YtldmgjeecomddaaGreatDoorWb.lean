/-
  Chapter 6: woMap of the model; lapsWithSlopes at any argument; IsLapMap of both.
-/
import Derived.Test.YtldmgjeecomddaaGreatDoorWa
namespace Go.Proofs.YtldmgjeecomddaaGreatDoor
open Go.RowKit Rm

theorem lmB_bad {qs : List QP} (hg : GMap qs) {k : Nat} (hk : k + 1 < qs.length) (h : dirR qs k = 0) : lmB (qs.map qp) = false := by
  cases hz : lmB (qs.map qp) with
  | false => rfl
  | true => exact absurd h (((lmB_yes hg).1 hz).dirs k hk)

theorem lapsWith_any (A : Option Addr) (n c base : Nat) (ps : List Pt) (w : World) (ha : w.ownsRow base 50 4 (.slice A n c) n (ptcs ps)) (hn : n ≤ 1048576) :
    Calls Tryz.prog 90 #[.slice A n c] w fun e w' =>
      (lmB ps = false → e = .returned (.tuple #[.slice none 0 0, .bool false])) ∧
      (∀ (g : Nat) (qs : List QP), A = some ⟨g, 0, none⟩ → ps = qs.map qp → LMap qs → ∃ v : Value, e = .returned (.tuple #[v, .bool true]) ∧ w'.ownsRow w.heap.size 127 1 v (lapsQ qs).length (lapVals g c (lapsQ qs))) ∧
      Below w.heap.size w w' := by
  rcases hm : mapB ps with _ | _
  · have hl := iLapsOf_any A n c base ps w ha hn
    rw [hm, lapF_no hm] at hl
    have HM := hide hl; clear hl
    obtain ⟨Z, hZ⟩ : ∃ Z : Prop, Z = (lmB ps = false) := ⟨_, rfl⟩
    obtain ⟨Y, hY⟩ : ∃ Y : Nat → List QP → Prop, Y = fun g qs => A = some ⟨g, 0, none⟩ → ps = qs.map qp → ¬ LMap qs := ⟨_, rfl⟩
    have hno : ∀ qs : List QP, ps = qs.map qp → ¬ LMap qs := fun qs h hq => by
      subst h
      rw [hq.toGMap.mapB] at hm
      cases hm
    have HNO := hide hno
    clear hno hm ha hZ hY Z Y
    refine Calls.mono (R := fun e w' => e = .returned (.tuple #[.slice none 0 0, .bool false]) ∧ Below w.heap.size w w') ?_ fun e w' h => ⟨fun _ => h.1, fun g qs _ h2 h3 => absurd h3 ((unhide HNO) qs h2), h.2⟩
    go_enter Tryz.func90, Tryz.ntmps90
    go_wp2_with (go_at_call 65; (with_reducible refine (unhide HM).mono ?_); rintro e w1 ⟨⟨A1, d1, b1, rfl, hn1⟩, hbw1⟩)
    go_ret2
    exact ⟨rfl, hbw1⟩
  · obtain ⟨g, m, qs, rfl, rfl, rfl, hg, hlen⟩ := own_form ha hm
    refine (lapsWith_map g m c base qs w ha hg hm hn).mono ?_
    rintro e w' ⟨h1, h2, h3⟩
    refine ⟨fun hz => h2 fun hl => by rw [hl.lmB] at hz; (cases hz), fun g' qs' e1 e2 hl => ?_, h3⟩
    obtain rfl : g = g' := by injection e1 with e1; exact (Addr.mk.inj e1).1
    obtain rfl : qs = qs' := by have := congrArg dec e2; rwa [dec_qp, dec_qp] at this
    exact h1 hl

set_option maxRecDepth 100000 in
theorem iIsLapMap_any (A : Option Addr) (n c base : Nat) (ps : List Pt) (w : World) (ha : w.ownsRow base 50 4 (.slice A n c) n (ptcs ps)) (hn : n ≤ 1048576) :
    Calls Tryz.prog 79 #[.slice A n c] w fun e w' => e = .returned (.bool (lmB ps)) ∧ Below w.heap.size w w' := by
  have hl := lapsWith_any A n c base ps w ha hn
  have HM := hide hl; clear hl
  rcases hz : lmB ps with _ | _
  · have HZ := Lib.hid hz
    clear hz ha
    go_enter Tryz.func79, Tryz.ntmps79
    go_wp2_with (go_at_call 90; (with_reducible refine (unhide HM).mono ?_); rintro e w1 ⟨h1, _, hbw1⟩; obtain rfl := h1 HZ.out; clear h1)
    go_ret
    exact ⟨rfl, hbw1⟩
  · obtain ⟨qs, hq, hl⟩ := lmB_of hz
    have hm : mapB ps = true := by rw [hq]; exact hl.toGMap.mapB
    obtain ⟨g, m, qs', hA, -⟩ := own_form ha hm
    have HQ := Lib.hid (And.intro hA (And.intro hq hl))
    clear hz ha hm hA hq hl
    go_enter Tryz.func79, Tryz.ntmps79
    go_wp2_with (go_at_call 90; (with_reducible refine (unhide HM).mono ?_); rintro e w1 ⟨_, h2, hbw1⟩; obtain ⟨v1, rfl, -⟩ := h2 g qs HQ.out.1 HQ.out.2.1 HQ.out.2.2; clear h2)
    go_ret
    exact ⟨rfl, hbw1⟩
end Go.Proofs.YtldmgjeecomddaaGreatDoor

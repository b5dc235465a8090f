/-
  Chapter 2: SimpleMap: what both return, at any argument.
-/
import Derived.Test.YteannojgicpbnaaSims
import Derived.Test.YteannojgicpbnaaLawS
namespace Go.Proofs.Yteannojgicpbnaa
open Go.RowKit Rm

/-- The answer of a function that gives a slice of points and whether the map is one. -/
def GivesP (B : Nat) (xs : List Pt) (z : Bool) (e : Ending) (w' : World) : Prop :=
  ∃ (A : Option Addr) (d : Nat), e = .returned (.tuple #[.slice A xs.length d, .bool z]) ∧ w'.ownsRow B 81 4 (.slice A xs.length d) xs.length (ptcs xs)
theorem own_form {w : World} {base n c : Nat} {A : Option Addr} {ps : List Pt} (ha : w.ownsRow base 81 4 (.slice A n c) n (ptcs ps)) (hm : mapB ps = true) :
    ∃ (g m : Nat) (qs : List QP), A = some ⟨g, 0, none⟩ ∧ n = m + 1 ∧ ps = qs.map qp ∧ GMap qs ∧ qs.length = m + 1 := by
  obtain ⟨qs, rfl, hg⟩ := gmap_of hm
  have hlen : qs.length = n := by have := own_len ha; rw [List.length_map] at this; exact this
  have hlo := hg.lo
  obtain ⟨g, cap, hv, _, hgl⟩ := ha.form (by omega)
  have hA : A = some ⟨g, 0, none⟩ := by injection hv
  exact ⟨g, n - 1, qs, hA, by omega, rfl, hg, by omega⟩
set_option maxRecDepth 100000 in
theorem iSimpleMap_any (A : Option Addr) (n c base : Nat) (ps : List Pt) (w : World) (ha : w.ownsRow base 81 4 (.slice A n c) n (ptcs ps)) (hn : n ≤ 1048576) :
    Calls Try.prog 24 #[.slice A n c] w fun e w' => GivesP w.heap.size (simF ps) (mapB ps) e w' ∧ Below w.heap.size w w' := by
  rcases hm : mapB ps with _ | _
  · have hmap := isMap_any A n c base ps w ha hn
    rw [hm] at hmap
    rw [simF_no hm]
    have HM := hide hmap; clear hmap hm ha
    go_enter Try.func24, Try.ntmps24
    go_wp2_with (go_at_call 46; (with_reducible refine (unhide HM).mono ?_); rintro e w1 ⟨rfl, hbw1⟩)
    go_ret2
    exact ⟨⟨none, 0, rfl, World.ownsRow_nil _ _ _ _⟩, hbw1⟩
  · obtain ⟨g, m, qs, rfl, rfl, rfl, hg, hlen⟩ := own_form ha hm
    rw [simF_map hg, hlen]
    have hmap := isMap_any (some ⟨g, 0, none⟩) (m + 1) c base _ w ha hn
    rw [hm] at hmap
    have HM := hide hmap; clear hmap hm
    have HA := hide ha; clear ha hlen
    go_enter Try.func24, Try.ntmps24
    go_wp2_with (go_at_call 46; (with_reducible refine (unhide HM).mono ?_); rintro e w1 ⟨rfl, hbw1⟩)
    refine (iSimple_map g m c base qs w1 (own_below (unhide HA) hbw1) hg).mono ?_
    rintro e w2 ⟨v, rfl, ho, hb⟩
    obtain ⟨B, d, rfl⟩ := own_slice ho
    have hzw := hbw1.size
    have HO := hide ho; clear ho
    go_wp2_with fail
    go_ret2
    refine ⟨⟨B, d, by rw [List.length_map]; rfl, ?_⟩, (by repeat (first | with_reducible exact Below.refl _ _ | with_reducible assumption | (with_reducible refine Below.trans ?_ (Below.mono (by assumption) (by first | omega | (simp <;> omega)))) | with_reducible apply Below.drew | with_reducible apply below_drewN | (with_reducible refine Below.alloc ?_ (by first | omega | (simp <;> omega)) _) | (with_reducible refine Below.setCell ?_ (by first | omega | (simp <;> omega)) _)))⟩
    rw [List.length_map]
    exact (unhide HO).mono hzw
set_option maxRecDepth 100000 in
theorem sSimpleMap_any (A : Option Addr) (n c base : Nat) (ps : List Pt) (w : World) (ha : w.ownsRow base 81 4 (.slice A n c) n (ptcs ps)) (hn : n ≤ 1048576) :
    Calls Try.prog 22 #[.slice A n c] w fun e w' => GivesP w.heap.size (simF ps) (mapB ps) e w' ∧ Below w.heap.size w w' := by
  have hmap := imGood_any A n c base ps w ha hn
  rcases hm : mapB ps with _ | _
  · rw [hm] at hmap
    rw [simF_no hm]
    have HM := hide hmap; clear hmap hm ha
    go_enter Try.func22, Try.ntmps22
    go_wp2_with (go_at_call 55; (with_reducible refine (unhide HM).mono ?_); rintro e w1 ⟨rfl, hbw1⟩)
    go_ret2
    exact ⟨⟨none, 0, rfl, World.ownsRow_nil _ _ _ _⟩, hbw1⟩
  · obtain ⟨g, m, qs, rfl, rfl, rfl, hg, hlen⟩ := own_form ha hm
    rw [simF_map hg, hlen]
    rw [hm] at hmap
    have HM := hide hmap; clear hmap hm
    have HA := hide ha; clear ha hlen
    go_enter Try.func22, Try.ntmps22
    go_wp2_with (go_at_call 55; (with_reducible refine (unhide HM).mono ?_); rintro e w1 ⟨rfl, hbw1⟩)
    refine (imSimple_map g m c base qs w1 (own_below (unhide HA) hbw1) hg).mono ?_
    rintro e w2 ⟨v, rfl, ho, hb⟩
    obtain ⟨B, d, rfl⟩ := own_slice ho
    have hzw := hbw1.size
    have HO := hide ho; clear ho
    go_wp2_with fail
    go_ret2
    refine ⟨⟨B, d, by rw [List.length_map]; rfl, ?_⟩, (by repeat (first | with_reducible exact Below.refl _ _ | with_reducible assumption | (with_reducible refine Below.trans ?_ (Below.mono (by assumption) (by first | omega | (simp <;> omega)))) | with_reducible apply Below.drew | with_reducible apply below_drewN | (with_reducible refine Below.alloc ?_ (by first | omega | (simp <;> omega)) _) | (with_reducible refine Below.setCell ?_ (by first | omega | (simp <;> omega)) _)))⟩
    rw [List.length_map]
    exact (unhide HO).mono hzw
end Go.Proofs.Yteannojgicpbnaa

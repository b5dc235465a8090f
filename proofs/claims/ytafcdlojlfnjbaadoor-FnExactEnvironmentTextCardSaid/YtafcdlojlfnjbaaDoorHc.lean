/-
  Environments: copies compared.
-/
import Derived.Test.YtafcdlojlfnjbaaDoorHb
namespace Go.Proofs.YtafcdlojlfnjbaaDoor
open Go.RowKit Rm

set_option maxRecDepth 100000 in
set_option maxHeartbeats 400000 in
theorem eqNamed_same (s : ByteArray) (g1 g2 n b1 b2 : Nat) (ps : List Pt) (w : World) (ha : w.ownsRow b1 57 4 (.slice (some ⟨g1, 0, none⟩) n n) n (ptcs ps)) (hb : w.ownsRow b2 57 4 (.slice (some ⟨g2, 0, none⟩) n n) n (ptcs ps)) (hn : n ≤ 1048576) :
    Calls Tryd.prog 17 #[.agg #[.string s, .slice (some ⟨g1, 0, none⟩) n n], .agg #[.string s, .slice (some ⟨g2, 0, none⟩) n n]] w fun e w' => e = .returned (.bool true) ∧ Below w.heap.size w w' := by
  have he := fun (W : World) (hW : Below w.heap.size w W) => eqPointS_same (some ⟨g1, 0, none⟩) (some ⟨g2, 0, none⟩) n n n b1 b2 ps W (own_below ha hW) (own_below hb hW) hn
  have HE := hide he
  clear ha hb he
  go_enter Tryd.func17, Tryd.ntmps17
  go_wp2_with (go_at_call 27; (with_reducible refine ((unhide HE) _ ?pb).mono ?_); (case pb => exact (by repeat (first | with_reducible exact Below.refl _ _ | with_reducible assumption | (with_reducible refine Below.trans ?_ (Below.mono (by assumption) (by first | omega | (simp <;> omega)))) | with_reducible apply Below.drew | with_reducible apply below_drewN | (with_reducible refine Below.alloc ?_ (by first | omega | (simp <;> omega)) _) | (with_reducible refine Below.setCell ?_ (by first | omega | (simp <;> omega)) _)))); rintro e w1 ⟨rfl, hbw1⟩; have hz1 := hbw1.size)
  go_ret
  exact ⟨rfl, (by repeat (first | with_reducible exact Below.refl _ _ | with_reducible assumption | (with_reducible refine Below.trans ?_ (Below.mono (by assumption) (by first | omega | (simp <;> omega)))) | with_reducible apply Below.drew | with_reducible apply below_drewN | (with_reducible refine Below.alloc ?_ (by first | omega | (simp <;> omega)) _) | (with_reducible refine Below.setCell ?_ (by first | omega | (simp <;> omega)) _)))⟩

set_option maxRecDepth 100000 in
set_option maxHeartbeats 1600000 in
theorem eqNamedS_same (g g' n c c' B B' : Nat) (xs ys : List (ByteArray × Nat × List Pt)) (w : World) (ha : NestN w B (.slice (some ⟨g, 0, none⟩) n c) xs) (hb : NestN w B' (.slice (some ⟨g', 0, none⟩) n c') ys) (he : xs.map nmP = ys.map nmP) (hl : xs.length = n) (hn : n ≤ 1048576) (hall : ∀ x ∈ xs, x.2.2.length ≤ 1048576) :
    Calls Tryd.prog 8 #[.slice (some ⟨g, 0, none⟩) n c, .slice (some ⟨g', 0, none⟩) n c'] w fun e w' => e = .returned (.bool true) ∧ Below w.heap.size w w' := by
  have hyl : ys.length = n := by
    have := congrArg List.length he
    rw [List.length_map, List.length_map] at this
    omega
  have HA := hide ha; have HB := hide hb; have HE := hide he; have HALL := hide hall
  clear ha hb he hall
  go_enter Tryd.func8, Tryd.ntmps8
  go_wp2
  go_loopw [5] (fun i wr => ∃ k : Nat, i = .int .i64 k ∧ k ≤ n ∧ Below w.heap.size w wr) (fun i _ => n - (intOf i).toNat)
  case atStart => exact ⟨0, rfl, Nat.zero_le _, Below.refl _ _⟩
  case round =>
    obtain ⟨k, rfl, hk, hb⟩ := hrel
    by_cases hlt : k < n
    · obtain ⟨x, hx⟩ : ∃ x, xs[k]? = some x := ⟨_, List.getElem?_eq_getElem (by omega)⟩
      obtain ⟨y, hy⟩ : ∃ y, ys[k]? = some y := ⟨_, List.getElem?_eq_getElem (by omega)⟩
      obtain ⟨hg, _, h0, h1, ho⟩ := ((unhide HA).below hb).at hx
      obtain ⟨hg', _, h0', h1', ho'⟩ := ((unhide HB).below hb).at hy
      have hxy : nmP x = nmP y := by
        have := congrArg (fun l => l[k]?) (unhide HE)
        simp only [List.getElem?_map, hx, hy, Option.map_some, Option.some.injEq] at this
        exact this
      have hle := (unhide HALL) x (List.mem_iff_getElem?.2 ⟨k, hx⟩)
      obtain ⟨s, b, ps⟩ := x
      obtain ⟨s', b', ps'⟩ := y
      have e1 : s = s' := congrArg Prod.fst hxy
      have e2 : ps = ps' := congrArg Prod.snd hxy
      subst e1 e2
      have heq := fun (W : World) (hW : Below wr.heap.size wr W) => eqNamed_same s b b' ps.length B B' ps W (own_below ho hW) (own_below ho' hW) hle
      have HEQ := hide heq
      have HBE := hide hb; clear hb heq ho ho' hx hy hxy hle
      go_upto_region 6 with fail
      go_cut [26] (fun s26 wx => s26 = .bool false ∧ Below wr.heap.size wr wx)
      case first =>
        go_region_held3 (fun w' => (w'.cell? ⟨g, k * 2, none⟩ = some (.string s) ∧ w'.cell? ⟨g, k * 2 + 1, none⟩ = some (.slice (some ⟨b, 0, none⟩) ps.length ps.length)) ∧
            w'.cell? ⟨g', k * 2, none⟩ = some (.string s) ∧ w'.cell? ⟨g', k * 2 + 1, none⟩ = some (.slice (some ⟨b', 0, none⟩) ps.length ps.length)) (simp [go_sem, *])
          ((go_at_call 17; (with_reducible refine ((unhide HEQ) _ (show Below wr.heap.size wr _ from (by repeat (first | with_reducible exact Below.refl _ _ | with_reducible assumption | (with_reducible refine Below.trans ?_ (Below.mono (by assumption) (by first | omega | (simp <;> omega)))) | with_reducible apply Below.drew | with_reducible apply below_drewN | (with_reducible refine Below.alloc ?_ (by first | omega | (simp <;> omega)) _) | (with_reducible refine Below.setCell ?_ (by first | omega | (simp <;> omega)) _))))).mono ?_); rintro e w1 ⟨rfl, hbw1⟩; obtain ⟨hcw1, hfw1⟩ := bcell hbw1; have hzw1 := hbw1.size; (try simp at hzw1); (try ((have kw1gX0 := (bnew hbw1) (g) ?pf); (case pf => (first | omega | (simp; done) | (simp; omega))); obtain ⟨kcw1gX0, kfw1gX0, klw1gX0⟩ := kw1gX0)); (try ((have kw1g'X0 := (bnew hbw1) (g') ?pf); (case pf => (first | omega | (simp; done) | (simp; omega))); obtain ⟨kcw1g'X0, kfw1g'X0, klw1g'X0⟩ := kw1g'X0))))
        all_goals
          go_wp2_with fail
          go_meet
          exact ⟨rfl, (by repeat (first | with_reducible exact Below.refl _ _ | with_reducible assumption | (with_reducible refine Below.trans ?_ (Below.mono (by assumption) (by first | omega | (simp <;> omega)))) | with_reducible apply Below.drew | with_reducible apply below_drewN | (with_reducible refine Below.alloc ?_ (by first | omega | (simp <;> omega)) _) | (with_reducible refine Below.setCell ?_ (by first | omega | (simp <;> omega)) _)))⟩
      case rest =>
        obtain ⟨rfl, hbx⟩ := hcut
        have hb := unhide HBE
        have hz := hb.size
        go_wp2_with fail
        go_roundw
        case rel => exact ⟨k + 1, by go_num, by omega, (by repeat (first | with_reducible exact Below.refl _ _ | with_reducible assumption | (with_reducible refine Below.trans ?_ (Below.mono (by assumption) (by first | omega | (simp <;> omega)))) | with_reducible apply Below.drew | with_reducible apply below_drewN | (with_reducible refine Below.alloc ?_ (by first | omega | (simp <;> omega)) _) | (with_reducible refine Below.setCell ?_ (by first | omega | (simp <;> omega)) _)))⟩
        case measure => simp [intOf]; omega
    · have HB2 := hide hb
      clear hb
      go_wp2
      go_ret
      exact ⟨rfl, unhide HB2⟩
end Go.Proofs.YtafcdlojlfnjbaaDoor

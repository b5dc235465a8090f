/-
  Chapter 5: lists of points compared: coEqual of the model, slices.Equal.
-/
import Derived.Test.YtjggjegjhcpjhaaGreatLawS
namespace Go.Proofs.YtjggjegjhcpjhaaGreat
open Go.RowKit Rm

theorem own_lenP {w : World} {base n : Nat} {v : Value} {ps : List Pt} (h : w.ownsRow base 63 4 v n (ptcs ps)) : ps.length = n := by have := h.1; rw [ptcs_len] at this; omega
theorem pts_ext {ps qs : List Pt} {n : Nat} (h1 : ps.length = n) (h2 : qs.length = n) (h : ∀ j, j < n → pAt ps j = pAt qs j) : ps = qs := by
  refine List.ext_getElem (h1.trans h2.symm) fun i hi hj => ?_
  have := h i (by omega)
  unfold pAt at this
  simpa [hi, hj] using this
theorem pts_ne {ps qs : List Pt} {k : Nat} (h : ¬ pAt ps k = pAt qs k) : decide (ps = qs) = false := decide_eq_false fun e => h (by rw [e])
theorem uptoP {ps qs : List Pt} {k : Nat} (h : ∀ j, j < k → pAt ps j = pAt qs j) (hk : pAt ps k = pAt qs k) : ∀ j, j < k + 1 → pAt ps j = pAt qs j := by
  intro t ht
  rcases Nat.lt_or_eq_of_le (Nat.le_of_lt_succ ht) with h1 | rfl
  · exact h t h1
  · exact hk
theorem pt_ne {a b c d a' b' c' d' : Int} (h : ¬ (((a, b), (c, d)) : Pt) = ((a', b'), (c', d'))) : ¬ a = a' ∨ (a = a' ∧ ¬ b = b') ∨ (a = a' ∧ b = b' ∧ ¬ c = c') ∨ (a = a' ∧ b = b' ∧ c = c' ∧ ¬ d = d') := by
  by_cases h1 : a = a'
  · by_cases h2 : b = b'
    · by_cases h3 : c = c'
      · by_cases h4 : d = d'
        · exact absurd (by rw [h1, h2, h3, h4]) h
        · exact .inr (.inr (.inr ⟨h1, h2, h3, h4⟩))
      · exact .inr (.inr (.inl ⟨h1, h2, h3⟩))
    · exact .inr (.inl ⟨h1, h2⟩)
  · exact .inl h1

set_option maxRecDepth 100000 in
set_option maxHeartbeats 1600000 in
theorem coEqual_any (A B : Option Addr) (n m c d b1 b2 : Nat) (ps qs : List Pt) (w : World) (ha : w.ownsRow b1 63 4 (.slice A n c) n (ptcs ps)) (hb : w.ownsRow b2 63 4 (.slice B m d) m (ptcs qs)) (hn : n ≤ 1048576) (hm : m ≤ 1048576) :
    Calls Tryz.prog 50 #[.slice A n c, .slice B m d] w fun e w' => e = .returned (.bool (decide (ps = qs))) ∧ Below w.heap.size w w' := by
  have hpl := own_lenP ha
  have hql := own_lenP hb
  have HA := hide ha; have HB := hide hb; clear ha hb
  by_cases hnm : n = m
  · subst hnm
    have HL := Lib.hid (And.intro hpl hql); clear hpl hql
    go_enter Tryz.func50, Tryz.ntmps50
    go_wp2
    go_loopw [14] (fun i wr => ∃ k : Nat, i = .int .i64 k ∧ k ≤ n ∧ Hid (∀ j, j < k → pAt ps j = pAt qs j) ∧ Below w.heap.size w wr) (fun i _ => n - (intOf i).toNat)
    case atStart => exact ⟨0, rfl, Nat.zero_le _, hide (fun j hj => absurd hj (by omega)), Below.refl _ _⟩
    case round =>
      obtain ⟨k, rfl, hk, hup, hb⟩ := hrel
      have hzr := hb.size
      by_cases hlt : k < n
      · rcases hp : pAt ps k with ⟨⟨x, y⟩, ⟨p, q⟩⟩
        rcases hq : pAt qs k with ⟨⟨x', y'⟩, ⟨p', q'⟩⟩
        obtain ⟨g, rfl, hg, _, h0, h1, h2, h3⟩ := pts_cells (own_below (unhide HA) hb) hlt hp
        obtain ⟨g', rfl, hg', _, h0', h1', h2', h3'⟩ := pts_cells (own_below (unhide HB) hb) hlt hq
        have HBE := hide hb; clear hb
        by_cases he : pAt ps k = pAt qs k
        · have HU := hide (uptoP (unhide hup) he)
          rw [hp, hq] at he
          injection he with e1 e2
          injection e1 with e3 e4
          injection e2 with e5 e6
          subst e3 e4 e5 e6
          clear hp hq hup
          go_upto_region 6 with fail
          go_cut [24] (fun s24 wx => s24 = .bool false ∧ Below wr.heap.size wr wx)
          case first =>
            go_quiet (fail)
            go_wp2_with fail
            go_meet
            exact ⟨by simp, (by repeat (first | with_reducible exact Below.refl _ _ | with_reducible assumption | (with_reducible refine Below.trans ?_ (Below.mono (by assumption) (by first | omega | (simp <;> omega)))) | with_reducible apply Below.drew | with_reducible apply below_drewN | (with_reducible refine Below.alloc ?_ (by first | omega | (simp <;> omega)) _) | (with_reducible refine Below.setCell ?_ (by first | omega | (simp <;> omega)) _)))⟩
          case rest =>
            obtain ⟨rfl, hbx⟩ := hcut
            have hb := unhide HBE
            have hz := hb.size
            have hbz : Below w.heap.size w wc := hb.trans (hbx.mono hz)
            have HBZ := hide hbz
            clear hb hbx hbz
            go_wp2_with fail
            go_roundw
            case rel => exact ⟨k + 1, by go_num, by omega, HU, unhide HBZ⟩
            case measure => simp [intOf]; omega
        · have HN := Lib.hid (pts_ne he)
          rw [hp, hq] at he
          have hne := pt_ne he
          clear he hp hq hup
          rcases hne with d0 | ⟨rfl, d0⟩ | ⟨rfl, rfl, d0⟩ | ⟨rfl, rfl, rfl, d0⟩
          all_goals
            go_upto_region 6 with fail
            go_cut [24] (fun s24 wx => s24 = .bool true ∧ Below wr.heap.size wr wx)
            case first =>
              go_quiet (fail)
              go_wp2_with fail
              go_meet
              exact ⟨by first | (simp; done) | simp [d0], (by repeat (first | with_reducible exact Below.refl _ _ | with_reducible assumption | (with_reducible refine Below.trans ?_ (Below.mono (by assumption) (by first | omega | (simp <;> omega)))) | with_reducible apply Below.drew | with_reducible apply below_drewN | (with_reducible refine Below.alloc ?_ (by first | omega | (simp <;> omega)) _) | (with_reducible refine Below.setCell ?_ (by first | omega | (simp <;> omega)) _)))⟩
            case rest =>
              obtain ⟨rfl, hbx⟩ := hcut
              have hb := unhide HBE
              have hz := hb.size
              have hbz : Below w.heap.size w wc := hb.trans (hbx.mono hz)
              have HBZ := hide hbz
              clear hb hbx hbz
              go_wp2_with fail
              go_ret
              exact ⟨by rw [HN.out] <;> rfl, unhide HBZ⟩
      · obtain rfl : k = n := by omega
        have HE := Lib.hid (decide_eq_true (pts_ext HL.out.1 HL.out.2 (unhide hup)))
        have HBE := hide hb
        clear hb hup
        go_wp2
        go_ret
        exact ⟨by rw [HE.out] <;> rfl, unhide HBE⟩
  · have hN : decide (ps = qs) = false := decide_eq_false fun e => hnm (by rw [← hpl, ← hql, e])
    have h1 : ((n : Int) == (m : Int)) = false := by rw [beq_eq_false_iff_ne]; omega
    have HN := Lib.hid hN
    clear hN hpl hql HA HB
    go_enter Tryz.func50, Tryz.ntmps50
    go_wp2
    go_ret
    exact ⟨by rw [HN.out] <;> rfl, Below.refl _ _⟩

set_option maxRecDepth 100000 in
set_option maxHeartbeats 1600000 in
theorem slEqual_any (A B : Option Addr) (n m c d b1 b2 : Nat) (ps qs : List Pt) (w : World) (ha : w.ownsRow b1 63 4 (.slice A n c) n (ptcs ps)) (hb : w.ownsRow b2 63 4 (.slice B m d) m (ptcs qs)) (hn : n ≤ 1048576) (hm : m ≤ 1048576) :
    Calls Tryz.prog 51 #[.slice A n c, .slice B m d] w fun e w' => e = .returned (.bool (decide (ps = qs))) ∧ Below w.heap.size w w' := by
  have hpl := own_lenP ha
  have hql := own_lenP hb
  have HA := hide ha; have HB := hide hb; clear ha hb
  by_cases hnm : n = m
  · subst hnm
    have HL := Lib.hid (And.intro hpl hql); clear hpl hql
    go_enter Tryz.func51, Tryz.ntmps51
    go_wp2
    go_loopw [13] (fun i wr => ∃ k : Nat, i = .int .i64 k ∧ k ≤ n ∧ Hid (∀ j, j < k → pAt ps j = pAt qs j) ∧ Below w.heap.size w wr) (fun i _ => n - (intOf i).toNat)
    case atStart => exact ⟨0, rfl, Nat.zero_le _, hide (fun j hj => absurd hj (by omega)), Below.refl _ _⟩
    case round =>
      obtain ⟨k, rfl, hk, hup, hb⟩ := hrel
      have hzr := hb.size
      by_cases hlt : k < n
      · rcases hp : pAt ps k with ⟨⟨x, y⟩, ⟨p, q⟩⟩
        rcases hq : pAt qs k with ⟨⟨x', y'⟩, ⟨p', q'⟩⟩
        obtain ⟨g, rfl, hg, _, h0, h1, h2, h3⟩ := pts_cells (own_below (unhide HA) hb) hlt hp
        obtain ⟨g', rfl, hg', _, h0', h1', h2', h3'⟩ := pts_cells (own_below (unhide HB) hb) hlt hq
        have HBE := hide hb; clear hb
        by_cases he : pAt ps k = pAt qs k
        · have HU := hide (uptoP (unhide hup) he)
          rw [hp, hq] at he
          injection he with e1 e2
          injection e1 with e3 e4
          injection e2 with e5 e6
          subst e3 e4 e5 e6
          clear hp hq hup
          go_upto_region 6 with fail
          go_cut [24] (fun s24 wx => s24 = .bool false ∧ Below wr.heap.size wr wx)
          case first =>
            go_quiet (fail)
            go_wp2_with fail
            go_meet
            exact ⟨by simp, (by repeat (first | with_reducible exact Below.refl _ _ | with_reducible assumption | (with_reducible refine Below.trans ?_ (Below.mono (by assumption) (by first | omega | (simp <;> omega)))) | with_reducible apply Below.drew | with_reducible apply below_drewN | (with_reducible refine Below.alloc ?_ (by first | omega | (simp <;> omega)) _) | (with_reducible refine Below.setCell ?_ (by first | omega | (simp <;> omega)) _)))⟩
          case rest =>
            obtain ⟨rfl, hbx⟩ := hcut
            have hb := unhide HBE
            have hz := hb.size
            have hbz : Below w.heap.size w wc := hb.trans (hbx.mono hz)
            have HBZ := hide hbz
            clear hb hbx hbz
            go_wp2_with fail
            go_roundw
            case rel => exact ⟨k + 1, by go_num, by omega, HU, unhide HBZ⟩
            case measure => simp [intOf]; omega
        · have HN := Lib.hid (pts_ne he)
          rw [hp, hq] at he
          have hne := pt_ne he
          clear he hp hq hup
          rcases hne with d0 | ⟨rfl, d0⟩ | ⟨rfl, rfl, d0⟩ | ⟨rfl, rfl, rfl, d0⟩
          all_goals
            go_upto_region 6 with fail
            go_cut [24] (fun s24 wx => s24 = .bool true ∧ Below wr.heap.size wr wx)
            case first =>
              go_quiet (fail)
              go_wp2_with fail
              go_meet
              exact ⟨by first | (simp; done) | simp [d0], (by repeat (first | with_reducible exact Below.refl _ _ | with_reducible assumption | (with_reducible refine Below.trans ?_ (Below.mono (by assumption) (by first | omega | (simp <;> omega)))) | with_reducible apply Below.drew | with_reducible apply below_drewN | (with_reducible refine Below.alloc ?_ (by first | omega | (simp <;> omega)) _) | (with_reducible refine Below.setCell ?_ (by first | omega | (simp <;> omega)) _)))⟩
            case rest =>
              obtain ⟨rfl, hbx⟩ := hcut
              have hb := unhide HBE
              have hz := hb.size
              have hbz : Below w.heap.size w wc := hb.trans (hbx.mono hz)
              have HBZ := hide hbz
              clear hb hbx hbz
              go_wp2_with fail
              go_ret
              exact ⟨by rw [HN.out] <;> rfl, unhide HBZ⟩
      · obtain rfl : k = n := by omega
        have HE := Lib.hid (decide_eq_true (pts_ext HL.out.1 HL.out.2 (unhide hup)))
        have HBE := hide hb
        clear hb hup
        go_wp2
        go_ret
        exact ⟨by rw [HE.out] <;> rfl, unhide HBE⟩
  · have hN : decide (ps = qs) = false := decide_eq_false fun e => hnm (by rw [← hpl, ← hql, e])
    have h1 : ((n : Int) == (m : Int)) = false := by rw [beq_eq_false_iff_ne]; omega
    have HN := Lib.hid hN
    clear hN hpl hql HA HB
    go_enter Tryz.func51, Tryz.ntmps51
    go_wp2
    go_ret
    exact ⟨by rw [HN.out] <;> rfl, Below.refl _ _⟩
end Go.Proofs.YtjggjegjhcpjhaaGreat

/-
  Chapter 8: LineOfWord and WordMultiplier of both.
-/
import Derived.Test.YthccdooacbablaaZh
import Derived.Test.YthccdooacbablaaWi
import Derived.Test.YthccdooacbablaaIg
namespace Go.Proofs.Ythccdooacbablaa
open Go.RowKit Rm

theorem pwB_len {n : Nat} {r : List Int} (h : ¬ (1 ≤ r.length ∧ r.length ≤ 8)) : pwB n r = false := by unfold pwB; rw [decide_eq_false h]; rfl
theorem pwB_in {n : Nat} {r : List Int} (h : 1 ≤ r.length ∧ r.length ≤ 8) : pwB n r = r.all (inP n) := by unfold pwB; rw [decide_eq_true h]; rfl

set_option maxRecDepth 100000 in
set_option maxHeartbeats 1600000 in
/-- A list that is no word of a map's pieces. -/
theorem wordOfMap_no (A : Option Addr) (n c base : Nat) (ps : List Pt) (g1 n1 c1 b1 : Nat) (r : List Int) (w : World) (ha : w.ownsRow base 62 4 (.slice A n c) n (ptcs ps)) (hn : n ≤ 1048576)
    (h1 : w.ownsRow b1 3 1 (.slice (some ⟨g1, 0, none⟩) n1 c1) n1 (ints r)) (hz : peB ps r = false) :
    Calls Try.prog 47 #[.slice A n c, .slice (some ⟨g1, 0, none⟩) n1 c1] w fun e w' => e = .returned (.tuple #[.agg #[.slice none 0 0, .int .i64 0, .int .i64 0, .int .i64 0, .int .i64 0], .bool false]) ∧ Below w.heap.size w w' := by
  have hrl : r.length = n1 := by have := h1.1; rw [ints_len] at this; omega
  have hmap := fun W hW => isMap_any A n c base ps W hW hn
  have hpl := own_len ha
  rcases hm : mapB ps with _ | _
  · rw [hm] at hmap
    have HM := hide hmap; have HA := hide ha
    clear hmap ha h1 hz hm hpl hrl
    go_enter Try.func47, Try.ntmps47
    go_wp2_with (go_at_call 88; (with_reducible refine ((unhide HM) _ (own_below (unhide HA) ?pb)).mono ?_); (case pb => exact (by repeat (first | with_reducible exact Below.refl _ _ | with_reducible assumption | (with_reducible refine Below.trans ?_ (Below.mono (by assumption) (by first | omega | (simp <;> omega)))) | with_reducible apply Below.drew | with_reducible apply below_drewN | (with_reducible refine Below.alloc ?_ (by first | omega | (simp <;> omega)) _) | (with_reducible refine Below.setCell ?_ (by first | omega | (simp <;> omega)) _)))); rintro e w1 ⟨rfl, hbw1⟩; have hs1 := hbw1.size; (skip; (try ((have kw1w0 := (bnew hbw1) (w.heap.size) ?pf); (case pf => (first | omega | (simp; done) | (simp; omega))); obtain ⟨kcw1w0, kfw1w0, klw1w0⟩ := kw1w0))))
    exact bodyPost_ret (v := .tuple #[.agg #[.slice none 0 0, .int .i64 0, .int .i64 0, .int .i64 0, .int .i64 0], .bool false]) (by simp [results, Try.results47, go_sem, *]) rfl ⟨rfl, (by repeat (first | with_reducible exact Below.refl _ _ | with_reducible assumption | (with_reducible refine Below.trans ?_ (Below.mono (by assumption) (by first | omega | (simp <;> omega)))) | with_reducible apply Below.drew | with_reducible apply below_drewN | (with_reducible refine Below.alloc ?_ (by first | omega | (simp <;> omega)) _) | (with_reducible refine Below.setCell ?_ (by first | omega | (simp <;> omega)) _)))⟩
  · by_cases hr : 1 ≤ n1 ∧ n1 ≤ 8
    · obtain ⟨qs, rfl, hg⟩ := gmap_of hm
      obtain ⟨g, hA⟩ := own_form0 ha (by have := hg.lo; rw [List.length_map] at hpl; omega)
      subst hA
      have hin : r.all (inP n) = false := by
        unfold peB at hz
        rw [hm, Bool.true_and, pwB_in (by rw [hrl]; exact hr), hpl] at hz
        exact hz
      exact (wordOfMap_in g n c base g1 n1 c1 b1 qs r w ha hg hm hn h1 hr.1 hr.2).mono fun e w' h => ⟨h.1 hin, h.2.2⟩
    · rw [hm] at hmap
      have HM := hide hmap; have HA := hide ha
      clear hmap ha h1 hz hm hpl hrl
      by_cases h0 : n1 < 1
      · have d1 : decide ((n1 : Int) < 1) = true := decide_eq_true (by omega)
        have d3 : n1 = 0 := by omega
        subst d3
        go_enter Try.func47, Try.ntmps47
        go_wp2_with (go_at_call 88; (with_reducible refine ((unhide HM) _ (own_below (unhide HA) ?pb)).mono ?_); (case pb => exact (by repeat (first | with_reducible exact Below.refl _ _ | with_reducible assumption | (with_reducible refine Below.trans ?_ (Below.mono (by assumption) (by first | omega | (simp <;> omega)))) | with_reducible apply Below.drew | with_reducible apply below_drewN | (with_reducible refine Below.alloc ?_ (by first | omega | (simp <;> omega)) _) | (with_reducible refine Below.setCell ?_ (by first | omega | (simp <;> omega)) _)))); rintro e w1 ⟨rfl, hbw1⟩; have hs1 := hbw1.size; (skip; (try ((have kw1w0 := (bnew hbw1) (w.heap.size) ?pf); (case pf => (first | omega | (simp; done) | (simp; omega))); obtain ⟨kcw1w0, kfw1w0, klw1w0⟩ := kw1w0))))
        exact bodyPost_ret (v := .tuple #[.agg #[.slice none 0 0, .int .i64 0, .int .i64 0, .int .i64 0, .int .i64 0], .bool false]) (by simp [results, Try.results47, go_sem, *]) rfl ⟨rfl, (by repeat (first | with_reducible exact Below.refl _ _ | with_reducible assumption | (with_reducible refine Below.trans ?_ (Below.mono (by assumption) (by first | omega | (simp <;> omega)))) | with_reducible apply Below.drew | with_reducible apply below_drewN | (with_reducible refine Below.alloc ?_ (by first | omega | (simp <;> omega)) _) | (with_reducible refine Below.setCell ?_ (by first | omega | (simp <;> omega)) _)))⟩
      · have d1 : decide ((n1 : Int) < 1) = false := decide_eq_false (by omega)
        have d2 : decide ((n1 : Int) > 8) = true := decide_eq_true (by omega)
        go_enter Try.func47, Try.ntmps47
        go_wp2_with (go_at_call 88; (with_reducible refine ((unhide HM) _ (own_below (unhide HA) ?pb)).mono ?_); (case pb => exact (by repeat (first | with_reducible exact Below.refl _ _ | with_reducible assumption | (with_reducible refine Below.trans ?_ (Below.mono (by assumption) (by first | omega | (simp <;> omega)))) | with_reducible apply Below.drew | with_reducible apply below_drewN | (with_reducible refine Below.alloc ?_ (by first | omega | (simp <;> omega)) _) | (with_reducible refine Below.setCell ?_ (by first | omega | (simp <;> omega)) _)))); rintro e w1 ⟨rfl, hbw1⟩; have hs1 := hbw1.size; (skip; (try ((have kw1w0 := (bnew hbw1) (w.heap.size) ?pf); (case pf => (first | omega | (simp; done) | (simp; omega))); obtain ⟨kcw1w0, kfw1w0, klw1w0⟩ := kw1w0))))
        exact bodyPost_ret (v := .tuple #[.agg #[.slice none 0 0, .int .i64 0, .int .i64 0, .int .i64 0, .int .i64 0], .bool false]) (by simp [results, Try.results47, go_sem, *]) rfl ⟨rfl, (by repeat (first | with_reducible exact Below.refl _ _ | with_reducible assumption | (with_reducible refine Below.trans ?_ (Below.mono (by assumption) (by first | omega | (simp <;> omega)))) | with_reducible apply Below.drew | with_reducible apply below_drewN | (with_reducible refine Below.alloc ?_ (by first | omega | (simp <;> omega)) _) | (with_reducible refine Below.setCell ?_ (by first | omega | (simp <;> omega)) _)))⟩
/-- A word of a map's pieces. -/
theorem wordOfMap_yes (A : Option Addr) (n c base : Nat) (ps : List Pt) (g1 n1 c1 b1 : Nat) (r : List Int) (w : World) (ha : w.ownsRow base 62 4 (.slice A n c) n (ptcs ps)) (hn : n ≤ 1048576)
    (h1 : w.ownsRow b1 3 1 (.slice (some ⟨g1, 0, none⟩) n1 c1) n1 (ints r)) (hz : peB ps r = true) :
    ∃ (g : Nat) (qs : List QP), A = some ⟨g, 0, none⟩ ∧ ps = qs.map qp ∧ GMap qs ∧ qs.length = n ∧ r.length = n1 ∧ (1 ≤ n1 ∧ n1 ≤ 8) ∧ (∀ k ∈ r, 0 ≤ k ∧ k ≤ (n : Int) - 2) ∧
    Calls Try.prog 47 #[.slice A n c, .slice (some ⟨g1, 0, none⟩) n1 c1] w fun e w' => (∃ (A2 : Option Addr) (c2 : Nat) (vs : List Value), e = .returned (.tuple #[lwV (.slice A2 n1 c2) (lineK qs r n1), .bool (lineK qs r n1).isSome]) ∧ PcRow w' (w.heap.size + 1) (.slice A2 n1 c2) (wdL qs r) vs) ∧ Below w.heap.size w w' := by
  have hrl : r.length = n1 := by have := h1.1; rw [ints_len] at this; omega
  have hpl := own_len ha
  unfold peB at hz
  rw [Bool.and_eq_true] at hz
  obtain ⟨hm, hp⟩ := hz
  have hp' := pwB_yes.1 hp
  obtain ⟨qs, rfl, hg⟩ := gmap_of hm
  obtain ⟨g, hA⟩ := own_form0 ha (by have := hg.lo; rw [List.length_map] at hpl; omega)
  subst hA
  have hin : r.all (inP n) = true := by
    rw [pwB_in hp'.1, hpl] at hp
    exact hp
  have hlen : qs.length = n := by rw [List.length_map] at hpl; exact hpl
  refine ⟨g, qs, rfl, rfl, hg, hlen, hrl, by rw [← hrl]; exact hp'.1, by rw [hpl] at hp'; exact hp'.2, ?_⟩
  have hr := hp'.1
  rw [hrl] at hr
  exact (wordOfMap_in g n c base g1 n1 c1 b1 qs r w ha hg hm hn h1 hr.1 hr.2).mono fun e w' h => ⟨h.2.1 hin, h.2.2⟩
/-- The line of a word, and some slice. -/
theorem wordOfMap_line (A : Option Addr) (n c base : Nat) (ps : List Pt) (g1 n1 c1 b1 : Nat) (r : List Int) (w : World) (ha : w.ownsRow base 62 4 (.slice A n c) n (ptcs ps)) (hn : n ≤ 1048576)
    (h1 : w.ownsRow b1 3 1 (.slice (some ⟨g1, 0, none⟩) n1 c1) n1 (ints r)) :
    Calls Try.prog 47 #[.slice A n c, .slice (some ⟨g1, 0, none⟩) n1 c1] w fun e w' =>
      (∃ (A2 : Option Addr) (n2 c2 : Nat), e = .returned (.tuple #[.agg #[.slice A2 n2 c2, .int .i64 (oN (mO (lnO ps r))), .int .i64 (oD (mO (lnO ps r))), .int .i64 (oN (bO (lnO ps r))), .int .i64 (oD (bO (lnO ps r)))], .bool (lnO ps r).isSome])) ∧ Below w.heap.size w w' := by
  rcases hz : peB ps r with _ | _
  · rw [lnO_no hz]
    exact (wordOfMap_no A n c base ps g1 n1 c1 b1 r w ha hn h1 hz).mono fun e w' h => ⟨⟨none, 0, 0, h.1⟩, h.2⟩
  · obtain ⟨g, qs, rfl, rfl, hg, hlen, hrl, _, _, hc⟩ := wordOfMap_yes A n c base ps g1 n1 c1 b1 r w ha hn h1 hz
    rw [lnO_yes hz, hrl]
    refine hc.mono fun e w' ⟨⟨A2, c2, vs, he, _⟩, hb⟩ => ⟨?_, hb⟩
    rcases hl : lineK qs r n1 with _ | ⟨a, b⟩
    · rw [hl] at he; exact ⟨none, 0, 0, he⟩
    · rw [hl] at he; exact ⟨A2, n1, c2, he⟩

set_option maxRecDepth 100000 in
set_option maxHeartbeats 1600000 in
theorem iLineOfWord_any (A : Option Addr) (n c base : Nat) (ps : List Pt) (g1 n1 c1 b1 : Nat) (r : List Int) (w : World) (ha : w.ownsRow base 62 4 (.slice A n c) n (ptcs ps)) (hn : n ≤ 1048576)
    (h1 : w.ownsRow b1 3 1 (.slice (some ⟨g1, 0, none⟩) n1 c1) n1 (ints r)) (_hn1 : n1 ≤ 1048576) :
    Calls Try.prog 16 #[.slice A n c, .slice (some ⟨g1, 0, none⟩) n1 c1] w fun e w' =>
      e = .returned (.tuple #[.agg #[.int .i64 (oN (mO (lnO ps r))), .int .i64 (oD (mO (lnO ps r)))], .agg #[.int .i64 (oN (bO (lnO ps r))), .int .i64 (oD (bO (lnO ps r)))], .bool (lnO ps r).isSome]) ∧ Below w.heap.size w w' := by
  have hlw := fun W hW hW1 => wordOfMap_line A n c base ps g1 n1 c1 b1 r W hW hn hW1
  have HLW := hide hlw; have HA := hide ha; have HW := hide h1
  clear hlw ha h1
  generalize oN (mO (lnO ps r)) = x1 at *
  generalize oD (mO (lnO ps r)) = x2 at *
  generalize oN (bO (lnO ps r)) = x3 at *
  generalize oD (bO (lnO ps r)) = x4 at *
  generalize (lnO ps r).isSome = z at *
  go_enter Try.func16, Try.ntmps16
  go_wp2_with (go_at_call 47; (with_reducible refine ((unhide HLW) _ (own_below (unhide HA) ?pb) (own_below (unhide HW) ?pc)).mono ?_); (case pb => exact (by repeat (first | with_reducible exact Below.refl _ _ | with_reducible assumption | (with_reducible refine Below.trans ?_ (Below.mono (by assumption) (by first | omega | (simp <;> omega)))) | with_reducible apply Below.drew | with_reducible apply below_drewN | (with_reducible refine Below.alloc ?_ (by first | omega | (simp <;> omega)) _) | (with_reducible refine Below.setCell ?_ (by first | omega | (simp <;> omega)) _)))); (case pc => exact (by repeat (first | with_reducible exact Below.refl _ _ | with_reducible assumption | (with_reducible refine Below.trans ?_ (Below.mono (by assumption) (by first | omega | (simp <;> omega)))) | with_reducible apply Below.drew | with_reducible apply below_drewN | (with_reducible refine Below.alloc ?_ (by first | omega | (simp <;> omega)) _) | (with_reducible refine Below.setCell ?_ (by first | omega | (simp <;> omega)) _)))); rintro e w1 ⟨⟨A2, n2, c2, rfl⟩, hbw1⟩; have hs1 := hbw1.size; (try simp at hs1); (skip; (try ((have kw1w0 := (bnew hbw1) (w.heap.size) ?pf); (case pf => (first | omega | (simp; done) | (simp; omega))); obtain ⟨kcw1w0, kfw1w0, klw1w0⟩ := kw1w0)); (try ((have kw1w1 := (bnew hbw1) (w.heap.size + 1) ?pf); (case pf => (first | omega | (simp; done) | (simp; omega))); obtain ⟨kcw1w1, kfw1w1, klw1w1⟩ := kw1w1))))
  go_region
  all_goals
    go_wp2_with fail
    exact bodyPost_ret (v := .tuple #[.agg #[.int .i64 (x1), .int .i64 (x2)], .agg #[.int .i64 (x3), .int .i64 (x4)], .bool z]) (by simp [results, Try.results16, go_sem, *]) rfl ⟨rfl, (by repeat (first | with_reducible exact Below.refl _ _ | with_reducible assumption | (with_reducible refine Below.trans ?_ (Below.mono (by assumption) (by first | omega | (simp <;> omega)))) | with_reducible apply Below.drew | with_reducible apply below_drewN | (with_reducible refine Below.alloc ?_ (by first | omega | (simp <;> omega)) _) | (with_reducible refine Below.setCell ?_ (by first | omega | (simp <;> omega)) _)))⟩
set_option maxRecDepth 100000 in
set_option maxHeartbeats 1600000 in
theorem iWordMultiplier_any (A : Option Addr) (n c base : Nat) (ps : List Pt) (g1 n1 c1 b1 : Nat) (r : List Int) (w : World) (ha : w.ownsRow base 62 4 (.slice A n c) n (ptcs ps)) (hn : n ≤ 1048576)
    (h1 : w.ownsRow b1 3 1 (.slice (some ⟨g1, 0, none⟩) n1 c1) n1 (ints r)) (hn1 : n1 ≤ 1048576) :
    Calls Try.prog 31 #[.slice A n c, .slice (some ⟨g1, 0, none⟩) n1 c1] w fun e w' =>
      e = .returned (.tuple #[.agg #[.int .i64 (oN (mO (lnO ps r))), .int .i64 (oD (mO (lnO ps r)))], .bool (lnO ps r).isSome]) ∧ Below w.heap.size w w' := by
  have hlw := fun W hW hW1 => iLineOfWord_any A n c base ps g1 n1 c1 b1 r W hW hn hW1 hn1
  have HLW := hide hlw; have HA := hide ha; have HW := hide h1
  clear hlw ha h1
  generalize oN (mO (lnO ps r)) = x1 at *
  generalize oD (mO (lnO ps r)) = x2 at *
  generalize oN (bO (lnO ps r)) = x3 at *
  generalize oD (bO (lnO ps r)) = x4 at *
  generalize (lnO ps r).isSome = z at *
  go_enter Try.func31, Try.ntmps31
  go_wp2_with (go_at_call 16; (with_reducible refine ((unhide HLW) _ (own_below (unhide HA) ?pb) (own_below (unhide HW) ?pc)).mono ?_); (case pb => exact (by repeat (first | with_reducible exact Below.refl _ _ | with_reducible assumption | (with_reducible refine Below.trans ?_ (Below.mono (by assumption) (by first | omega | (simp <;> omega)))) | with_reducible apply Below.drew | with_reducible apply below_drewN | (with_reducible refine Below.alloc ?_ (by first | omega | (simp <;> omega)) _) | (with_reducible refine Below.setCell ?_ (by first | omega | (simp <;> omega)) _)))); (case pc => exact (by repeat (first | with_reducible exact Below.refl _ _ | with_reducible assumption | (with_reducible refine Below.trans ?_ (Below.mono (by assumption) (by first | omega | (simp <;> omega)))) | with_reducible apply Below.drew | with_reducible apply below_drewN | (with_reducible refine Below.alloc ?_ (by first | omega | (simp <;> omega)) _) | (with_reducible refine Below.setCell ?_ (by first | omega | (simp <;> omega)) _)))); rintro e w1 ⟨rfl, hbw1⟩; have hs1 := hbw1.size; (try simp at hs1); (skip; (try ((have kw1w0 := (bnew hbw1) (w.heap.size) ?pf); (case pf => (first | omega | (simp; done) | (simp; omega))); obtain ⟨kcw1w0, kfw1w0, klw1w0⟩ := kw1w0))))
  exact bodyPost_ret (v := .tuple #[.agg #[.int .i64 (x1), .int .i64 (x2)], .bool z]) (by simp [results, Try.results31, go_sem, *]) rfl ⟨rfl, (by repeat (first | with_reducible exact Below.refl _ _ | with_reducible assumption | (with_reducible refine Below.trans ?_ (Below.mono (by assumption) (by first | omega | (simp <;> omega)))) | with_reducible apply Below.drew | with_reducible apply below_drewN | (with_reducible refine Below.alloc ?_ (by first | omega | (simp <;> omega)) _) | (with_reducible refine Below.setCell ?_ (by first | omega | (simp <;> omega)) _)))⟩
end Go.Proofs.Ythccdooacbablaa

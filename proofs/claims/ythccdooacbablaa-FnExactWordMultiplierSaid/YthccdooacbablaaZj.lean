/-
  Chapter 8: LineOfWord and WordMultiplier of the model.
-/
import Derived.Test.YthccdooacbablaaZi
namespace Go.Proofs.Ythccdooacbablaa
open Go.RowKit Rm

set_option maxRecDepth 100000 in
set_option maxHeartbeats 1600000 in
theorem peGood_any (A : Option Addr) (n c base : Nat) (ps : List Pt) (gw m cw : Nat) (r : List Int) (w : World) (ha : w.ownsRow base 62 4 (.slice A n c) n (ptcs ps)) (hn : n ≤ 1048576)
    (hw : WCells w gw m r) (hm : m ≤ 1048576) (hl : r.length = m) :
    Calls Try.prog 44 #[.slice A n c, .slice (some ⟨gw, 0, none⟩) m cw] w fun e w' => e = .returned (.bool (peB ps r)) ∧ Below w.heap.size w w' := by
  have hgd := fun W hW => imGood_any A n c base ps W hW hn
  have hpl := own_len ha
  have HA := hide ha
  unfold peB
  rcases hlm : mapB ps with _ | _
  · rw [hlm] at hgd
    rw [Bool.false_and]
    have HG := hide hgd
    clear hgd hlm ha hw
    go_enter Try.func44, Try.ntmps44
    go_wp2_with (go_at_call 51; (with_reducible refine ((unhide HG) _ (own_below (unhide HA) ?pb)).mono ?_); (case pb => exact (by repeat (first | with_reducible exact Below.refl _ _ | with_reducible assumption | (with_reducible refine Below.trans ?_ (Below.mono (by assumption) (by first | omega | (simp <;> omega)))) | with_reducible apply Below.drew | with_reducible apply below_drewN | (with_reducible refine Below.alloc ?_ (by first | omega | (simp <;> omega)) _) | (with_reducible refine Below.setCell ?_ (by first | omega | (simp <;> omega)) _)))); rintro e w1 ⟨rfl, hbw1⟩)
    go_ret
    exact ⟨rfl, (by repeat (first | with_reducible exact Below.refl _ _ | with_reducible assumption | (with_reducible refine Below.trans ?_ (Below.mono (by assumption) (by first | omega | (simp <;> omega)))) | with_reducible apply Below.drew | with_reducible apply below_drewN | (with_reducible refine Below.alloc ?_ (by first | omega | (simp <;> omega)) _) | (with_reducible refine Below.setCell ?_ (by first | omega | (simp <;> omega)) _)))⟩
  · rw [hlm] at hgd
    rw [Bool.true_and]
    have HG := hide hgd
    by_cases hr : 1 ≤ m ∧ m ≤ 8
    · rw [pwB_in (by rw [hl]; exact hr), hpl]
      have hal := fun (W : World) (hW : WCells W gw m r) => l1All_any gw m cw r 0 ((n : Int) - 2) W hW hm hl
      have he : r.all (inP n) = allIn 0 ((n : Int) - 2) r := rfl
      rw [he]
      have hin := fun W => l1In_yes (n := (m : Int)) (lo := 1) (hi := 8) (by omega) W
      have HIN := hide hin; have HAL := hide hal; have HW := hide hw
      clear hgd hlm ha hw hin hal he hl
      generalize allIn 0 ((n : Int) - 2) r = z at *
      have s1 : IntKind.i64.wrap ((n : Int) - 2) = (n : Int) - 2 := IntWalk.i64_in _ (by omega)
      go_enter Try.func44, Try.ntmps44
      go_wp2_with (first
        | (go_at_call 51; (with_reducible refine ((unhide HG) _ (own_below (unhide HA) ?pb)).mono ?_); (case pb => exact (by repeat (first | with_reducible exact Below.refl _ _ | with_reducible assumption | (with_reducible refine Below.trans ?_ (Below.mono (by assumption) (by first | omega | (simp <;> omega)))) | with_reducible apply Below.drew | with_reducible apply below_drewN | (with_reducible refine Below.alloc ?_ (by first | omega | (simp <;> omega)) _) | (with_reducible refine Below.setCell ?_ (by first | omega | (simp <;> omega)) _)))); rintro e w1 ⟨rfl, hbw1⟩; have hz1 := hbw1.size)
        | (go_at_call 53; (with_reducible refine ((unhide HIN) _).mono ?_); rintro e w' ⟨rfl, rfl⟩)
        | (go_at_call 82; (with_reducible refine ((unhide HAL) _ ((unhide HW).below ?pb)).mono ?_); (case pb => exact (by repeat (first | with_reducible exact Below.refl _ _ | with_reducible assumption | (with_reducible refine Below.trans ?_ (Below.mono (by assumption) (by first | omega | (simp <;> omega)))) | with_reducible apply Below.drew | with_reducible apply below_drewN | (with_reducible refine Below.alloc ?_ (by first | omega | (simp <;> omega)) _) | (with_reducible refine Below.setCell ?_ (by first | omega | (simp <;> omega)) _)))); rintro e w3 ⟨rfl, hbw3⟩))
      go_ret
      exact ⟨rfl, (by repeat (first | with_reducible exact Below.refl _ _ | with_reducible assumption | (with_reducible refine Below.trans ?_ (Below.mono (by assumption) (by first | omega | (simp <;> omega)))) | with_reducible apply Below.drew | with_reducible apply below_drewN | (with_reducible refine Below.alloc ?_ (by first | omega | (simp <;> omega)) _) | (with_reducible refine Below.setCell ?_ (by first | omega | (simp <;> omega)) _)))⟩
    · rw [pwB_len (by rw [hl]; exact hr)]
      have hin := fun W => l1In_no (n := (m : Int)) (lo := 1) (hi := 8) (by omega) W
      have HIN := hide hin
      clear hgd hlm ha hw hin hl
      go_enter Try.func44, Try.ntmps44
      go_wp2_with (first
        | (go_at_call 51; (with_reducible refine ((unhide HG) _ (own_below (unhide HA) ?pb)).mono ?_); (case pb => exact (by repeat (first | with_reducible exact Below.refl _ _ | with_reducible assumption | (with_reducible refine Below.trans ?_ (Below.mono (by assumption) (by first | omega | (simp <;> omega)))) | with_reducible apply Below.drew | with_reducible apply below_drewN | (with_reducible refine Below.alloc ?_ (by first | omega | (simp <;> omega)) _) | (with_reducible refine Below.setCell ?_ (by first | omega | (simp <;> omega)) _)))); rintro e w1 ⟨rfl, hbw1⟩; have hz1 := hbw1.size)
        | (go_at_call 53; (with_reducible refine ((unhide HIN) _).mono ?_); rintro e w' ⟨rfl, rfl⟩))
      go_ret
      exact ⟨rfl, (by repeat (first | with_reducible exact Below.refl _ _ | with_reducible assumption | (with_reducible refine Below.trans ?_ (Below.mono (by assumption) (by first | omega | (simp <;> omega)))) | with_reducible apply Below.drew | with_reducible apply below_drewN | (with_reducible refine Below.alloc ?_ (by first | omega | (simp <;> omega)) _) | (with_reducible refine Below.setCell ?_ (by first | omega | (simp <;> omega)) _)))⟩
/-- The facts on a word of a map's pieces. -/
theorem peB_facts {A : Option Addr} {n c base : Nat} {ps : List Pt} {r : List Int} {w : World} (ha : w.ownsRow base 62 4 (.slice A n c) n (ptcs ps)) (hz : peB ps r = true) :
    ∃ (g : Nat) (qs : List QP), A = some ⟨g, 0, none⟩ ∧ ps = qs.map qp ∧ GMap qs ∧ qs.length = n ∧ (1 ≤ r.length ∧ r.length ≤ 8) ∧ ∀ k ∈ r, 0 ≤ k ∧ k ≤ (n : Int) - 2 := by
  have hpl := own_len ha
  unfold peB at hz
  rw [Bool.and_eq_true] at hz
  obtain ⟨hm, hp⟩ := hz
  have hp' := pwB_yes.1 hp
  obtain ⟨qs, rfl, hg⟩ := gmap_of hm
  obtain ⟨g, hA⟩ := own_form0 ha (by have := hg.lo; rw [List.length_map] at hpl; omega)
  subst hA
  have hlen : qs.length = n := by rw [List.length_map] at hpl; exact hpl
  exact ⟨g, qs, rfl, rfl, hg, hlen, hp'.1, by rw [hpl] at hp'; exact hp'.2⟩

set_option maxRecDepth 100000 in
set_option maxHeartbeats 1600000 in
theorem sLineOfWord_any (A : Option Addr) (n c base : Nat) (ps : List Pt) (g1 n1 c1 b1 : Nat) (r : List Int) (w : World) (ha : w.ownsRow base 62 4 (.slice A n c) n (ptcs ps)) (hn : n ≤ 1048576)
    (h1 : w.ownsRow b1 3 1 (.slice (some ⟨g1, 0, none⟩) n1 c1) n1 (ints r)) (hn1 : n1 ≤ 1048576) :
    Calls Try.prog 13 #[.slice A n c, .slice (some ⟨g1, 0, none⟩) n1 c1] w fun e w' =>
      e = .returned (.tuple #[.agg #[.int .i64 (oN (mO (lnO ps r))), .int .i64 (oD (mO (lnO ps r)))], .agg #[.int .i64 (oN (bO (lnO ps r))), .int .i64 (oD (bO (lnO ps r)))], .bool (lnO ps r).isSome]) ∧ Below w.heap.size w w' := by
  have hrl : r.length = n1 := by have := h1.1; rw [ints_len] at this; omega
  have hwg := fun W hW hw => peGood_any A n c base ps g1 n1 c1 r W hW hn hw hn1 hrl
  have hWC := WCells.own h1
  have HA := hide ha; have HWC := hide hWC
  rcases hz : peB ps r with _ | _
  · rw [lnO_no hz]
    rw [hz] at hwg
    have HWG := hide hwg
    clear hz ha h1 hrl hwg hWC
    go_enter Try.func13, Try.ntmps13
    go_wp2_with (go_at_call 44; (with_reducible refine ((unhide HWG) _ (own_below (unhide HA) ?pb) ((unhide HWC).below ?pb)).mono ?_); (case pb => exact (by repeat (first | with_reducible exact Below.refl _ _ | with_reducible assumption | (with_reducible refine Below.trans ?_ (Below.mono (by assumption) (by first | omega | (simp <;> omega)))) | with_reducible apply Below.drew | with_reducible apply below_drewN | (with_reducible refine Below.alloc ?_ (by first | omega | (simp <;> omega)) _) | (with_reducible refine Below.setCell ?_ (by first | omega | (simp <;> omega)) _)))); rintro e w1 ⟨rfl, hbw1⟩; have hs1 := hbw1.size; (skip; (try ((have kw1w0 := (bnew hbw1) (w.heap.size) ?pf); (case pf => (first | omega | (simp; done) | (simp; omega))); obtain ⟨kcw1w0, kfw1w0, klw1w0⟩ := kw1w0)); (try ((have kw1w1 := (bnew hbw1) (w.heap.size + 1) ?pf); (case pf => (first | omega | (simp; done) | (simp; omega))); obtain ⟨kcw1w1, kfw1w1, klw1w1⟩ := kw1w1))))
    exact bodyPost_ret (v := .tuple #[.agg #[.int .i64 (0), .int .i64 (0)], .agg #[.int .i64 (0), .int .i64 (0)], .bool false]) (by simp [results, Try.results13, go_sem, *]) rfl ⟨rfl, (by repeat (first | with_reducible exact Below.refl _ _ | with_reducible assumption | (with_reducible refine Below.trans ?_ (Below.mono (by assumption) (by first | omega | (simp <;> omega)))) | with_reducible apply Below.drew | with_reducible apply below_drewN | (with_reducible refine Below.alloc ?_ (by first | omega | (simp <;> omega)) _) | (with_reducible refine Below.setCell ?_ (by first | omega | (simp <;> omega)) _)))⟩
  · obtain ⟨g, qs, rfl, rfl, hg, hlen, hr8, hin⟩ := peB_facts ha hz
    rw [lnO_yes hz, hrl]
    rw [hz] at hwg
    have hln := fun W hW hw => peLine_q g n c base g1 n1 c1 qs r W hW hg hw hn1 hrl hin
    have HWG := hide hwg; have HLN := hide hln
    clear hz ha h1 hrl hwg hWC hln hin hr8 hlen
    generalize oN (mO (lineK qs r n1)) = x1 at *
    generalize oD (mO (lineK qs r n1)) = x2 at *
    generalize oN (bO (lineK qs r n1)) = x3 at *
    generalize oD (bO (lineK qs r n1)) = x4 at *
    generalize (lineK qs r n1).isSome = z at *
    go_enter Try.func13, Try.ntmps13
    go_wp2_with (first
      | (go_at_call 44; (with_reducible refine ((unhide HWG) _ (own_below (unhide HA) ?pb) ((unhide HWC).below ?pb)).mono ?_); (case pb => exact (by repeat (first | with_reducible exact Below.refl _ _ | with_reducible assumption | (with_reducible refine Below.trans ?_ (Below.mono (by assumption) (by first | omega | (simp <;> omega)))) | with_reducible apply Below.drew | with_reducible apply below_drewN | (with_reducible refine Below.alloc ?_ (by first | omega | (simp <;> omega)) _) | (with_reducible refine Below.setCell ?_ (by first | omega | (simp <;> omega)) _)))); rintro e w1 ⟨rfl, hbw1⟩; have hs1 := hbw1.size; (skip; (try ((have kw1w0 := (bnew hbw1) (w.heap.size) ?pf); (case pf => (first | omega | (simp; done) | (simp; omega))); obtain ⟨kcw1w0, kfw1w0, klw1w0⟩ := kw1w0)); (try ((have kw1w1 := (bnew hbw1) (w.heap.size + 1) ?pf); (case pf => (first | omega | (simp; done) | (simp; omega))); obtain ⟨kcw1w1, kfw1w1, klw1w1⟩ := kw1w1))))
      | (go_at_call 45; (with_reducible refine ((unhide HLN) _ (own_below (unhide HA) ?pb) ((unhide HWC).below ?pb)).mono ?_); (case pb => exact (by repeat (first | with_reducible exact Below.refl _ _ | with_reducible assumption | (with_reducible refine Below.trans ?_ (Below.mono (by assumption) (by first | omega | (simp <;> omega)))) | with_reducible apply Below.drew | with_reducible apply below_drewN | (with_reducible refine Below.alloc ?_ (by first | omega | (simp <;> omega)) _) | (with_reducible refine Below.setCell ?_ (by first | omega | (simp <;> omega)) _)))); rintro e w2 ⟨rfl, hbw2⟩; have hs2 := hbw2.size; (skip; (try ((have kw2w0 := (bnew hbw2) (w.heap.size) ?pf); (case pf => (first | omega | (simp; done) | (simp; omega))); obtain ⟨kcw2w0, kfw2w0, klw2w0⟩ := kw2w0)); (try ((have kw2w1 := (bnew hbw2) (w.heap.size + 1) ?pf); (case pf => (first | omega | (simp; done) | (simp; omega))); obtain ⟨kcw2w1, kfw2w1, klw2w1⟩ := kw2w1)))))
    exact bodyPost_ret (v := .tuple #[.agg #[.int .i64 (x1), .int .i64 (x2)], .agg #[.int .i64 (x3), .int .i64 (x4)], .bool z]) (by simp [results, Try.results13, go_sem, *]) rfl ⟨rfl, (by repeat (first | with_reducible exact Below.refl _ _ | with_reducible assumption | (with_reducible refine Below.trans ?_ (Below.mono (by assumption) (by first | omega | (simp <;> omega)))) | with_reducible apply Below.drew | with_reducible apply below_drewN | (with_reducible refine Below.alloc ?_ (by first | omega | (simp <;> omega)) _) | (with_reducible refine Below.setCell ?_ (by first | omega | (simp <;> omega)) _)))⟩

set_option maxRecDepth 100000 in
set_option maxHeartbeats 1600000 in
theorem sWordMultiplier_any (A : Option Addr) (n c base : Nat) (ps : List Pt) (g1 n1 c1 b1 : Nat) (r : List Int) (w : World) (ha : w.ownsRow base 62 4 (.slice A n c) n (ptcs ps)) (hn : n ≤ 1048576)
    (h1 : w.ownsRow b1 3 1 (.slice (some ⟨g1, 0, none⟩) n1 c1) n1 (ints r)) (hn1 : n1 ≤ 1048576) :
    Calls Try.prog 30 #[.slice A n c, .slice (some ⟨g1, 0, none⟩) n1 c1] w fun e w' =>
      e = .returned (.tuple #[.agg #[.int .i64 (oN (mO (lnO ps r))), .int .i64 (oD (mO (lnO ps r)))], .bool (lnO ps r).isSome]) ∧ Below w.heap.size w w' := by
  have hrl : r.length = n1 := by have := h1.1; rw [ints_len] at this; omega
  have hwg := fun W hW hw => peGood_any A n c base ps g1 n1 c1 r W hW hn hw hn1 hrl
  have hWC := WCells.own h1
  have HA := hide ha; have HWC := hide hWC
  rcases hz : peB ps r with _ | _
  · rw [lnO_no hz]
    rw [hz] at hwg
    have HWG := hide hwg
    clear hz ha h1 hrl hwg hWC
    go_enter Try.func30, Try.ntmps30
    go_wp2_with (go_at_call 44; (with_reducible refine ((unhide HWG) _ (own_below (unhide HA) ?pb) ((unhide HWC).below ?pb)).mono ?_); (case pb => exact (by repeat (first | with_reducible exact Below.refl _ _ | with_reducible assumption | (with_reducible refine Below.trans ?_ (Below.mono (by assumption) (by first | omega | (simp <;> omega)))) | with_reducible apply Below.drew | with_reducible apply below_drewN | (with_reducible refine Below.alloc ?_ (by first | omega | (simp <;> omega)) _) | (with_reducible refine Below.setCell ?_ (by first | omega | (simp <;> omega)) _)))); rintro e w1 ⟨rfl, hbw1⟩; have hs1 := hbw1.size; (skip; (try ((have kw1w0 := (bnew hbw1) (w.heap.size) ?pf); (case pf => (first | omega | (simp; done) | (simp; omega))); obtain ⟨kcw1w0, kfw1w0, klw1w0⟩ := kw1w0))))
    exact bodyPost_ret (v := .tuple #[.agg #[.int .i64 (0), .int .i64 (0)], .bool false]) (by simp [results, Try.results30, go_sem, *]) rfl ⟨rfl, (by repeat (first | with_reducible exact Below.refl _ _ | with_reducible assumption | (with_reducible refine Below.trans ?_ (Below.mono (by assumption) (by first | omega | (simp <;> omega)))) | with_reducible apply Below.drew | with_reducible apply below_drewN | (with_reducible refine Below.alloc ?_ (by first | omega | (simp <;> omega)) _) | (with_reducible refine Below.setCell ?_ (by first | omega | (simp <;> omega)) _)))⟩
  · obtain ⟨g, qs, rfl, rfl, hg, hlen, hr8, hin⟩ := peB_facts ha hz
    rw [lnO_yes hz, hrl]
    rw [hz] at hwg
    have hln := fun W hW hw => peLine_q g n c base g1 n1 c1 qs r W hW hg hw hn1 hrl hin
    have HWG := hide hwg; have HLN := hide hln
    clear hz ha h1 hrl hwg hWC hln hin hr8 hlen
    generalize oN (mO (lineK qs r n1)) = x1 at *
    generalize oD (mO (lineK qs r n1)) = x2 at *
    generalize oN (bO (lineK qs r n1)) = x3 at *
    generalize oD (bO (lineK qs r n1)) = x4 at *
    generalize (lineK qs r n1).isSome = z at *
    go_enter Try.func30, Try.ntmps30
    go_wp2_with (first
      | (go_at_call 44; (with_reducible refine ((unhide HWG) _ (own_below (unhide HA) ?pb) ((unhide HWC).below ?pb)).mono ?_); (case pb => exact (by repeat (first | with_reducible exact Below.refl _ _ | with_reducible assumption | (with_reducible refine Below.trans ?_ (Below.mono (by assumption) (by first | omega | (simp <;> omega)))) | with_reducible apply Below.drew | with_reducible apply below_drewN | (with_reducible refine Below.alloc ?_ (by first | omega | (simp <;> omega)) _) | (with_reducible refine Below.setCell ?_ (by first | omega | (simp <;> omega)) _)))); rintro e w1 ⟨rfl, hbw1⟩; have hs1 := hbw1.size; (skip; (try ((have kw1w0 := (bnew hbw1) (w.heap.size) ?pf); (case pf => (first | omega | (simp; done) | (simp; omega))); obtain ⟨kcw1w0, kfw1w0, klw1w0⟩ := kw1w0))))
      | (go_at_call 45; (with_reducible refine ((unhide HLN) _ (own_below (unhide HA) ?pb) ((unhide HWC).below ?pb)).mono ?_); (case pb => exact (by repeat (first | with_reducible exact Below.refl _ _ | with_reducible assumption | (with_reducible refine Below.trans ?_ (Below.mono (by assumption) (by first | omega | (simp <;> omega)))) | with_reducible apply Below.drew | with_reducible apply below_drewN | (with_reducible refine Below.alloc ?_ (by first | omega | (simp <;> omega)) _) | (with_reducible refine Below.setCell ?_ (by first | omega | (simp <;> omega)) _)))); rintro e w2 ⟨rfl, hbw2⟩; have hs2 := hbw2.size; (skip; (try ((have kw2w0 := (bnew hbw2) (w.heap.size) ?pf); (case pf => (first | omega | (simp; done) | (simp; omega))); obtain ⟨kcw2w0, kfw2w0, klw2w0⟩ := kw2w0)))))
    exact bodyPost_ret (v := .tuple #[.agg #[.int .i64 (x1), .int .i64 (x2)], .bool z]) (by simp [results, Try.results30, go_sem, *]) rfl ⟨rfl, (by repeat (first | with_reducible exact Below.refl _ _ | with_reducible assumption | (with_reducible refine Below.trans ?_ (Below.mono (by assumption) (by first | omega | (simp <;> omega)))) | with_reducible apply Below.drew | with_reducible apply below_drewN | (with_reducible refine Below.alloc ?_ (by first | omega | (simp <;> omega)) _) | (with_reducible refine Below.setCell ?_ (by first | omega | (simp <;> omega)) _)))⟩
end Go.Proofs.Ythccdooacbablaa

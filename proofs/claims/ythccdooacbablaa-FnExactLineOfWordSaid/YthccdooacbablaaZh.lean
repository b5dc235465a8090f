/-
  Chapter 8: the word of a list of numbers of pieces, LineOfWord and WordMultiplier, of the program.
-/
import Derived.Test.YthccdooacbablaaZg
import Derived.Test.YthccdooacbablaaRi
import Derived.Test.YthccdooacbablaaPb
import Derived.Test.YthccdooacbablaaOr
namespace Go.Proofs.Ythccdooacbablaa
open Go.RowKit Rm

theorem PcRow.boxed {w w' : World} {B R : Nat} {v : Value} {l : List (QP × QP)} {vs : List Value} {a : Option Addr} {b c : Nat} (h : PcRow w B v l vs) (hR : R < B) (r0 : w.cell? ⟨R, 0, none⟩ = some (.slice a b c)) (hg : w.grownBy w' (some R)) : PcRow w' B v l vs := by
  refine ⟨own_kept h.1 hg (fun k hk e => ?_), h.2.1, fun i p q hi => ?_⟩
  · have h1 := (h.1.lt k hk).1
    have h2 : k = R := Option.some.inj e
    omega
  · obtain ⟨v1, v2, e1, e2, hp⟩ := h.2.2 i p q hi
    refine ⟨v1, v2, e1, e2, hp.to hg.size fun b a hl h0 o => World.cell?_of_block (a := ⟨b, o, none⟩) (hg.block b hl (fun e => ?_))⟩
    have h2 : b = R := Option.some.inj e
    subst h2
    rw [r0] at h0
    injection h0 with h0
    cases h0
theorem zero_lw : lwV (.slice none 0 0) none = .agg #[.slice none 0 0, .int .i64 0, .int .i64 0, .int .i64 0, .int .i64 0] := rfl
theorem none_lw (v : Value) : lwV v none = .agg #[.slice none 0 0, .int .i64 0, .int .i64 0, .int .i64 0, .int .i64 0] := rfl
theorem some_lw (v : Value) (a b : Rat) : lwV v (some (a, b)) = .agg #[v, .int .i64 a.num, .int .i64 a.den, .int .i64 b.num, .int .i64 b.den] := rfl
def inP (n : Nat) (k : Int) : Bool := decide (0 ≤ k ∧ k ≤ (n : Int) - 2)

set_option maxRecDepth 100000 in
set_option maxHeartbeats 3200000 in
theorem wordOfMap_in (g n c base g1 n1 c1 b1 : Nat) (qs : List QP) (r : List Int) (w : World) (ha : w.ownsRow base 62 4 (.slice (some ⟨g, 0, none⟩) n c) n (ptcs (qs.map qp))) (hg : GMap qs) (hm : mapB (qs.map qp) = true) (hn : n ≤ 1048576)
    (h1 : w.ownsRow b1 3 1 (.slice (some ⟨g1, 0, none⟩) n1 c1) n1 (ints r)) (hr1 : 1 ≤ n1) (hr8 : n1 ≤ 8) :
    Calls Try.prog 47 #[.slice (some ⟨g, 0, none⟩) n c, .slice (some ⟨g1, 0, none⟩) n1 c1] w fun e w' =>
      (r.all (inP n) = false → e = .returned (.tuple #[lwV (.slice none 0 0) none, .bool false])) ∧
      (r.all (inP n) = true → ∃ (A2 : Option Addr) (c2 : Nat) (vs : List Value), e = .returned (.tuple #[lwV (.slice A2 n1 c2) (lineK qs r n1), .bool (lineK qs r n1).isSome]) ∧ PcRow w' (w.heap.size + 1) (.slice A2 n1 c2) (wdL qs r) vs) ∧ Below w.heap.size w w' := by
  obtain ⟨i0, hi0, hz0, hz1, hz2⟩ := info_parts iPiece
  have hlen : qs.length = n := by have := own_len ha; rw [List.length_map] at this; exact this
  have hlo := hg.lo
  have hhi := hg.hi
  rw [hlen] at hlo hhi
  have hrl : r.length = n1 := by have := h1.1; rw [ints_len] at this; omega
  have hmap := fun W hW => isMap_any (some ⟨g, 0, none⟩) n c base (qs.map qp) W hW hn
  rw [hm] at hmap
  have hpm := fun W hW => piecesOfMap_q g n c base qs W hW hg
  obtain ⟨z, hz⟩ : ∃ z, z = r.all (inP n) := ⟨_, rfl⟩
  rw [← hz]
  have HZ := Lib.hid hz; have HM := hide hmap; have HPM := hide hpm; have HA := hide ha; have HW := hide h1; have HG := Lib.hid hg; have HL := Lib.hid hlen; have HRL := Lib.hid hrl
  clear hz hmap hpm ha h1 hg hlen hrl hm
  have d1 : decide ((n1 : Int) < 1) = false := decide_eq_false (by omega)
  have d2 : decide ((n1 : Int) > 8) = false := decide_eq_false (by omega)
  go_enter Try.func47, Try.ntmps47
  go_wp2_with (first
    | (go_at_call 88; (with_reducible refine ((unhide HM) _ (own_below (unhide HA) ?pb)).mono ?_); (case pb => exact (by repeat (first | with_reducible exact Below.refl _ _ | with_reducible assumption | (with_reducible refine Below.trans ?_ (Below.mono (by assumption) (by first | omega | (simp <;> omega)))) | with_reducible apply Below.drew | with_reducible apply below_drewN | (with_reducible refine Below.alloc ?_ (by first | omega | (simp <;> omega)) _) | (with_reducible refine Below.setCell ?_ (by first | omega | (simp <;> omega)) _)))); rintro e w1 ⟨rfl, hbw1⟩; have hs1 := hbw1.size; (skip; (try ((have kw1w0 := (bnew hbw1) (w.heap.size) ?pf); (case pf => (first | omega | (simp; done) | (simp; omega))); obtain ⟨kcw1w0, kfw1w0, klw1w0⟩ := kw1w0))))
    | (go_at_call 89; (with_reducible refine ((unhide HPM) _ (own_below (unhide HA) ?pb)).mono ?_); (case pb => exact (by repeat (first | with_reducible exact Below.refl _ _ | with_reducible assumption | (with_reducible refine Below.trans ?_ (Below.mono (by assumption) (by first | omega | (simp <;> omega)))) | with_reducible apply Below.drew | with_reducible apply below_drewN | (with_reducible refine Below.alloc ?_ (by first | omega | (simp <;> omega)) _) | (with_reducible refine Below.setCell ?_ (by first | omega | (simp <;> omega)) _)))); rintro e w2 ⟨A2, d2', vs2, rfl, hrow2, hbw2⟩; have hs2 := hbw2.size; (skip; (try ((have kw2w0 := (bnew hbw2) (w.heap.size) ?pf); (case pf => (first | omega | (simp; done) | (simp; omega))); obtain ⟨kcw2w0, kfw2w0, klw2w0⟩ := kw2w0))); have HROW := hide hrow2; clear hrow2))
  -- ROUND
  have r0 : w2.cell? ⟨w.heap.size, 0, none⟩ = some (.slice none 0 0) := by rw [kcw2w0, kcw1w0]; simp [go_sem]
  have r1 : w2.cell? ⟨w.heap.size, 1, none⟩ = some (.int .i64 0) := by rw [kcw2w0, kcw1w0]; simp [go_sem]
  have r2 : w2.cell? ⟨w.heap.size, 2, none⟩ = some (.int .i64 0) := by rw [kcw2w0, kcw1w0]; simp [go_sem]
  have r3 : w2.cell? ⟨w.heap.size, 3, none⟩ = some (.int .i64 0) := by rw [kcw2w0, kcw1w0]; simp [go_sem]
  have r4 : w2.cell? ⟨w.heap.size, 4, none⟩ = some (.int .i64 0) := by rw [kcw2w0, kcw1w0]; simp [go_sem]
  have rf : ∀ o, w2.frozen? ⟨w.heap.size, o, none⟩ = false := fun o => by rw [kfw2w0, kfw1w0]; simp [go_sem]
  have hR2 : w.heap.size < w2.heap.size := klw2w0
  have hb0 : Below w.heap.size w w2 := (by repeat (first | with_reducible exact Below.refl _ _ | with_reducible assumption | (with_reducible refine Below.trans ?_ (Below.mono (by assumption) (by first | omega | (simp <;> omega)))) | with_reducible apply Below.drew | with_reducible apply below_drewN | (with_reducible refine Below.alloc ?_ (by first | omega | (simp <;> omega)) _) | (with_reducible refine Below.setCell ?_ (by first | omega | (simp <;> omega)) _)))
  have HBQ := hide hb0; have HW2 := hide (own_below (unhide HW) hb0)
  clear kcw1w0 kfw1w0 klw1w0 kcw2w0 kfw2w0 klw2w0 hbw1 hbw2 hb0 hs1 hs2 HM HPM
  go_loopw [7, 28] (fun v i wr => ∃ (j : Nat) (u : Value) (vs : List Value), i = .int .i64 (j : Int) ∧ u = v ∧ j ≤ n1 ∧ Hid (∀ k ∈ r.take j, inP n k = true) ∧ PcRow wr w2.heap.size u (wdL qs (r.take j)) vs ∧ Below w2.heap.size w2 wr) (fun _ i _ => n1 - (intOf i).toNat)
  case atStart => exact ⟨0, _, [], rfl, rfl, by omega, hide (fun k h => by simp at h), PcRow.nil _ _, Below.refl _ _⟩
  case round =>
    obtain ⟨j, u, vs, rfl, rfl, hj, hin, hrow, hbwr⟩ := hrel
    have hzwr := hbwr.size
    have q0 := (hbwr.cell (p := ⟨w.heap.size, 0, none⟩) hR2).trans r0
    have q1 := (hbwr.cell (p := ⟨w.heap.size, 1, none⟩) hR2).trans r1
    have q2 := (hbwr.cell (p := ⟨w.heap.size, 2, none⟩) hR2).trans r2
    have q3 := (hbwr.cell (p := ⟨w.heap.size, 3, none⟩) hR2).trans r3
    have q4 := (hbwr.cell (p := ⟨w.heap.size, 4, none⟩) hR2).trans r4
    have qf := fun o => (hbwr.frozen (p := ⟨w.heap.size, o, none⟩) hR2).trans (rf o)
    have lR : w.heap.size < wr.heap.size := by omega
    have hb := (unhide HBQ).trans (hbwr.mono (unhide HBQ).size)
    by_cases hlt : j < n1
    · have hjr : j < r.length := by rw [HRL.out]; exact hlt
      obtain ⟨gg, hgg, hgl1, _, hc0⟩ := word_cell (own_below (unhide HW2) hbwr) hlt
      obtain rfl : g1 = gg := (Addr.mk.inj (Option.some.inj hgg)).1
      have htk := wdL_take (qs := qs) hjr
      have htk2 : r.take (j + 1) = r.take j ++ [r.getD j 0] := by rw [List.take_succ_eq_append_getElem hjr]; simp [hjr]
      have hlk : (r.take j).length = j := by rw [List.length_take]; omega
      have hnx : inP n (r.getD j 0) = true → ∀ k ∈ r.take (j + 1), inP n k = true := fun h k hk => by
        rw [htk2] at hk
        rcases List.mem_append.1 hk with hk | hk
        · exact (unhide hin) k hk
        · rw [List.mem_singleton.1 hk]; exact h
      have hbad : inP n (r.getD j 0) = false → z = false := fun h => by
        rw [HZ.out, List.all_eq_false]
        exact ⟨_, mem_getD hjr, by rw [h]; decide⟩
      have hrow2 := (unhide HROW).below hbwr
      have hown := hrow.1
      have hwl : (wdL qs (r.take j)).length = j := by unfold wdL; rw [List.length_map, hlk]
      rw [hwl] at hown
      have HNX := hide hnx; have HBAD := hide hbad; have HB := hide hb; have HBW := hide hbwr; have HRW := hide hrow; have HR2 := hide hrow2; have HO := hide hown; have HTK := Lib.hid htk; have HWL := Lib.hid hwl
      clear hnx hbad hb hbwr hrow hrow2 hown htk htk2 hlk hgg hin hwl
      obtain ⟨x, hx⟩ : ∃ x, x = r.getD j 0 := ⟨_, rfl⟩
      rw [← hx] at HNX HBAD hc0 HTK
      have HX := Lib.hid hx; clear hx
      by_cases hok : 0 ≤ x ∧ x ≤ (n : Int) - 2
      · obtain ⟨k, rfl⟩ : ∃ k : Nat, x = (k : Int) := ⟨x.toNat, by omega⟩
        have hn1 := hide ((unhide HNX) (decide_eq_true hok))
        have hkn : k < n - 1 := by omega
        obtain ⟨ga, v1, v2, rfl, hgal, y0, y1, hpc⟩ := (unhide HR2).at (pcL_at (qs := qs) (k := n - 1) hkn)
        obtain ⟨ge, bs, bt, rfl, rfl, hrest⟩ := hpc
        have hpc : PcAt wr (.slice (some ⟨ge, 0, none⟩) 2 2) (.func (.func 159) #[] #[.pointer (some ⟨bs, 0, none⟩), .pointer (some ⟨bt, 0, none⟩)]) (qAt qs k) (qAt qs (k + 1)) := ⟨ge, bs, bt, rfl, rfl, hrest⟩
        have HPC := hide hpc
        have e1 : decide ((k : Int) < 0) = false := decide_eq_false (by omega)
        have e2 : decide ((k : Int) ≥ ((n - 1 : Nat) : Int)) = false := decide_eq_false (by omega)
        have e3 : (k : Int) < ((n - 1 : Nat) : Int) := by omega
        have e4 : (0 : Int) ≤ (k : Int) := by omega
        have hvB : ∀ j, u.ownBlock = some j → w2.heap.size ≤ j := fun j e => ((unhide HO).lt j e).1
        have HV := hide hvB
        clear hpc hrest hvB HBAD HNX hok r0 r1 r2 r3 r4 rf HR2
        obtain ⟨N, hN⟩ : ∃ N, N = n - 1 := ⟨_, rfl⟩
        rw [← hN] at hkn e2 e3 ⊢
        have HNN := Lib.hid hN; clear hN
        have e5 : ¬ N ≤ k := by omega
        have e6 : decide (N ≤ k) = false := decide_eq_false e5
        go_wp2_with (at_builtin; refine wpList_append_any rfl _ _ _ rfl w2.heap.size 123 i0 _ 2 32 Try.underlying66 hi0 hz0 hz1 hz2 rfl (by omega) u j vs rfl ((unhide HO).alloc _) _ 1 [.slice (some ⟨ge, 0, none⟩) 2 2, .func (.func 159) #[] #[.pointer (some ⟨bs, 0, none⟩), .pointer (some ⟨bt, 0, none⟩)]] rfl (zlies_two (by simp [go_sem]) (by simp [go_sem])) rfl (by simp [Value.oneCell']) (Nat.le_trans (by omega) maxLen_ge) (by omega) (by first | omega | (simp <;> omega)) (j + 1) rfl ?_; intro A5 c5 w5 hown5 hgrow5)
        have hby : Below wr.heap.size wr (wr.alloc (.cells #[.slice (some ⟨ge, 0, none⟩) 2 2, .func (.func 159) #[] #[.pointer (some ⟨bs, 0, none⟩), .pointer (some ⟨bt, 0, none⟩)]] 123)) := (by repeat (first | with_reducible exact Below.refl _ _ | with_reducible assumption | (with_reducible refine Below.trans ?_ (Below.mono (by assumption) (by first | omega | (simp <;> omega)))) | with_reducible apply Below.drew | with_reducible apply below_drewN | (with_reducible refine Below.alloc ?_ (by first | omega | (simp <;> omega)) _) | (with_reducible refine Below.setCell ?_ (by first | omega | (simp <;> omega)) _)))
        have hbz : Below w2.heap.size w2 w5 := Below.grown ((unhide HBW).trans (hby.mono (unhide HBW).size)) hgrow5 (by have := hby.size; omega) (unhide HV)
        have hrow5 := (unhide HRW).snoc hby ((unhide HPC).below hby) (by rw [HWL.out]; exact hown5) hgrow5
        rw [show (qAt qs k, qAt qs (k + 1)) = (qAt qs ((k : Int)).toNat, qAt qs (((k : Int)).toNat + 1)) from rfl, ← HTK.out] at hrow5
        have HO5 := hide hrow5; have HBZ := hide hbz
        clear hown5 hbz hgrow5 hby hrow5
        go_wp2_with fail
        go_roundw
        case rel => exact ⟨j + 1, _, _, by go_num, rfl, by omega, hn1, unhide HO5, unhide HBZ⟩
        case measure => (simp [intOf] <;> omega)
      · obtain rfl := (unhide HBAD) (decide_eq_false hok)
        clear HBAD HNX r0 r1 r2 r3 r4 rf HR2
        by_cases h0 : x < 0
        · go_wp2_with fail
          have hb := unhide HB
          exact bodyPost_ret (v := .tuple #[.agg #[.slice none 0 0, .int .i64 0, .int .i64 0, .int .i64 0, .int .i64 0], .bool false]) (by simp [results, Try.results47, go_sem, *]) rfl ⟨rfl, (by repeat (first | with_reducible exact Below.refl _ _ | with_reducible assumption | (with_reducible refine Below.trans ?_ (Below.mono (by assumption) (by first | omega | (simp <;> omega)))) | with_reducible apply Below.drew | with_reducible apply below_drewN | (with_reducible refine Below.alloc ?_ (by first | omega | (simp <;> omega)) _) | (with_reducible refine Below.setCell ?_ (by first | omega | (simp <;> omega)) _)))⟩
        · have e2 : decide (x ≥ ((n - 1 : Nat) : Int)) = true := decide_eq_true (by omega)
          have e1 : decide (x < 0) = false := decide_eq_false h0
          go_wp2_with fail
          have hb := unhide HB
          exact bodyPost_ret (v := .tuple #[.agg #[.slice none 0 0, .int .i64 0, .int .i64 0, .int .i64 0, .int .i64 0], .bool false]) (by simp [results, Try.results47, go_sem, *]) rfl ⟨rfl, (by repeat (first | with_reducible exact Below.refl _ _ | with_reducible assumption | (with_reducible refine Below.trans ?_ (Below.mono (by assumption) (by first | omega | (simp <;> omega)))) | with_reducible apply Below.drew | with_reducible apply below_drewN | (with_reducible refine Below.alloc ?_ (by first | omega | (simp <;> omega)) _) | (with_reducible refine Below.setCell ?_ (by first | omega | (simp <;> omega)) _)))⟩
    · obtain rfl : j = n1 := by omega
      have hta : r.take j = r := by rw [← HRL.out, List.take_length]
      rw [hta] at hrow hin
      obtain rfl : z = true := by rw [HZ.out, List.all_eq_true]; exact fun k hk => (unhide hin) k hk
      have hin2 := unhide hin
      obtain ⟨A5, c5, hA5⟩ := own_slice hrow.1
      have hwl : (wdL qs r).length = j := by unfold wdL; rw [List.length_map, HRL.out]
      rw [hwl] at hA5
      subst hA5
      have hf : ∀ x ∈ wdL qs r, fits (slopeR x.1 x.2) = true := fun x hx => by
        unfold wdL at hx
        obtain ⟨k, hk, rfl⟩ := List.mem_map.1 hx
        have h := of_decide_eq_true (hin2 k hk)
        have hkl : k.toNat + 1 < qs.length := by rw [HL.out]; omega
        exact slope_fits (HG.out.cx _ (by omega)) (HG.out.cy _ (by omega)) (HG.out.cx _ hkl) (HG.out.cy _ hkl) (HG.out.inc _ hkl)
      have hwl2 := fun W (hW : Below wr.heap.size wr W) => withLine_q A5 j c5 w2.heap.size (wdL qs r) vs W (hrow.below hW) hwl (by omega) hf
      have hlw : lineP (wdL qs r) j = lineK qs r j := lineP_word j (by rw [HRL.out]; exact Nat.le_refl _)
      rw [hlw] at hwl2
      have HRW := hide hrow; have HB := hide hb
      clear hrow hb hin hin2 hta hf hlw hwl r0 r1 r2 r3 r4 rf hbwr
      rcases hlk : lineK qs r j with _ | ⟨ma, mb⟩
      · rw [hlk] at hwl2
        simp only [none_lw, Option.isSome_none] at hwl2
        have hpo : lwV (.slice A5 j c5) none = .agg #[.slice none 0 0, .int .i64 0, .int .i64 0, .int .i64 0, .int .i64 0] := rfl
        have HWL := hide hwl2; have HPO := Lib.hid hpo; have HLK := Lib.hid hlk; clear hwl2 hlk hpo
        go_wp2_with (go_at_call 90; (with_reducible refine ((unhide HWL) _ ?pb).mono ?_); (case pb => exact (by repeat (first | with_reducible exact Below.refl _ _ | with_reducible assumption | (with_reducible refine Below.trans ?_ (Below.mono (by assumption) (by first | omega | (simp <;> omega)))) | with_reducible apply Below.drew | with_reducible apply below_drewN | (with_reducible refine Below.alloc ?_ (by first | omega | (simp <;> omega)) _) | (with_reducible refine Below.setCell ?_ (by first | omega | (simp <;> omega)) _)))); rintro e w7 ⟨rfl, hbw7⟩; have hs7 := hbw7.size; (try simp at hs7); have p0 : w7.cell? ⟨w.heap.size, 0, none⟩ = some (.slice none 0 0) := (hbw7.cell (p := ⟨w.heap.size, 0, none⟩) (by first | exact lR | (simp; omega))).trans (by simp [go_sem, *]); have p1 : w7.cell? ⟨w.heap.size, 1, none⟩ = some (.int .i64 0) := (hbw7.cell (p := ⟨w.heap.size, 1, none⟩) (by first | exact lR | (simp; omega))).trans (by simp [go_sem, *]); have p2 : w7.cell? ⟨w.heap.size, 2, none⟩ = some (.int .i64 0) := (hbw7.cell (p := ⟨w.heap.size, 2, none⟩) (by first | exact lR | (simp; omega))).trans (by simp [go_sem, *]); have p3 : w7.cell? ⟨w.heap.size, 3, none⟩ = some (.int .i64 0) := (hbw7.cell (p := ⟨w.heap.size, 3, none⟩) (by first | exact lR | (simp; omega))).trans (by simp [go_sem, *]); have p4 : w7.cell? ⟨w.heap.size, 4, none⟩ = some (.int .i64 0) := (hbw7.cell (p := ⟨w.heap.size, 4, none⟩) (by first | exact lR | (simp; omega))).trans (by simp [go_sem, *]); have pz : ∀ o, w7.frozen? ⟨w.heap.size, o, none⟩ = false := (fun o => (hbw7.frozen (p := ⟨w.heap.size, o, none⟩) (by first | exact lR | (simp; omega))).trans (by simp [go_sem, *])))
        have hb := unhide HB
        have hb7 : Below w.heap.size w w7 := (by repeat (first | with_reducible exact Below.refl _ _ | with_reducible assumption | (with_reducible refine Below.trans ?_ (Below.mono (by assumption) (by first | omega | (simp <;> omega)))) | with_reducible apply Below.drew | with_reducible apply below_drewN | (with_reducible refine Below.alloc ?_ (by first | omega | (simp <;> omega)) _) | (with_reducible refine Below.setCell ?_ (by first | omega | (simp <;> omega)) _)))
        have hgs := grown_set (grown_set (grown_set (grown_set (grown_set (World.grownBy.refl w7 (some w.heap.size)) 0 (Value.slice none 0 0)) 1 (Value.int .i64 0)) 2 (Value.int .i64 0)) 3 (Value.int .i64 0)) 4 (Value.int .i64 0)
        have hrow7 := ((unhide HRW).below hbw7).boxed (R := w.heap.size) hR2 p0 hgs
        have HR7 := hide (hrow7.mono (B' := w.heap.size + 1) hR2)
        clear hrow7 hgs HRW
        exact bodyPost_ret (v := .tuple #[.agg #[.slice none 0 0, .int .i64 0, .int .i64 0, .int .i64 0, .int .i64 0], .bool false]) (by simp [results, Try.results47, go_sem, *]) rfl ⟨⟨A5, c5, by rw [HLK.out, HPO.out]; rfl, vs, unhide HR7⟩, (by repeat (first | with_reducible exact Below.refl _ _ | with_reducible assumption | (with_reducible refine Below.trans ?_ (Below.mono (by assumption) (by first | omega | (simp <;> omega)))) | with_reducible apply Below.drew | with_reducible apply below_drewN | (with_reducible refine Below.alloc ?_ (by first | omega | (simp <;> omega)) _) | (with_reducible refine Below.setCell ?_ (by first | omega | (simp <;> omega)) _)))⟩
      · rw [hlk] at hwl2
        simp only [some_lw, Option.isSome_some] at hwl2
        have hpo : lwV (.slice A5 j c5) (some (ma, mb)) = .agg #[.slice A5 j c5, .int .i64 ma.num, .int .i64 ma.den, .int .i64 mb.num, .int .i64 mb.den] := rfl
        generalize ma.num = x1 at hpo hwl2
        generalize (ma.den : Int) = x2 at hpo hwl2
        generalize mb.num = x3 at hpo hwl2
        generalize (mb.den : Int) = x4 at hpo hwl2
        have HWL := hide hwl2; have HPO := Lib.hid hpo; have HLK := Lib.hid hlk; clear hwl2 hlk hpo
        go_wp2_with (go_at_call 90; (with_reducible refine ((unhide HWL) _ ?pb).mono ?_); (case pb => exact (by repeat (first | with_reducible exact Below.refl _ _ | with_reducible assumption | (with_reducible refine Below.trans ?_ (Below.mono (by assumption) (by first | omega | (simp <;> omega)))) | with_reducible apply Below.drew | with_reducible apply below_drewN | (with_reducible refine Below.alloc ?_ (by first | omega | (simp <;> omega)) _) | (with_reducible refine Below.setCell ?_ (by first | omega | (simp <;> omega)) _)))); rintro e w7 ⟨rfl, hbw7⟩; have hs7 := hbw7.size; (try simp at hs7); have p0 : w7.cell? ⟨w.heap.size, 0, none⟩ = some (.slice none 0 0) := (hbw7.cell (p := ⟨w.heap.size, 0, none⟩) (by first | exact lR | (simp; omega))).trans (by simp [go_sem, *]); have p1 : w7.cell? ⟨w.heap.size, 1, none⟩ = some (.int .i64 0) := (hbw7.cell (p := ⟨w.heap.size, 1, none⟩) (by first | exact lR | (simp; omega))).trans (by simp [go_sem, *]); have p2 : w7.cell? ⟨w.heap.size, 2, none⟩ = some (.int .i64 0) := (hbw7.cell (p := ⟨w.heap.size, 2, none⟩) (by first | exact lR | (simp; omega))).trans (by simp [go_sem, *]); have p3 : w7.cell? ⟨w.heap.size, 3, none⟩ = some (.int .i64 0) := (hbw7.cell (p := ⟨w.heap.size, 3, none⟩) (by first | exact lR | (simp; omega))).trans (by simp [go_sem, *]); have p4 : w7.cell? ⟨w.heap.size, 4, none⟩ = some (.int .i64 0) := (hbw7.cell (p := ⟨w.heap.size, 4, none⟩) (by first | exact lR | (simp; omega))).trans (by simp [go_sem, *]); have pz : ∀ o, w7.frozen? ⟨w.heap.size, o, none⟩ = false := (fun o => (hbw7.frozen (p := ⟨w.heap.size, o, none⟩) (by first | exact lR | (simp; omega))).trans (by simp [go_sem, *])))
        have hb := unhide HB
        have hb7 : Below w.heap.size w w7 := (by repeat (first | with_reducible exact Below.refl _ _ | with_reducible assumption | (with_reducible refine Below.trans ?_ (Below.mono (by assumption) (by first | omega | (simp <;> omega)))) | with_reducible apply Below.drew | with_reducible apply below_drewN | (with_reducible refine Below.alloc ?_ (by first | omega | (simp <;> omega)) _) | (with_reducible refine Below.setCell ?_ (by first | omega | (simp <;> omega)) _)))
        have hgs := grown_set (grown_set (grown_set (grown_set (grown_set (World.grownBy.refl w7 (some w.heap.size)) 0 (Value.slice A5 j c5)) 1 (Value.int .i64 x1)) 2 (Value.int .i64 x2)) 3 (Value.int .i64 x3)) 4 (Value.int .i64 x4)
        have hrow7 := ((unhide HRW).below hbw7).boxed (R := w.heap.size) hR2 p0 hgs
        have HR7 := hide (hrow7.mono (B' := w.heap.size + 1) hR2)
        clear hrow7 hgs HRW
        exact bodyPost_ret (v := .tuple #[.agg #[.slice A5 j c5, .int .i64 x1, .int .i64 x2, .int .i64 x3, .int .i64 x4], .bool true]) (by simp [results, Try.results47, go_sem, *]) rfl ⟨⟨A5, c5, by rw [HLK.out, HPO.out]; rfl, vs, unhide HR7⟩, (by repeat (first | with_reducible exact Below.refl _ _ | with_reducible assumption | (with_reducible refine Below.trans ?_ (Below.mono (by assumption) (by first | omega | (simp <;> omega)))) | with_reducible apply Below.drew | with_reducible apply below_drewN | (with_reducible refine Below.alloc ?_ (by first | omega | (simp <;> omega)) _) | (with_reducible refine Below.setCell ?_ (by first | omega | (simp <;> omega)) _)))⟩
-- END
end Go.Proofs.Ythccdooacbablaa

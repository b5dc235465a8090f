/-
  Chapter 5: the model: points made simple if they are a map; values and places before values at fractions from 0 to 1.
-/
import Derived.Test.YtjggjegjhcpjhaaGreatEa
namespace Go.Proofs.YtjggjegjhcpjhaaGreat
open Go.RowKit Rm

theorem coA_at {l : List QP} {i : Nat} (hi : i < l.length) (h : coD (qAt l i).1 = false ∨ coD (qAt l i).2 = false) : coA l = false := by
  cases hc : coA l with
  | false => rfl
  | true =>
    have := List.all_eq_true.1 hc _ (List.getElem_mem hi)
    rw [← qAt_elem hi] at this
    rcases h with h | h <;> rw [h] at this <;> simp at this
theorem coA_all {l : List QP} (h : ∀ i, i < l.length → coD (qAt l i).1 = true ∧ coD (qAt l i).2 = true) : coA l = true := by
  refine List.all_eq_true.2 fun p hp => ?_
  obtain ⟨i, hi, e⟩ := List.mem_iff_getElem.1 hp
  obtain ⟨h1, h2⟩ := h i hi
  rw [qAt_elem hi, e] at h1 h2
  simp [h1, h2]
set_option maxRecDepth 100000 in
set_option maxHeartbeats 1600000 in
theorem coIf_any (g n c base : Nat) (l : List QP) (w : World) (ha : w.ownsRow base 63 4 (.slice (some ⟨g, 0, none⟩) n c) n (ptcs (l.map qp))) (hn1 : 1 ≤ n) (hn : n ≤ 1000) (hS : coA l = true → SMap l ∧ (qAt l 0).1 = 0 ∧ (qAt l (l.length - 1)).1 = 1) :
    Calls Tryz.prog 86 #[.slice (some ⟨g, 0, none⟩) n c] w fun e w' => PtO w.heap.size (ifO l) e w' ∧ Below w.heap.size w w' := by
  have hlen := own_lenQ ha
  have hgl := (ha.lt g rfl).2
  have HA := hide ha; have HL := Lib.hid hlen; have HS := hide hS
  clear ha hlen hS
  go_enter Tryz.func86, Tryz.ntmps86
  go_wp2
  go_loopw [9] (fun i wr => ∃ k : Nat, i = .int .i64 k ∧ k ≤ n ∧ Hid (∀ t, t < k → coD (qAt l t).1 = true ∧ coD (qAt l t).2 = true) ∧ Below w.heap.size w wr) (fun i _ => n - (intOf i).toNat)
  case atStart => exact ⟨0, rfl, Nat.zero_le _, hide (fun t ht => absurd ht (by omega)), Below.refl _ _⟩
  case round =>
    obtain ⟨k, rfl, hk, HC, hbwr⟩ := hrel
    have hsr := hbwr.size
    by_cases hlt : k < n
    · have hkl : k < l.length := by rw [HL.out]; exact hlt
      obtain ⟨k0, k1, k2, k3⟩ := q_cells (own_below (unhide HA) hbwr) (k := k) hlt
      have hcx := fun W => raUnit_any_co (qAt l k).1.num (qAt l k).1.den W
      have hcy := fun W => raUnit_any_co (qAt l k).2.num (qAt l k).2.den W
      have ex : coB ((qAt l k).1.num, ((qAt l k).1.den : Int)) = coD (qAt l k).1 := rfl
      have ey : coB ((qAt l k).2.num, ((qAt l k).2.den : Int)) = coD (qAt l k).2 := rfl
      rw [ex] at hcx
      rw [ey] at hcy
      clear ex ey
      have HB := hide hbwr; clear hbwr
      cases h1 : coD (qAt l k).1 with
      | false =>
        rw [h1] at hcx
        have HN := Lib.hid (show ifO l = none by unfold ifO; rw [coA_at hkl (.inl h1)]; rfl)
        have HCX := hide hcx
        clear hcx hcy h1 hkl
        generalize (qAt l k).1.num = f1 at *
        generalize ((qAt l k).1.den : Int) = f2 at *
        generalize (qAt l k).2.num = f3 at *
        generalize ((qAt l k).2.den : Int) = f4 at *
        go_wp2_with (go_at_call 93; (with_reducible refine ((unhide HCX) _).mono ?_); rintro e w3 ⟨rfl, hbw3⟩)
        have hb := unhide HB
        have hz : Below w.heap.size w w3 := (by repeat (first | with_reducible exact Below.refl _ _ | with_reducible assumption | (with_reducible refine Below.trans ?_ (Below.mono (by assumption) (by first | omega | (simp <;> omega)))) | with_reducible apply Below.drew | with_reducible apply below_drewN | (with_reducible refine Below.alloc ?_ (by first | omega | (simp <;> omega)) _) | (with_reducible refine Below.setCell ?_ (by first | omega | (simp <;> omega)) _)))
        go_ret2
        exact ⟨⟨fun l h => (by rw [HN.out] at h; cases h), fun _ => rfl⟩, hz⟩
      | true =>
        rw [h1] at hcx
        have HCX := hide hcx
        cases h2 : coD (qAt l k).2 with
        | false =>
          rw [h2] at hcy
          have HN := Lib.hid (show ifO l = none by unfold ifO; rw [coA_at hkl (.inr h2)]; rfl)
          have HCY := hide hcy
          clear hcx hcy h1 h2 hkl
          generalize (qAt l k).1.num = f1 at *
          generalize ((qAt l k).1.den : Int) = f2 at *
          generalize (qAt l k).2.num = f3 at *
          generalize ((qAt l k).2.den : Int) = f4 at *
          go_wp2_with (first
            | (go_at_call 93; (with_reducible refine ((unhide HCX) _).mono ?_); rintro e w3 ⟨rfl, hbw3⟩; have hsw3 := hbw3.size; (try simp at hsw3); (skip; (try ((have kw3wr0 := (bnew hbw3) (wr.heap.size) ?pf); (case pf => (first | omega | (simp; done) | (simp; omega))); obtain ⟨kcw3wr0, kfw3wr0, klw3wr0⟩ := kw3wr0))))
            | (go_at_call 93; (with_reducible refine ((unhide HCY) _).mono ?_); rintro e w4 ⟨rfl, hbw4⟩))
          have hb := unhide HB
          have hz : Below w.heap.size w w4 := (by repeat (first | with_reducible exact Below.refl _ _ | with_reducible assumption | (with_reducible refine Below.trans ?_ (Below.mono (by assumption) (by first | omega | (simp <;> omega)))) | with_reducible apply Below.drew | with_reducible apply below_drewN | (with_reducible refine Below.alloc ?_ (by first | omega | (simp <;> omega)) _) | (with_reducible refine Below.setCell ?_ (by first | omega | (simp <;> omega)) _)))
          go_ret2
          exact ⟨⟨fun l h => (by rw [HN.out] at h; cases h), fun _ => rfl⟩, hz⟩
        | true =>
          rw [h2] at hcy
          have HCY := hide hcy
          have HC' := hide (show ∀ t, t < k + 1 → coD (qAt l t).1 = true ∧ coD (qAt l t).2 = true from fun t ht => by
            by_cases htk : t = k
            · rw [htk]; exact ⟨h1, h2⟩
            · exact (unhide HC) t (by omega))
          clear hcx hcy h1 h2 hkl
          generalize (qAt l k).1.num = f1 at *
          generalize ((qAt l k).1.den : Int) = f2 at *
          generalize (qAt l k).2.num = f3 at *
          generalize ((qAt l k).2.den : Int) = f4 at *
          go_wp2_with (first
            | (go_at_call 93; (with_reducible refine ((unhide HCX) _).mono ?_); rintro e w3 ⟨rfl, hbw3⟩; have hsw3 := hbw3.size; (try simp at hsw3); (skip; (try ((have kw3wr0 := (bnew hbw3) (wr.heap.size) ?pf); (case pf => (first | omega | (simp; done) | (simp; omega))); obtain ⟨kcw3wr0, kfw3wr0, klw3wr0⟩ := kw3wr0))))
            | (go_at_call 93; (with_reducible refine ((unhide HCY) _).mono ?_); rintro e w4 ⟨rfl, hbw4⟩; have hsw4 := hbw4.size; (try simp at hsw4)))
          have hb := unhide HB
          have hz : Below w.heap.size w w4 := (by repeat (first | with_reducible exact Below.refl _ _ | with_reducible assumption | (with_reducible refine Below.trans ?_ (Below.mono (by assumption) (by first | omega | (simp <;> omega)))) | with_reducible apply Below.drew | with_reducible apply below_drewN | (with_reducible refine Below.alloc ?_ (by first | omega | (simp <;> omega)) _) | (with_reducible refine Below.setCell ?_ (by first | omega | (simp <;> omega)) _)))
          have HZ := hide hz
          clear hb hz hbw3 hbw4
          go_roundw
          case rel => exact ⟨k + 1, by go_num, by omega, HC', unhide HZ⟩
          case measure => simp [intOf]; omega
    · obtain rfl : k = n := by omega
      have hca : coA l = true := coA_all (by rw [HL.out]; exact unhide HC)
      obtain ⟨hs, h0, h1⟩ := (unhide HS) hca
      obtain ⟨m, hm⟩ : ∃ m, k = m + 1 := ⟨k - 1, by omega⟩
      subst hm
      have hmb := simK_mapB hs h0 h1
      have hif : ifO l = if (simK l (m + 1) (m + 1)).length ≤ 12 then some (simK l (m + 1) (m + 1)) else none := by unfold ifO smO; rw [hca, HL.out]; rfl
      rw [HL.out] at hmb
      have hsim := fun W hW => coSimple_map g m c base l W hW hs
      have hkl := simK_len l (m + 1) (m + 1)
      have HIF := Lib.hid hif
      have HSI := hide hsim
      have HB := hide hbwr
      clear hca hs h0 h1 hif hsim hbwr HC HS
      generalize simK l (m + 1) (m + 1) = r at *
      have hgd := fun A c base W hW => imGood_any A r.length c base (r.map qp) W hW (by omega)
      rw [hmb] at hgd
      by_cases hr : r.length ≤ 12
      · rw [decide_eq_true hr] at hgd
        have HGD := hide hgd
        clear hgd hmb
        go_wp2_with (first
          | (go_at_call 121; (with_reducible refine ((unhide HSI) _ (own_below (unhide HA) ?pb)).mono ?_); (case pb => exact (unhide HB)); rintro e w2 ⟨u, rfl, ho2, hbw2⟩; obtain ⟨A2, d2, rfl⟩ := own_slice ho2; have hsw2 := hbw2.size; have HO2 := hide ho2; clear ho2)
          | (go_at_call 46; (with_reducible refine ((unhide HGD) A2 d2 _ _ (unhide HO2)).mono ?_); rintro e w3 ⟨rfl, hbw3⟩))
        have hb := unhide HB
        have hs1 := hb.size
        have hz : Below w.heap.size w w3 := (by repeat (first | with_reducible exact Below.refl _ _ | with_reducible assumption | (with_reducible refine Below.trans ?_ (Below.mono (by assumption) (by first | omega | (simp <;> omega)))) | with_reducible apply Below.drew | with_reducible apply below_drewN | (with_reducible refine Below.alloc ?_ (by first | omega | (simp <;> omega)) _) | (with_reducible refine Below.setCell ?_ (by first | omega | (simp <;> omega)) _)))
        go_ret2
        refine ⟨?_, hz⟩
        rw [HIF.out, if_pos hr]
        exact ⟨fun l h => (by injection h with h; subst h; exact ⟨A2, d2, rfl, (own_below (unhide HO2) hbw3).mono (by omega)⟩), fun h => (by cases h)⟩
      · rw [decide_eq_false hr] at hgd
        have HGD := hide hgd
        clear hgd hmb
        go_wp2_with (first
          | (go_at_call 121; (with_reducible refine ((unhide HSI) _ (own_below (unhide HA) ?pb)).mono ?_); (case pb => exact (unhide HB)); rintro e w2 ⟨u, rfl, ho2, hbw2⟩; obtain ⟨A2, d2, rfl⟩ := own_slice ho2; have hsw2 := hbw2.size; have HO2 := hide ho2; clear ho2)
          | (go_at_call 46; (with_reducible refine ((unhide HGD) A2 d2 _ _ (unhide HO2)).mono ?_); rintro e w3 ⟨rfl, hbw3⟩))
        have hb := unhide HB
        have hz : Below w.heap.size w w3 := (by repeat (first | with_reducible exact Below.refl _ _ | with_reducible assumption | (with_reducible refine Below.trans ?_ (Below.mono (by assumption) (by first | omega | (simp <;> omega)))) | with_reducible apply Below.drew | with_reducible apply below_drewN | (with_reducible refine Below.alloc ?_ (by first | omega | (simp <;> omega)) _) | (with_reducible refine Below.setCell ?_ (by first | omega | (simp <;> omega)) _)))
        go_ret2
        refine ⟨?_, hz⟩
        rw [HIF.out, if_neg hr]
        exact ⟨fun l h => (by cases h), fun _ => rfl⟩
/-- imAt at a fraction from 0 to 1. -/
theorem imAt_un (g m c base : Nat) (qs : List QP) (x : Rat) (w : World) (ha : w.ownsRow base 63 4 (.slice (some ⟨g, 0, none⟩) (m + 1) c) (m + 1) (ptcs (qs.map qp))) (hg : GMap qs) (hx : Un x) :
    Calls Tryz.prog 85 #[.slice (some ⟨g, 0, none⟩) (m + 1) c, .agg #[.int .i64 (x.num), .int .i64 (x.den)]] w fun e w' => e = .returned (.tuple #[.agg #[.int .i64 (oN (vAt qs x)), .int .i64 (oD (vAt qs x))], .bool (vAt qs x).isSome]) ∧ Below w.heap.size w w' :=
  imAt_any g (m + 1) c base qs x w ha hg hx.fit
/-- imBefore at a fraction from 0 to 1. -/
theorem imBefore_un (g m c base : Nat) (qs : List QP) (y : Rat) (w : World) (ha : w.ownsRow base 63 4 (.slice (some ⟨g, 0, none⟩) (m + 1) c) (m + 1) (ptcs (qs.map qp))) (hg : GMap qs) (hy : Un y) :
    Calls Tryz.prog 83 #[.slice (some ⟨g, 0, none⟩) (m + 1) c, .agg #[.int .i64 (y.num), .int .i64 (y.den)]] w fun e w' =>
      (∀ l, bqO qs y = some l → ∃ (A : Option Addr) (d : Nat), e = .returned (.tuple #[.slice A l.length d, .bool true]) ∧ w'.ownsRow w.heap.size 37 2 (.slice A l.length d) l.length (frcs (l.map qf))) ∧
      (bqO qs y = none → e = .returned (.tuple #[.slice none 0 0, .bool false])) ∧ Below w.heap.size w w' := by
  have hlen := own_lenQ ha
  have hlo := hg.lo
  obtain ⟨n, rfl⟩ : ∃ n, m = n + 1 := ⟨m - 1, by omega⟩
  have e : mwK (fun p => cq p.2 y) (fun p q => backR p q y) qs (n + 1) = bqO qs y := by
    unfold bqO
    rw [hlen]
    exact mw_pw_end hlen hg.inc (fun k hk h x hx => by rw [back_val hx]; exact backQ_in (hg.inc k hk) h)
  refine (imBefore_map g 0 (n + 1) c qs y w (PCells.own ha) hlen (GMap.seg hg) hy.fit).mono ?_
  rintro e' w' ⟨h1, h2, h3⟩
  rw [e] at h1 h2
  refine ⟨fun l hl => ?_, h2, h3⟩
  obtain ⟨v, rfl, ho⟩ := h1 l hl
  obtain ⟨A, d, rfl⟩ := own_slice ho
  exact ⟨A, d, rfl, ho⟩
end Go.Proofs.YtjggjegjhcpjhaaGreat

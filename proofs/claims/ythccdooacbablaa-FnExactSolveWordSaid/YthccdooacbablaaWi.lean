/-
  Chapter 6: WordSign of the model.
-/
import Derived.Test.YthccdooacbablaaWh
namespace Go.Proofs.Ythccdooacbablaa
open Go.RowKit Rm

/-- All numbers between bounds. -/
def allIn (lo hi : Int) (r : List Int) : Bool := r.all fun k => decide (lo ≤ k ∧ k ≤ hi)
theorem allIn_wd {n : Nat} {r : List Int} : (decide (r.length ≤ 20) && allIn 0 ((n : Int) - 1) r) = wdB n r := by
  unfold wdB
  congr 1
  rw [Bool.eq_iff_iff]
  unfold allIn
  simp only [List.all_eq_true, Bool.not_eq_true', List.any_eq_false, decide_eq_true_eq]
  refine forall_congr' fun k => imp_congr_right fun _ => ?_
  rw [Bool.not_eq_true, badK_no]
  omega

set_option maxRecDepth 100000 in
set_option maxHeartbeats 800000 in
theorem l1All_any (gw m cw : Nat) (r : List Int) (lo hi : Int) (w : World) (hw : WCells w gw m r) (hm : m ≤ 1048576) (hl : r.length = m) :
    Calls Try.prog 82 #[.slice (some ⟨gw, 0, none⟩) m cw, .int .i64 lo, .int .i64 hi] w fun e w' => e = .returned (.bool (allIn lo hi r)) ∧ Below w.heap.size w w' := by
  obtain ⟨z, hz⟩ : ∃ z, z = allIn lo hi r := ⟨_, rfl⟩
  rw [← hz]
  have HW := hide hw; have HL := Lib.hid hl; have HZ := Lib.hid hz
  clear hw hl hz
  go_enter Try.func82, Try.ntmps82
  go_wp2_with fail
  go_loopw [11] (fun i wr => ∃ k : Nat, i = .int .i64 (k : Int) ∧ k ≤ m ∧ Hid (∀ j, j < k → lo ≤ r.getD j 0 ∧ r.getD j 0 ≤ hi) ∧ Below w.heap.size w wr) (fun i _ => m - (intOf i).toNat)
  case atStart => exact ⟨0, rfl, by omega, hide (fun j h => by omega), Below.refl _ _⟩
  case round =>
    obtain ⟨k, rfl, hk, hno, hbwr⟩ := hrel
    have hzwr := hbwr.size
    by_cases hlt : k < m
    · have hc := ((unhide HW).below hbwr).cel k hlt
      have hgw := ((unhide HW).below hbwr).lt
      have hnx : (lo ≤ r.getD k 0 ∧ r.getD k 0 ≤ hi) → ∀ j, j < k + 1 → lo ≤ r.getD j 0 ∧ r.getD j 0 ≤ hi := fun h j hj => by
        rcases Nat.lt_or_ge j k with h1 | h1
        · exact (unhide hno) j h1
        · obtain rfl : j = k := by omega
          exact h
      have hbad : ¬ (lo ≤ r.getD k 0 ∧ r.getD k 0 ≤ hi) → z = false := fun h => by
        rw [HZ.out]
        unfold allIn
        rw [List.all_eq_false]
        refine ⟨r.getD k 0, ?_, by simpa using h⟩
        rw [List.getD_eq_getElem?_getD, List.getElem?_eq_getElem (by rw [HL.out]; exact hlt)]
        exact List.getElem_mem _
      have HNX := hide hnx; have HBAD := hide hbad; have HB := hide hbwr
      clear hnx hbad hno hbwr
      generalize r.getD k 0 = x at *
      by_cases hx : lo ≤ x ∧ x ≤ hi
      · have hn1 := hide ((unhide HNX) hx)
        have hin := fun W => l1In_yes hx W
        have HIN := hide hin
        clear hx hin HNX HBAD
        go_wp2_with (go_at_call 53; (with_reducible refine ((unhide HIN) _).mono ?_); rintro e w' ⟨rfl, rfl⟩)
        have hb := unhide HB
        go_roundw
        case rel => exact ⟨k + 1, by go_num, by omega, hn1, (by repeat (first | with_reducible exact Below.refl _ _ | with_reducible assumption | (with_reducible refine Below.trans ?_ (Below.mono (by assumption) (by first | omega | (simp <;> omega)))) | with_reducible apply Below.drew | with_reducible apply below_drewN | (with_reducible refine Below.alloc ?_ (by first | omega | (simp <;> omega)) _) | (with_reducible refine Below.setCell ?_ (by first | omega | (simp <;> omega)) _)))⟩
        case measure => (simp [intOf] <;> omega)
      · obtain rfl := (unhide HBAD) hx
        have hin := fun W => l1In_no hx W
        have HIN := hide hin
        clear hx hin HNX HBAD
        go_wp2_with (go_at_call 53; (with_reducible refine ((unhide HIN) _).mono ?_); rintro e w' ⟨rfl, rfl⟩)
        have hb := unhide HB
        go_ret
        exact ⟨rfl, (by repeat (first | with_reducible exact Below.refl _ _ | with_reducible assumption | (with_reducible refine Below.trans ?_ (Below.mono (by assumption) (by first | omega | (simp <;> omega)))) | with_reducible apply Below.drew | with_reducible apply below_drewN | (with_reducible refine Below.alloc ?_ (by first | omega | (simp <;> omega)) _) | (with_reducible refine Below.setCell ?_ (by first | omega | (simp <;> omega)) _)))⟩
    · obtain rfl : k = m := by omega
      obtain rfl : z = true := by
        rw [HZ.out]
        unfold allIn
        rw [List.all_eq_true]
        intro x hx
        obtain ⟨j, hj, rfl⟩ := List.mem_iff_getElem.1 hx
        have := (unhide hno) j (by rw [← HL.out]; exact hj)
        rw [List.getD_eq_getElem?_getD, List.getElem?_eq_getElem hj, Option.getD_some] at this
        exact decide_eq_true this
      have HB := hide hbwr
      clear hbwr hno
      go_wp2_with fail
      have hb := unhide HB
      go_ret
      exact ⟨rfl, (by repeat (first | with_reducible exact Below.refl _ _ | with_reducible assumption | (with_reducible refine Below.trans ?_ (Below.mono (by assumption) (by first | omega | (simp <;> omega)))) | with_reducible apply Below.drew | with_reducible apply below_drewN | (with_reducible refine Below.alloc ?_ (by first | omega | (simp <;> omega)) _) | (with_reducible refine Below.setCell ?_ (by first | omega | (simp <;> omega)) _)))⟩

set_option maxRecDepth 100000 in
set_option maxHeartbeats 1600000 in
theorem woGood_any (A : Option Addr) (n c base : Nat) (ps : List Pt) (gw m cw : Nat) (r : List Int) (w : World) (ha : w.ownsRow base 62 4 (.slice A n c) n (ptcs ps)) (hn : n ≤ 1048576)
    (hw : WCells w gw m r) (hm : m ≤ 1048576) (hl : r.length = m) :
    Calls Try.prog 67 #[.slice A n c, .slice (some ⟨gw, 0, none⟩) m cw] w fun e w' => e = .returned (.bool (wsB ps [r])) ∧ Below w.heap.size w w' := by
  have hlw := fun W hW => woMap_any A n c base ps W hW hn
  have HA := hide ha
  rw [wsB_one]
  rcases hlm : lmB ps with _ | _
  · rw [hlm] at hlw
    rw [Bool.false_and]
    have HLW := hide hlw
    clear hlw hlm ha hw
    go_enter Try.func67, Try.ntmps67
    go_wp2_with (go_at_call 71; (with_reducible refine ((unhide HLW) _ (own_below (unhide HA) ?pb)).mono ?_); (case pb => exact (by repeat (first | with_reducible exact Below.refl _ _ | with_reducible assumption | (with_reducible refine Below.trans ?_ (Below.mono (by assumption) (by first | omega | (simp <;> omega)))) | with_reducible apply Below.drew | with_reducible apply below_drewN | (with_reducible refine Below.alloc ?_ (by first | omega | (simp <;> omega)) _) | (with_reducible refine Below.setCell ?_ (by first | omega | (simp <;> omega)) _)))); rintro e w1 ⟨rfl, hbw1⟩)
    go_ret
    exact ⟨rfl, (by repeat (first | with_reducible exact Below.refl _ _ | with_reducible assumption | (with_reducible refine Below.trans ?_ (Below.mono (by assumption) (by first | omega | (simp <;> omega)))) | with_reducible apply Below.drew | with_reducible apply below_drewN | (with_reducible refine Below.alloc ?_ (by first | omega | (simp <;> omega)) _) | (with_reducible refine Below.setCell ?_ (by first | omega | (simp <;> omega)) _)))⟩
  · obtain ⟨qs, hq, hl'⟩ := lmB_of hlm
    have hmb : mapB ps = true := by rw [hq]; exact hl'.toGMap.mapB
    obtain ⟨g, mm, qs', hAg, hnm, hq', hg', hlen⟩ := own_form ha hmb
    obtain rfl : qs = qs' := by have := congrArg dec (hq.symm.trans hq'); rwa [dec_qp, dec_qp] at this
    subst hAg hnm hq
    rw [hlm] at hlw
    rw [Bool.true_and, dec_qp, ← allIn_wd, hl]
    have HLW := hide hlw
    have hlq : lapsK (dirR qs) mm = lapsQ qs := by unfold lapsQ; rw [hlen]; rfl
    have hrows : lapRows (dirR qs) mm = (lapsQ qs).map lapRow := by rw [← hlq]; rfl
    by_cases h20 : m ≤ 20
    · have d1 : decide ((m : Int) ≤ 20) = true := decide_eq_true (by omega)
      rw [decide_eq_true h20, Bool.true_and]
      have hcon := fun W hW => imLaps_map g mm c base qs W hW hg'
      rw [hrows] at hcon
      have hpos := lapsQ_pos hg'
      have hll := lapsQ_len hg'
      have hal := fun (W : World) (hW : WCells W gw m r) => l1All_any gw m cw r 0 (((lapsQ qs).length : Int) - 1) W hW hm hl
      have hrl : ((lapsQ qs).map lapRow).length = (lapsQ qs).length := List.length_map ..
      have HC := hide hcon; have HAL := hide hal; have HW := hide hw; have HRL := Lib.hid hrl
      clear hlw hlm ha hw hcon hal hl' hmb hq' hg' hlen hlq hrows h20 hrl hl
      generalize (lapsQ qs).map lapRow = rows at *
      generalize (lapsQ qs).length = N at *
      generalize allIn 0 ((N : Int) - 1) r = z at *
      have s1 : IntKind.i64.wrap ((N : Int) - 1) = (N : Int) - 1 := IntWalk.i64_in _ (by omega)
      go_enter Try.func67, Try.ntmps67
      go_wp2_with (first
        | (go_at_call 71; (with_reducible refine ((unhide HLW) _ (own_below (unhide HA) ?pb)).mono ?_); (case pb => exact (by repeat (first | with_reducible exact Below.refl _ _ | with_reducible assumption | (with_reducible refine Below.trans ?_ (Below.mono (by assumption) (by first | omega | (simp <;> omega)))) | with_reducible apply Below.drew | with_reducible apply below_drewN | (with_reducible refine Below.alloc ?_ (by first | omega | (simp <;> omega)) _) | (with_reducible refine Below.setCell ?_ (by first | omega | (simp <;> omega)) _)))); rintro e w1 ⟨rfl, hbw1⟩; have hz1 := hbw1.size)
        | (go_at_call 114; (with_reducible refine ((unhide HC) _ (own_below (unhide HA) ?pb)).mono ?_); (case pb => exact (by repeat (first | with_reducible exact Below.refl _ _ | with_reducible assumption | (with_reducible refine Below.trans ?_ (Below.mono (by assumption) (by first | omega | (simp <;> omega)))) | with_reducible apply Below.drew | with_reducible apply below_drewN | (with_reducible refine Below.alloc ?_ (by first | omega | (simp <;> omega)) _) | (with_reducible refine Below.setCell ?_ (by first | omega | (simp <;> omega)) _)))); rintro e w2 ⟨v2, bs, rfl, hnest, hbw2⟩; have hz2 := hbw2.size; obtain ⟨A2, c2, rfl⟩ := hnest.slice; rw [HRL.out])
        | (go_at_call 82; (with_reducible refine ((unhide HAL) _ ((unhide HW).below ?pb)).mono ?_); (case pb => exact (by repeat (first | with_reducible exact Below.refl _ _ | with_reducible assumption | (with_reducible refine Below.trans ?_ (Below.mono (by assumption) (by first | omega | (simp <;> omega)))) | with_reducible apply Below.drew | with_reducible apply below_drewN | (with_reducible refine Below.alloc ?_ (by first | omega | (simp <;> omega)) _) | (with_reducible refine Below.setCell ?_ (by first | omega | (simp <;> omega)) _)))); rintro e w3 ⟨rfl, hbw3⟩))
      go_ret
      exact ⟨rfl, (by repeat (first | with_reducible exact Below.refl _ _ | with_reducible assumption | (with_reducible refine Below.trans ?_ (Below.mono (by assumption) (by first | omega | (simp <;> omega)))) | with_reducible apply Below.drew | with_reducible apply below_drewN | (with_reducible refine Below.alloc ?_ (by first | omega | (simp <;> omega)) _) | (with_reducible refine Below.setCell ?_ (by first | omega | (simp <;> omega)) _)))⟩
    · have d1 : decide ((m : Int) ≤ 20) = false := decide_eq_false (by omega)
      rw [decide_eq_false h20, Bool.false_and]
      clear hlw hlm ha hw hl' hmb hq' hg' hlen hlq hrows h20 hl
      go_enter Try.func67, Try.ntmps67
      go_wp2_with (go_at_call 71; (with_reducible refine ((unhide HLW) _ (own_below (unhide HA) ?pb)).mono ?_); (case pb => exact (by repeat (first | with_reducible exact Below.refl _ _ | with_reducible assumption | (with_reducible refine Below.trans ?_ (Below.mono (by assumption) (by first | omega | (simp <;> omega)))) | with_reducible apply Below.drew | with_reducible apply below_drewN | (with_reducible refine Below.alloc ?_ (by first | omega | (simp <;> omega)) _) | (with_reducible refine Below.setCell ?_ (by first | omega | (simp <;> omega)) _)))); rintro e w1 ⟨rfl, hbw1⟩)
      go_ret
      exact ⟨rfl, (by repeat (first | with_reducible exact Below.refl _ _ | with_reducible assumption | (with_reducible refine Below.trans ?_ (Below.mono (by assumption) (by first | omega | (simp <;> omega)))) | with_reducible apply Below.drew | with_reducible apply below_drewN | (with_reducible refine Below.alloc ?_ (by first | omega | (simp <;> omega)) _) | (with_reducible refine Below.setCell ?_ (by first | omega | (simp <;> omega)) _)))⟩

set_option maxRecDepth 100000 in
set_option maxHeartbeats 1600000 in
theorem woSign_any (g mm c base gw m cw : Nat) (qs : List QP) (r : List Int) (w : World) (ha : w.ownsRow base 62 4 (.slice (some ⟨g, 0, none⟩) (mm + 1) c) (mm + 1) (ptcs (qs.map qp))) (hg : GMap qs)
    (hw : WCells w gw m r) (hm : m ≤ 1048576) (hmr : m ≤ r.length) (hr : ∀ k ∈ r, 0 ≤ k ∧ k < (lapsQ qs).length) :
    Calls Try.prog 127 #[.slice (some ⟨g, 0, none⟩) (mm + 1) c, .slice (some ⟨gw, 0, none⟩) m cw] w fun e w' => e = .returned (.int .i64 (sgK qs r m)) ∧ Below w.heap.size w w' := by
  have hlen : qs.length = mm + 1 := by have := own_len ha; rw [List.length_map] at this; exact this
  have hlq : lapsK (dirR qs) mm = lapsQ qs := by unfold lapsQ; rw [hlen]; rfl
  have hrows : lapRows (dirR qs) mm = (lapsQ qs).map lapRow := by rw [← hlq]; rfl
  have hcon := fun W hW => imLaps_map g mm c base qs W hW hg
  rw [hrows] at hcon
  have hll := lapsQ_len hg
  have HA := hide ha; have HC := hide hcon; have HW := hide hw; have HR := hide hr; have HMR := Lib.hid hmr
  clear ha hcon hw hr hmr hlen hlq hrows
  go_enter Try.func127, Try.ntmps127
  go_wp2_with fail
  go_loopw [5, 10] (fun s i wr => ∃ j : Nat, i = .int .i64 (j : Int) ∧ s = .int .i64 (sgK qs r j) ∧ j ≤ m ∧ Below w.heap.size w wr) (fun _ i _ => m - (intOf i).toNat)
  case atStart => exact ⟨0, rfl, rfl, by omega, Below.refl _ _⟩
  case round =>
    obtain ⟨j, rfl, rfl, hj, hbwr⟩ := hrel
    have hzwr := hbwr.size
    by_cases hlt : j < m
    · have hc0 := ((unhide HW).below hbwr).cel j hlt
      have hgw := ((unhide HW).below hbwr).lt
      have hjr : j < r.length := by have := HMR.out; omega
      have hmem : r.getD j 0 ∈ r := by rw [List.getD_eq_getElem?_getD, List.getElem?_eq_getElem hjr]; exact List.getElem_mem hjr
      obtain ⟨hk0, hk1⟩ := (unhide HR) _ hmem
      obtain ⟨kk, hkk⟩ : ∃ kk : Nat, r.getD j 0 = (kk : Int) := ⟨(r.getD j 0).toNat, by omega⟩
      rw [hkk] at hk1 hc0
      obtain ⟨rl, hrl⟩ : ∃ rl, (lapsQ qs)[kk]? = some rl := ⟨_, List.getElem?_eq_getElem (by omega)⟩
      have hrr : ((lapsQ qs).map lapRow)[kk]? = some (lapRow rl) := by rw [List.getElem?_map, hrl]; rfl
      have hdk : dirK qs (r.getD j 0) = rl.2.2 := by unfold dirK; rw [hkk, Int.toNat_natCast, List.getD_eq_getElem?_getD, hrl]; rfl
      have hst : sgK qs r (j + 1) = sgK qs r j * dirK qs (r.getD j 0) := rfl
      have hb1 := sgK_bd (qs := qs) (r := r) j
      have hb2 := dirK_bd (qs := qs) (r.getD j 0)
      have hmw : IntKind.i64.wrap (sgK qs r j * dirK qs (r.getD j 0)) = sgK qs r j * dirK qs (r.getD j 0) := IntWalk.i64_in _ (by
        have h3 := mul_bd (a := sgK qs r j) (d := dirK qs (r.getD j 0)) (A := 1) (D := 1) (by omega) (by omega) (by omega) (by omega)
        omega)
      have HST := Lib.hid hst; have HB := hide hbwr; have HRR := Lib.hid hrr; have HDK := Lib.hid hdk; have HA1 := hide (own_below (unhide HA) hbwr)
      clear hst hbwr hrl hb1 hb2 hmem hkk hrr hdk
      generalize dirK qs (r.getD j 0) = d at *
      generalize sgK qs r j = s at *
      have t1 : (0 : Int) ≤ (kk : Int) := by omega
      go_wp2_with (go_at_call 114; (with_reducible refine ((unhide HC) _ (unhide HA1)).mono ?_); rintro e w2 ⟨v2, bs, rfl, hnest, hbw2⟩; have hz2 := hbw2.size; obtain ⟨A2, c2, rfl⟩ := hnest.slice; (obtain ⟨go, b, rfl, -, -, hnn, hgol, hbl, hBb, hgb, hoc, hcells⟩ := hnest.at HRR.out); have hc2 := (hcells 2 _ rfl).1; rw [show (lapRow rl).length = 3 from rfl] at hoc; rw [← HDK.out] at hc2; rw [List.length_map] at *; clear hcells hnest)
      have hb := unhide HB
      go_roundw
      case rel => exact ⟨j + 1, by go_num, by rw [HST.out], by omega, (by repeat (first | with_reducible exact Below.refl _ _ | with_reducible assumption | (with_reducible refine Below.trans ?_ (Below.mono (by assumption) (by first | omega | (simp <;> omega)))) | with_reducible apply Below.drew | with_reducible apply below_drewN | (with_reducible refine Below.alloc ?_ (by first | omega | (simp <;> omega)) _) | (with_reducible refine Below.setCell ?_ (by first | omega | (simp <;> omega)) _)))⟩
      case measure => (simp [intOf] <;> omega)
    · obtain rfl : j = m := by omega
      have HB := hide hbwr
      clear hbwr
      go_wp2_with fail
      go_ret
      exact ⟨rfl, unhide HB⟩

end Go.Proofs.Ythccdooacbablaa

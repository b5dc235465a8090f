/-
  The pattern of the values of an orbit: PatternOfValues, and ptOf of the model.
-/
import Derived.Test.YtfiaioohkidgbaaKi
namespace Go.Proofs.Ytfiaioohkidgbaa
open Go.RowKit Rm

/-- The pattern of ranks, k of them laid. -/
def ptF (R : Nat → Nat) (P : Nat) : Nat → Nat → Nat
  | 0 => fun _ => 0
  | k + 1 => fun j => if j = R k then R ((k + 1) % P) else ptF R P k j
theorem ptF_congr {R R' : Nat → Nat} {P : Nat} (h : ∀ i, i < P → R i = R' i) : ∀ k, k ≤ P → ptF R P k = ptF R' P k
  | 0, _ => rfl
  | k + 1, hk => by
    funext j
    unfold ptF
    rw [h k (by omega), h _ (Nat.mod_lt _ (by omega)), ptF_congr h k (by omega)]

set_option maxRecDepth 100000 in
theorem indexI_no (gs j d : Nat) (f : Nat → Nat) (v : Nat) (w : World) (hc : ICells w gs j f) (hj : j ≤ 1000) (hn : ∀ t, t < j → f t ≠ v) :
    Calls Try.prog 17 #[.slice (some ⟨gs, 0, none⟩) j d, .int .i64 v] w fun e w' => e = .returned (.int .i64 (-1)) ∧ Below w.heap.size w w' := by
  have HC := hide hc; have HN := hide hn
  clear hc hn
  go_enter Try.func17, Try.ntmps17
  go_wp2_with fail
  go_loopw [8] (fun i wr => ∃ k : Nat, i = .int .i64 k ∧ k ≤ j ∧ Below w.heap.size w wr) (fun i _ => j - (intOf i).toNat)
  case atStart => exact ⟨0, rfl, by omega, Below.refl _ _⟩
  case round =>
    obtain ⟨k, rfl, hk, hbwr⟩ := hrel
    by_cases hlt : k < j
    · have hC := (unhide HC).below hbwr
      have f0 := hC.at0 k hlt
      have hne := (unhide HN) k hlt
      have hne2 : ¬ (v : Int) = (f k : Int) := fun e => hne (by omega)
      have hne3 : ¬ v = f k := fun e => hne e.symm
      have HB := hide hbwr
      clear hC hbwr hne
      generalize f k = x at *
      go_wp2_with fail
      have hb := unhide HB
      go_roundw
      case rel => exact ⟨k + 1, by go_num, by omega, (by repeat (first | with_reducible exact Below.refl _ _ | with_reducible assumption | (with_reducible refine Below.trans ?_ (Below.mono (by assumption) (by first | omega | (simp <;> omega)))) | with_reducible apply Below.drew | with_reducible apply below_drewN | (with_reducible refine Below.alloc ?_ (by first | omega | (simp <;> omega)) _) | (with_reducible refine Below.setCell ?_ (by first | omega | (simp <;> omega)) _)))⟩
      case measure => simp [intOf]; omega
    · obtain rfl : k = j := by omega
      have HB := hide hbwr
      clear hbwr
      go_wp2_with fail
      have hb := unhide HB
      go_ret
      exact ⟨rfl, (by repeat (first | with_reducible exact Below.refl _ _ | with_reducible assumption | (with_reducible refine Below.trans ?_ (Below.mono (by assumption) (by first | omega | (simp <;> omega)))) | with_reducible apply Below.drew | with_reducible apply below_drewN | (with_reducible refine Below.alloc ?_ (by first | omega | (simp <;> omega)) _) | (with_reducible refine Below.setCell ?_ (by first | omega | (simp <;> omega)) _)))⟩
theorem containsI_no (gs j d : Nat) (f : Nat → Nat) (v : Nat) (w : World) (hc : ICells w gs j f) (hj : j ≤ 1000) (hn : ∀ t, t < j → f t ≠ v) :
    Calls Try.prog 14 #[.slice (some ⟨gs, 0, none⟩) j d, .int .i64 v] w fun e w' => e = .returned (.bool false) ∧ Below w.heap.size w w' := by
  have hix := fun W hW => indexI_no gs j d f v W hW hj hn
  have HIX := hide hix; have HC := hide hc
  clear hix hc hn
  go_enter Try.func14, Try.ntmps14
  go_wp2_with (go_at_call 17; (with_reducible refine ((unhide HIX) _ ((unhide HC).below ?pb)).mono ?_); (case pb => exact (by repeat (first | with_reducible exact Below.refl _ _ | with_reducible assumption | (with_reducible refine Below.trans ?_ (Below.mono (by assumption) (by first | omega | (simp <;> omega)))) | with_reducible apply Below.drew | with_reducible apply below_drewN | (with_reducible refine Below.alloc ?_ (by first | omega | (simp <;> omega)) _) | (with_reducible refine Below.setCell ?_ (by first | omega | (simp <;> omega)) _)))); rintro e w1 ⟨rfl, hbw1⟩)
  go_ret
  exact ⟨by simp, (by repeat (first | with_reducible exact Below.refl _ _ | with_reducible assumption | (with_reducible refine Below.trans ?_ (Below.mono (by assumption) (by first | omega | (simp <;> omega)))) | with_reducible apply Below.drew | with_reducible apply below_drewN | (with_reducible refine Below.alloc ?_ (by first | omega | (simp <;> omega)) _) | (with_reducible refine Below.setCell ?_ (by first | omega | (simp <;> omega)) _)))⟩

set_option maxRecDepth 100000 in
set_option maxHeartbeats 3200000 in
theorem ptOf_any (gs d P : Nat) (R : Nat → Nat) (w : World) (hc : ICells w gs P R) (hP1 : 1 ≤ P) (hP : P ≤ 60) (hR : ∀ i, i < P → R i < P) :
    Calls Try.prog 13 #[.slice (some ⟨gs, 0, none⟩) P d] w fun e w' =>
      e = .returned (.slice (some ⟨w.heap.size, 0, none⟩) P P) ∧ RRow w' w.heap.size P (ptF R P P) ∧ Below w.heap.size w w' := by
  have hmk := run_make_row' (P := Try.prog) 22 3 (.int .i64 0) 8 (by kernel_rfl) (by kernel_rfl) rfl .i64 .i64 P (by omega) (by omega)
  have HC := hide hc; have HR := hide hR
  have hgl := hc.lt
  clear hc hR
  go_enter Try.func13, Try.ntmps13
  go_wp2_with fail
  clear hmk
  have hrow : RRow (w.alloc (.cells (madeCells #[.int .i64 0] P) 3)) w.heap.size P (ptF R P 0) := World.rowIs_made w (.int .i64 0) P _
  have hbA : Below w.heap.size w (w.alloc (.cells (madeCells #[.int .i64 0] P) 3)) := (by repeat (first | with_reducible exact Below.refl _ _ | with_reducible assumption | (with_reducible refine Below.trans ?_ (Below.mono (by assumption) (by first | omega | (simp <;> omega)))) | with_reducible apply Below.drew | with_reducible apply below_drewN | (with_reducible refine Below.alloc ?_ (by first | omega | (simp <;> omega)) _) | (with_reducible refine Below.setCell ?_ (by first | omega | (simp <;> omega)) _)))
  generalize w.alloc (.cells (madeCells #[.int .i64 0] P) 3) = w2 at *
  have HBA := hide hbA
  have HC2 := hide ((unhide HC).below hbA)
  clear hbA HC
  go_loopw [11] (fun i wr => ∃ k : Nat, i = .int .i64 k ∧ k ≤ P ∧ Hid (RRow wr w.heap.size P (ptF R P k)) ∧ Hid (ICells wr gs P R) ∧ Below w.heap.size w wr) (fun i _ => P - (intOf i).toNat)
  case atStart => exact ⟨0, rfl, by omega, hide hrow, HC2, unhide HBA⟩
  case round =>
    obtain ⟨k, rfl, hk, hrw, hcw, hbwr⟩ := hrel
    clear hrow
    have hgw := (unhide hrw).lt
    have hgw2 := (unhide hcw).lt
    by_cases hlt : k < P
    · obtain ⟨r, hr⟩ : ∃ r, r = (k + 1) % P := ⟨_, rfl⟩
      have hrl : r < P := by rw [hr]; exact Nat.mod_lt _ (by omega)
      have hmod : ((k : Int) + 1).tmod (P : Int) = (r : Int) := by
        rw [Int.tmod_eq_emod_of_nonneg (by omega), hr, Int.natCast_emod]
        rfl
      have f0 := (unhide hcw).at0 k hlt
      have f1 := (unhide hcw).at0 r hrl
      have hRk := (unhide HR) k hlt
      have hst : ∀ i, ptF R P (k + 1) i = if i = R k then R r else ptF R P k i := fun i => by rw [hr]; rfl
      have hr6 := (unhide hrw).set (R k) (R r) hst
      have hc6 := icells_set (g := w.heap.size) (i := R k) (v := .int .i64 ((R r : Nat) : Int)) (unhide hcw) (by omega)
      have q0 := (unhide hrw).cell hRk
      have q1 := World.rowIs.frozen (unhide hrw) (R k)
      have hb6 := hbwr.setCell (p := ⟨w.heap.size, R k, none⟩) (Nat.le_refl _) (.int .i64 ((R r : Nat) : Int))
      have H6 := hide hr6; have HC6 := hide hc6; have HB6 := hide hb6; have HST := hide hst
      clear hr6 hc6 hb6 hst hbwr hr
      generalize R k = x at *
      generalize R r = y at *
      generalize ptF R P k x = z at *
      go_wp2_with fail
      go_roundw
      case rel => exact ⟨k + 1, by go_num, by omega, H6, HC6, unhide HB6⟩
      case measure => simp [intOf]; omega
    · obtain rfl : k = P := by omega
      go_wp2_with fail
      go_ret
      exact ⟨rfl, unhide hrw, hbwr⟩

set_option maxRecDepth 100000 in
set_option maxHeartbeats 3200000 in
theorem iPattern_long (A : Option Addr) (d P : Nat) (w : World) (hP1 : 10 ≤ P) (hP : P ≤ 60) :
    Calls Try.prog 6 #[.slice A P d] w fun e w' => e = .returned (.tuple #[.slice none 0 0, .bool false]) ∧ Below w.heap.size w w' := by
  have e9 : decide ((P : Int) > 9) = true := decide_eq_true (by omega)
  have e1 : decide ((P : Int) < 1) = false := decide_eq_false (by omega)
  go_enter Try.func6, Try.ntmps6
  go_wp2_with fail
  go_ret2
  exact ⟨rfl, (by repeat (first | with_reducible exact Below.refl _ _ | with_reducible assumption | (with_reducible refine Below.trans ?_ (Below.mono (by assumption) (by first | omega | (simp <;> omega)))) | with_reducible apply Below.drew | with_reducible apply below_drewN | (with_reducible refine Below.alloc ?_ (by first | omega | (simp <;> omega)) _) | (with_reducible refine Below.setCell ?_ (by first | omega | (simp <;> omega)) _)))⟩

set_option maxRecDepth 100000 in
set_option maxHeartbeats 3200000 in
theorem iPattern_wide (gs d P : Nat) (f : Nat → Nat) (w : World) (hc : ICells w gs P f) (hP1 : 1 ≤ P) (hP : P ≤ 9) (hPd : P ≤ d) (hf : ∀ i, i < P → f i ≤ 1000000) (hne : ∀ i j, i < P → j < P → i ≠ j → f i ≠ f j) :
    Calls Try.prog 6 #[.slice (some ⟨gs, 0, none⟩) P d] w fun e w' =>
      ∃ g : Nat, e = .returned (.tuple #[.slice (some ⟨g, 0, none⟩) P P, .bool true]) ∧ w.heap.size ≤ g ∧ RRow w' g P (ptF (fun i => rkN (ltF f) i P) P P) ∧ Below w.heap.size w w' := by
  have e9 : decide ((P : Int) > 9) = false := decide_eq_false (by omega)
  have e1 : decide ((P : Int) < 1) = false := decide_eq_false (by omega)
  have hmk := run_make_row' (P := Try.prog) 22 3 (.int .i64 0) 8 (by kernel_rfl) (by kernel_rfl) rfl .i64 .i64 P (by omega) (by omega)
  have hrk := fun (W : World) (hW : ICells W gs P f) => iRanksI_any gs d P f W hW (by omega)
  have hct := fun (W : World) (k : Nat) (hW : ICells W gs k f) (hk : k < P) => containsI_no gs k d f (f k) W hW (by omega) (fun t ht => hne t k (by omega) hk (by omega))
  have hirr : ltF f 0 0 = ltF f 0 0 := rfl
  have hRP : ∀ i, i < P → rkN (ltF f) i P < P := fun i hi => rkN_lt (by simp [ltF]) P hi
  have HC := hide hc; have HF := hide hf; have HMK := hide hmk; have HRK := hide hrk; have HCT := hide hct; have HR := hide hRP
  have hgl := hc.lt
  clear hc hf hmk hrk hct hne hirr hRP
  go_enter Try.func6, Try.ntmps6
  go_wp2_with fail
  go_loopw [20] (fun i wr => ∃ k : Nat, i = .int .i64 k ∧ k ≤ P ∧ Below w.heap.size w wr) (fun i _ => P - (intOf i).toNat)
  case atStart => exact ⟨0, rfl, by omega, Below.refl _ _⟩
  case round =>
    obtain ⟨k, rfl, hk, hbwr⟩ := hrel
    have hzwr := hbwr.size
    by_cases hlt : k < P
    · have hC := (unhide HC).below hbwr
      have f0 := hC.at0 k hlt
      have hx := (unhide HF) k hlt
      have s7 : (0 : Int) ≤ (k : Int) := by omega
      have s8 : (k : Int) ≤ (d : Int) := by omega
      have s9 : ((k : Int)).toNat = k := by omega
      have hC2 : ICells wr gs k f := ⟨hC.lt, fun i hi => hC.at0 i (by omega)⟩
      have hct := fun (W : World) (hW : ICells W gs k f) => (unhide HCT) W k hW hlt
      have HC2 := hide hC2; have HCT2 := hide hct
      have HB := hide hbwr
      clear hC hbwr hct hC2
      generalize f k = x at *
      have e2 : decide ((x : Int) < 0) = false := decide_eq_false (by omega)
      have e3 : decide ((x : Int) > 1000000) = false := decide_eq_false (by omega)
      go_wp2_with (go_at_call 14; (with_reducible refine ((unhide HCT2) _ (unhide HC2)).mono ?_); rintro e w5 ⟨rfl, hbw5⟩; have hs5 := hbw5.size)
      have hb := unhide HB
      go_roundw
      case rel => exact ⟨k + 1, by go_num, by omega, (by repeat (first | with_reducible exact Below.refl _ _ | with_reducible assumption | (with_reducible refine Below.trans ?_ (Below.mono (by assumption) (by first | omega | (simp <;> omega)))) | with_reducible apply Below.drew | with_reducible apply below_drewN | (with_reducible refine Below.alloc ?_ (by first | omega | (simp <;> omega)) _) | (with_reducible refine Below.setCell ?_ (by first | omega | (simp <;> omega)) _)))⟩
      case measure => simp [intOf]; omega
    · obtain rfl : k = P := by omega
      have hC := (unhide HC).below hbwr
      have HC3 := hide hC
      have HB := hide hbwr
      clear hC hbwr
      go_upto_region 10 with (go_at_call 15; (with_reducible refine ((unhide HRK) _ (unhide HC3)).mono ?_); rintro e w1 ⟨rfl, hrr, hbw1⟩; have hs1 := hbw1.size; have HRR := hide hrr; clear hrr)
      have hmk := unhide HMK
      obtain ⟨R, hRd⟩ : ∃ R : Nat → Nat, R = fun i => rkN (ltF f) i k := ⟨_, rfl⟩
      have hic := ICells.of (unhide HRR)
      rw [← hRd] at hic
      have hRk : ∀ i, i < k → R i < k := by rw [hRd]; exact unhide HR
      have hb1 : Below w.heap.size w w1 := (unhide HB).trans (hbw1.mono hzwr)
      have HRd := Lib.hid hRd; have HIC := hide hic; have HRk := hide hRk; have HB1 := hide hb1
      have hg12 := hic.lt
      clear hRd hic hRk hb1 hbw1 HB HC3 HC HF HRK HCT HR HRR HMK
      obtain ⟨G1, hG1⟩ : ∃ G, G = wr.heap.size := ⟨_, rfl⟩
      rw [← hG1] at hg12 hzwr HIC ⊢
      clear hs1 hG1
      go_wp2_with fail
      clear hmk
      have hrow : RRow (w1.alloc (.cells (madeCells #[.int .i64 0] k) 3)) w1.heap.size k (ptF R k 0) := World.rowIs_made w1 (.int .i64 0) k _
      have hbA : Below w1.heap.size w1 (w1.alloc (.cells (madeCells #[.int .i64 0] k) 3)) := (by repeat (first | with_reducible exact Below.refl _ _ | with_reducible assumption | (with_reducible refine Below.trans ?_ (Below.mono (by assumption) (by first | omega | (simp <;> omega)))) | with_reducible apply Below.drew | with_reducible apply below_drewN | (with_reducible refine Below.alloc ?_ (by first | omega | (simp <;> omega)) _) | (with_reducible refine Below.setCell ?_ (by first | omega | (simp <;> omega)) _)))
      generalize w1.alloc (.cells (madeCells #[.int .i64 0] k) 3) = w2 at *
      have HC2 := hide ((unhide HIC).below hbA)
      have HB2 := hide ((unhide HB1).trans (hbA.mono (by omega)))
      obtain ⟨G2, hG2⟩ : ∃ G, G = w1.heap.size := ⟨_, rfl⟩
      rw [← hG2] at hg12 hrow ⊢
      clear hbA HIC HB1 hG2
      go_loopw [46] (fun i wr => ∃ j : Nat, i = .int .i64 j ∧ j ≤ k ∧ Hid (RRow wr G2 k (ptF R k j)) ∧ Hid (ICells wr G1 k R) ∧ Below w.heap.size w wr) (fun i _ => k - (intOf i).toNat)
      case atStart => exact ⟨0, rfl, by omega, hide hrow, HC2, unhide HB2⟩
      case round =>
        obtain ⟨j, rfl, hj, hrw, hcw, hbwr⟩ := hrel
        clear hrow HC2 HB2
        have hgw := (unhide hrw).lt
        have hgw2 := (unhide hcw).lt
        by_cases hlt : j < k
        · obtain ⟨r, hr⟩ : ∃ r, r = (j + 1) % k := ⟨_, rfl⟩
          have hrl : r < k := by rw [hr]; exact Nat.mod_lt _ (by omega)
          have hmod : ((j : Int) + 1).tmod (k : Int) = (r : Int) := by
            rw [Int.tmod_eq_emod_of_nonneg (by omega), hr, Int.natCast_emod]
            rfl
          have f0 := (unhide hcw).at0 j hlt
          have f1 := (unhide hcw).at0 r hrl
          have hRk := (unhide HRk) j hlt
          have hst : ∀ i, ptF R k (j + 1) i = if i = R j then R r else ptF R k j i := fun i => by rw [hr]; rfl
          have hr6 := (unhide hrw).set (R j) (R r) hst
          have hc6 := icells_set (g := G2) (i := R j) (v := .int .i64 ((R r : Nat) : Int)) (unhide hcw) (by omega)
          have q0 := (unhide hrw).cell hRk
          have q1 := World.rowIs.frozen (unhide hrw) (R j)
          have hb6 := hbwr.setCell (p := ⟨G2, R j, none⟩) (by show w.heap.size ≤ G2; omega) (.int .i64 ((R r : Nat) : Int))
          have H6 := hide hr6; have HC6 := hide hc6; have HB6 := hide hb6; have HST := hide hst
          clear hr6 hc6 hb6 hst hbwr hr
          generalize R j = x at *
          generalize R r = y at *
          generalize ptF R k j x = z at *
          go_wp2_with fail
          go_roundw
          case rel => exact ⟨j + 1, by go_num, by omega, H6, HC6, unhide HB6⟩
          case measure => simp [intOf]; omega
        · obtain rfl : j = k := by omega
          have HB7 := hide hbwr
          clear hbwr
          go_wp2_with fail
          go_ret2
          refine ⟨G2, rfl, by omega, ?_, unhide HB7⟩
          have := unhide hrw
          rw [HRd.out] at this
          exact this
theorem iPattern_any (gs d P : Nat) (f : Nat → Nat) (w : World) (hc : ICells w gs P f) (hP1 : 1 ≤ P) (hP : P ≤ 9) (hPd : P ≤ d) (hf : ∀ i, i < P → f i < P) (hne : ∀ i j, i < P → j < P → i ≠ j → f i ≠ f j) :
    Calls Try.prog 6 #[.slice (some ⟨gs, 0, none⟩) P d] w fun e w' =>
      ∃ g : Nat, e = .returned (.tuple #[.slice (some ⟨g, 0, none⟩) P P, .bool true]) ∧ w.heap.size ≤ g ∧ RRow w' g P (ptF (fun i => rkN (ltF f) i P) P P) ∧ Below w.heap.size w w' :=
  iPattern_wide gs d P f w hc hP1 hP hPd (fun i hi => by have := hf i hi; omega) hne
end Go.Proofs.Ytfiaioohkidgbaa

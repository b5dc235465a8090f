/-
  Ranks in a list of integers: ranksOf; the comparison of integers.
-/
import Derived.Test.YtfiaioohkidgbaaKr
namespace Go.Proofs.Ytfiaioohkidgbaa
open Go.RowKit Rm

/-- The cells of P small integers, whoever owns them. -/
structure ICells (w : World) (g P : Nat) (f : Nat → Nat) : Prop where
  lt : g < w.heap.size
  at0 : ∀ i, i < P → w.cell? ⟨g, i, none⟩ = some (.int .i64 (f i))
theorem ICells.below {w w' : World} {g P : Nat} {f : Nat → Nat} (h : ICells w g P f) (hb : Below w.heap.size w w') : ICells w' g P f :=
  ⟨Nat.lt_of_lt_of_le h.lt hb.size, fun i hi => (hb.cell (p := ⟨g, i, none⟩) h.lt).trans (h.at0 i hi)⟩
theorem ICells.of {w : World} {g P : Nat} {f : Nat → Nat} (h : RRow w g P f) : ICells w g P f := ⟨h.lt, fun _ hi => h.cell hi⟩
theorem icells_set {w : World} {gs P g i : Nat} {v : Value} {f : Nat → Nat} (h : ICells w gs P f) (hne : gs ≠ g) : ICells (w.setCell ⟨g, i, none⟩ v) gs P f :=
  ⟨by simpa using h.lt, fun t ht => (World.cell?_of_block (w := w) (a := ⟨gs, t, none⟩) (Below.heap_setCell _ _ _ _ hne)).trans (h.at0 t ht)⟩
def cI (a b : Int) : Int := if a < b then -1 else if b < a then 1 else 0
theorem cI_lt (a b : Int) : decide (cI a b < 0) = decide (a < b) := by
  unfold cI
  by_cases h : a < b
  · rw [if_pos h, decide_eq_true h]; rfl
  · rw [if_neg h, decide_eq_false h]
    split <;> rfl
theorem isNaNInt_any (a : Int) (w : World) : Calls Try.prog 18 #[.int .i64 a] w fun e w' => e = .returned (.bool false) ∧ Below w.heap.size w w' := by
  go_enter Try.func18, Try.ntmps18
  go_wp2_with fail
  go_ret
  exact ⟨by simp, (by repeat (first | with_reducible exact Below.refl _ _ | with_reducible assumption | (with_reducible refine Below.trans ?_ (Below.mono (by assumption) (by first | omega | (simp <;> omega)))) | with_reducible apply Below.drew | with_reducible apply below_drewN | (with_reducible refine Below.alloc ?_ (by first | omega | (simp <;> omega)) _) | (with_reducible refine Below.setCell ?_ (by first | omega | (simp <;> omega)) _)))⟩
set_option maxRecDepth 100000 in
theorem cmpInt_any (a b : Int) (w : World) : Calls Try.prog 16 #[.int .i64 a, .int .i64 b] w fun e w' => e = .returned (.int .i64 (cI a b)) ∧ Below w.heap.size w w' := by
  unfold cI
  have hn := fun (x : Int) (W : World) => isNaNInt_any x W
  have HN := hide hn
  clear hn
  by_cases h1 : a < b
  · rw [if_pos h1]
    go_enter Try.func16, Try.ntmps16
    go_wp2_with (go_at_call 18; first | (have _t := hbw1; clear _t; (with_reducible refine ((unhide HN) _ _).mono ?_); rintro e w2 ⟨rfl, hbw2⟩) | ((with_reducible refine ((unhide HN) _ _).mono ?_); rintro e w1 ⟨rfl, hbw1⟩; have hs1 := hbw1.size))
    go_ret
    exact ⟨by simp, (by repeat (first | with_reducible exact Below.refl _ _ | with_reducible assumption | (with_reducible refine Below.trans ?_ (Below.mono (by assumption) (by first | omega | (simp <;> omega)))) | with_reducible apply Below.drew | with_reducible apply below_drewN | (with_reducible refine Below.alloc ?_ (by first | omega | (simp <;> omega)) _) | (with_reducible refine Below.setCell ?_ (by first | omega | (simp <;> omega)) _)))⟩
  · rw [if_neg h1]
    by_cases h2 : b < a
    · rw [if_pos h2]
      go_enter Try.func16, Try.ntmps16
      go_wp2_with (go_at_call 18; first | (have _t := hbw1; clear _t; (with_reducible refine ((unhide HN) _ _).mono ?_); rintro e w2 ⟨rfl, hbw2⟩) | ((with_reducible refine ((unhide HN) _ _).mono ?_); rintro e w1 ⟨rfl, hbw1⟩; have hs1 := hbw1.size))
      go_ret
      exact ⟨by simp, (by repeat (first | with_reducible exact Below.refl _ _ | with_reducible assumption | (with_reducible refine Below.trans ?_ (Below.mono (by assumption) (by first | omega | (simp <;> omega)))) | with_reducible apply Below.drew | with_reducible apply below_drewN | (with_reducible refine Below.alloc ?_ (by first | omega | (simp <;> omega)) _) | (with_reducible refine Below.setCell ?_ (by first | omega | (simp <;> omega)) _)))⟩
    · rw [if_neg h2]
      go_enter Try.func16, Try.ntmps16
      go_wp2_with (go_at_call 18; first | (have _t := hbw1; clear _t; (with_reducible refine ((unhide HN) _ _).mono ?_); rintro e w2 ⟨rfl, hbw2⟩) | ((with_reducible refine ((unhide HN) _ _).mono ?_); rintro e w1 ⟨rfl, hbw1⟩; have hs1 := hbw1.size))
      go_ret
      exact ⟨by simp, (by repeat (first | with_reducible exact Below.refl _ _ | with_reducible assumption | (with_reducible refine Below.trans ?_ (Below.mono (by assumption) (by first | omega | (simp <;> omega)))) | with_reducible apply Below.drew | with_reducible apply below_drewN | (with_reducible refine Below.alloc ?_ (by first | omega | (simp <;> omega)) _) | (with_reducible refine Below.setCell ?_ (by first | omega | (simp <;> omega)) _)))⟩
/-- The order of a list's elements by their numbers. -/
def ltF (f : Nat → Nat) (a b : Nat) : Bool := decide (f a < f b)
theorem ltF_cI (f : Nat → Nat) (m k : Nat) : decide (cI (f m) (f k) < 0) = ltF f m k := by
  rw [cI_lt]
  unfold ltF
  by_cases h : f m < f k
  · rw [decide_eq_true h]; exact decide_eq_true (by omega)
  · rw [decide_eq_false h]; exact decide_eq_false (by omega)

set_option maxRecDepth 100000 in
set_option maxHeartbeats 3200000 in
theorem iRanksI_any (gs d P : Nat) (f : Nat → Nat) (w : World) (hc : ICells w gs P f) (hP : P ≤ 60) :
    Calls Try.prog 15 #[.slice (some ⟨gs, 0, none⟩) P d, .func (.func 16) #[] #[]] w fun e w' =>
      e = .returned (.slice (some ⟨w.heap.size, 0, none⟩) P P) ∧ RRow w' w.heap.size P (fun i => rkN (ltF f) i P) ∧ Below w.heap.size w w' := by
  have hmk := run_make_row' (P := Try.prog) 22 3 (.int .i64 0) 8 (by kernel_rfl) (by kernel_rfl) rfl .i64 .i64 P (by omega) (by omega)
  have hor : ∀ (a b : Int) (W : World), Calls Try.prog 16 #[.int .i64 a, .int .i64 b] W fun e w' => e = .returned (.int .i64 (cI a b)) ∧ Below W.heap.size W w' := fun a b W => cmpInt_any a b W
  have HOR := hide hor; have HC := hide hc
  have hgl := hc.lt
  clear hor hc
  go_enter Try.func15, Try.ntmps15
  go_wp2_with fail
  clear hmk
  have hrow := RRow.made w P (ltF f)
  have hbA : Below w.heap.size w (w.alloc (.cells (madeCells #[.int .i64 0] P) 3)) := (by repeat (first | with_reducible exact Below.refl _ _ | with_reducible assumption | (with_reducible refine Below.trans ?_ (Below.mono (by assumption) (by first | omega | (simp <;> omega)))) | with_reducible apply Below.drew | with_reducible apply below_drewN | (with_reducible refine Below.alloc ?_ (by first | omega | (simp <;> omega)) _) | (with_reducible refine Below.setCell ?_ (by first | omega | (simp <;> omega)) _)))
  have hsA : (w.alloc (.cells (madeCells #[.int .i64 0] P) 3)).heap.size = w.heap.size + 1 := by simp
  generalize w.alloc (.cells (madeCells #[.int .i64 0] P) 3) = w2 at *
  have HBA := hide hbA
  have HC2 := hide ((unhide HC).below hbA)
  have hsA2 : w.heap.size < w2.heap.size := by omega
  clear hbA hsA HC
  go_loopw [15] (fun i wr => ∃ k : Nat, i = .int .i64 k ∧ k ≤ P ∧ Hid (RRow wr w.heap.size P (rkW (ltF f) P k 0)) ∧ Hid (ICells wr gs P f) ∧ Below w.heap.size w wr) (fun i _ => P - (intOf i).toNat)
  case atStart => exact ⟨0, rfl, by omega, hide hrow, HC2, unhide HBA⟩
  case round =>
    obtain ⟨k, rfl, hk, hrw, hcw, hbwr⟩ := hrel
    clear hrow
    have hzwr := hbwr.size
    have hgw := (unhide hrw).lt
    have hgw2 := (unhide hcw).lt
    by_cases hlt : k < P
    · have f0 := (unhide hcw).at0 k hlt
      have HB := hide hbwr
      clear hbwr
      obtain ⟨x, hx⟩ : ∃ r, r = f k := ⟨_, rfl⟩
      rw [← hx] at f0
      have HX := Lib.hid hx; clear hx
      go_wp2_with fail
      clear f0
      go_loopw [22] (fun i wi => ∃ m : Nat, i = .int .i64 m ∧ m ≤ P ∧ Hid (RRow wi w.heap.size P (rkW (ltF f) P k m)) ∧ Hid (ICells wi gs P f) ∧ Hid (Below w.heap.size w wi)) (fun i _ => P - (intOf i).toNat)
      case atStart => exact ⟨0, rfl, by omega, hrw, hcw, HB⟩
      case round =>
        obtain ⟨m, rfl, hm, hri, hci, hbi⟩ := hrel
        clear hrw hcw HB
        have hgi := (unhide hri).lt
        have hgi2 := (unhide hci).lt
        by_cases hmt : m < P
        · have e0 := (unhide hci).at0 m hmt
          have r0 := (unhide hri).cell hlt
          have r1 := World.rowIs.frozen (unhide hri) k
          rw [rkW_here] at r0
          have hoa := (unhide HOR) (f m) x
          have hcq := ltF_cI f m k
          rw [← HX.out] at hcq
          have hrle := rkN_le (ltF f) k m
          have hrs := rkW_here (ltF f) P k m
          cases hl : ltF f m k with
          | true =>
            have hst := fun i => rkW_step (P := P) (i := i) hl
            rw [hrs] at hst
            rw [hl] at hcq
            have HST := hide hst; have HOA := hide hoa
            clear hst hrs hoa hl
            generalize rkN (ltF f) k m = r at *
            generalize cI (f m) x = z at *
            generalize f m = y at *
            go_wp2_with (go_at_call 16; (with_reducible refine ((unhide HOA) _).mono ?_); rintro e w5 ⟨rfl, hbw5⟩; have q0 := (hbw5.cell (p := ⟨w.heap.size, k, none⟩) hgi).trans r0; have q1 := (hbw5.frozen (p := ⟨w.heap.size, k, none⟩) hgi).trans r1)
            have hb5 : Below wr.heap.size wr w5 := (by repeat (first | with_reducible exact Below.refl _ _ | with_reducible assumption | (with_reducible refine Below.trans ?_ (Below.mono (by assumption) (by first | omega | (simp <;> omega)))) | with_reducible apply Below.drew | with_reducible apply below_drewN | (with_reducible refine Below.alloc ?_ (by first | omega | (simp <;> omega)) _) | (with_reducible refine Below.setCell ?_ (by first | omega | (simp <;> omega)) _)))
            have hr5 := (unhide hri).below hb5
            have hs5 := hb5.size
            have hr6 := hr5.set k (r + 1) (unhide HST)
            have hc6 := icells_set (g := w.heap.size) (i := k) (v := .int .i64 ((r + 1 : Nat) : Int)) ((unhide hci).below hb5) (by omega)
            have hb6 : Below w.heap.size w (w5.setCell ⟨w.heap.size, k, none⟩ (.int .i64 ((r + 1 : Nat) : Int))) := ((unhide hbi).trans (hb5.mono (Nat.le_of_lt hgi))).setCell (Nat.le_refl _) _
            go_roundw
            case rel => exact ⟨m + 1, by go_num, by omega, hide hr6, hide hc6, hide hb6⟩
            case measure => simp [intOf]; omega
          | false =>
            have hst := fun i => rkW_skip (P := P) (i := i) hl
            rw [hl] at hcq
            have HST := hide hst; have HOA := hide hoa
            clear hst hrs hoa hl
            generalize rkN (ltF f) k m = r at *
            generalize cI (f m) x = z at *
            generalize f m = y at *
            go_wp2_with (go_at_call 16; (with_reducible refine ((unhide HOA) _).mono ?_); rintro e w5 ⟨rfl, hbw5⟩; have q0 := (hbw5.cell (p := ⟨w.heap.size, k, none⟩) hgi).trans r0; have q1 := (hbw5.frozen (p := ⟨w.heap.size, k, none⟩) hgi).trans r1)
            have hb5 : Below wr.heap.size wr w5 := (by repeat (first | with_reducible exact Below.refl _ _ | with_reducible assumption | (with_reducible refine Below.trans ?_ (Below.mono (by assumption) (by first | omega | (simp <;> omega)))) | with_reducible apply Below.drew | with_reducible apply below_drewN | (with_reducible refine Below.alloc ?_ (by first | omega | (simp <;> omega)) _) | (with_reducible refine Below.setCell ?_ (by first | omega | (simp <;> omega)) _)))
            have hr5 := (unhide hri).below hb5
            have hs5 := hb5.size
            go_roundw
            case rel => exact ⟨m + 1, by go_num, by omega, hide (hr5.congr fun i _ => ((unhide HST) i).symm), hide ((unhide hci).below hb5), hide ((unhide hbi).trans (hb5.mono (Nat.le_of_lt hgi)))⟩
            case measure => simp [intOf]; omega
        · obtain rfl : m = P := by omega
          go_wp2_with fail
          have hr6 := hide ((unhide hri).congr fun i _ => rkW_next (ltF f) m k i)
          have hbo := unhide hbi
          go_roundw
          case rel => exact ⟨k + 1, by go_num, by omega, hr6, hci, hbo⟩
          case measure => simp [intOf]; omega
    · obtain rfl : k = P := by omega
      have hfin := (unhide hrw).congr (f' := fun i => rkN (ltF f) i k) (fun i hi => rkW_end (ltF f) 0 hi)
      have HF := hide hfin
      clear hrw hfin
      go_wp2_with fail
      go_ret
      exact ⟨rfl, unhide HF, hbwr⟩
end Go.Proofs.Ytfiaioohkidgbaa

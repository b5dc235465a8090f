/-
  Ranks in a list of fractions: ranksOf of the program.
-/
import Derived.Test.YtmkejopkmdcfeaaOx
import Derived.Test.YtmkejopkmdcfeaaKm
import Derived.Deep.OwnRows
namespace Go.Proofs.Ytmkejopkmdcfeaa
open Go.RowKit Rm

theorem row_below {w w' : World} {b n : Nat} {t : TypeId} {f : Nat → Value} (h : w.rowIs b t n f) (hb : Below w.heap.size w w') : w'.rowIs b t n f := h.of_block (hb.block b h.lt)
/-- Ranks under way: the first k are done, of rank k the first m elements are counted. -/
def rkW (lt : Nat → Nat → Bool) (P k m : Nat) (i : Nat) : Nat := if i < k then rkN lt i P else if i = k then rkN lt i m else 0
theorem rkW_le (lt : Nat → Nat → Bool) {P k m i : Nat} (hm : m ≤ P) : rkW lt P k m i ≤ P := by
  unfold rkW
  have := rkN_le lt i P
  have := rkN_le lt i m
  split
  · omega
  · split <;> omega
theorem rkW_here (lt : Nat → Nat → Bool) (P k m : Nat) : rkW lt P k m k = rkN lt k m := by unfold rkW; rw [if_neg (by omega), if_pos rfl]
theorem rkW_step {lt : Nat → Nat → Bool} {P k m i : Nat} (h : lt m k = true) : rkW lt P k (m + 1) i = if i = k then rkW lt P k m k + 1 else rkW lt P k m i := by
  rw [rkW_here]
  unfold rkW
  by_cases h1 : i < k
  · rw [if_pos h1, if_neg (by omega), if_pos h1]
  · by_cases h2 : i = k
    · subst h2
      rw [if_neg h1, if_pos rfl, if_pos rfl]
      simp [rkN, h]
    · rw [if_neg h1, if_neg h2, if_neg h2, if_neg h1, if_neg h2]
theorem rkW_skip {lt : Nat → Nat → Bool} {P k m i : Nat} (h : lt m k = false) : rkW lt P k (m + 1) i = rkW lt P k m i := by
  unfold rkW
  by_cases h1 : i < k
  · rw [if_pos h1, if_pos h1]
  · by_cases h2 : i = k
    · subst h2
      rw [if_neg h1, if_pos rfl, if_neg h1, if_pos rfl]
      simp [rkN, h]
    · rw [if_neg h1, if_neg h2, if_neg h1, if_neg h2]
theorem rkW_next (lt : Nat → Nat → Bool) (P k i : Nat) : rkW lt P k P i = rkW lt P (k + 1) 0 i := by
  unfold rkW
  by_cases h1 : i < k
  · rw [if_pos h1, if_pos (by omega)]
  · by_cases h2 : i = k
    · subst h2
      rw [if_neg h1, if_pos rfl, if_pos (by omega)]
    · rw [if_neg h1, if_neg h2, if_neg (by omega)]
      split <;> rfl
theorem rkW_start (lt : Nat → Nat → Bool) (P i : Nat) : rkW lt P 0 0 i = 0 := by
  unfold rkW
  rw [if_neg (by omega)]
  split <;> rfl
theorem rkW_end (lt : Nat → Nat → Bool) {P i : Nat} (m : Nat) (h : i < P) : rkW lt P P m i = rkN lt i P := by unfold rkW; rw [if_pos h]
/-- A row of ranks. -/
def RRow (w : World) (g P : Nat) (f : Nat → Nat) : Prop := w.rowIs g 3 P (fun i => .int .i64 (f i))
theorem RRow.cell {w : World} {g P : Nat} {f : Nat → Nat} (h : RRow w g P f) {i : Nat} (hi : i < P) : w.cell? ⟨g, i, none⟩ = some (.int .i64 (f i)) := World.rowIs.cell h hi
theorem RRow.below {w w' : World} {g P : Nat} {f : Nat → Nat} (h : RRow w g P f) (hb : Below w.heap.size w w') : RRow w' g P f := row_below h hb
theorem RRow.congr {w : World} {g P : Nat} {f f' : Nat → Nat} (h : RRow w g P f) (e : ∀ i, i < P → f i = f' i) : RRow w g P f' := World.rowIs.congr h (fun i hi => by rw [e i hi])
theorem RRow.lt {w : World} {g P : Nat} {f : Nat → Nat} (h : RRow w g P f) : g < w.heap.size := World.rowIs.lt h
theorem RRow.set {w : World} {g P : Nat} {f f' : Nat → Nat} (h : RRow w g P f) (i v : Nat) (e : ∀ j, f' j = if j = i then v else f j) : RRow (w.setCell ⟨g, i, none⟩ (.int .i64 v)) g P f' := by
  refine World.rowIs.congr (World.rowIs.set h i (.int .i64 v)) (fun j hj => ?_)
  rw [e j]
  split <;> rfl
theorem RRow.made (w : World) (P : Nat) (lt : Nat → Nat → Bool) : RRow (w.alloc (.cells (madeCells #[.int .i64 0] P) 3)) w.heap.size P (rkW lt P 0 0) :=
  World.rowIs.congr (World.rowIs_made w (.int .i64 0) P _) (fun j hj => by rw [rkW_start]; rfl)
theorem rcells_set {w : World} {gs P g i : Nat} {v : Value} {l : List Rat} (h : RCells w gs P l) (hne : gs ≠ g) : RCells (w.setCell ⟨g, i, none⟩ v) gs P l :=
  ⟨by simpa using h.lt, fun t ht => (World.cell?_of_block (w := w) (a := ⟨gs, t * 2, none⟩) (Below.heap_setCell _ _ _ _ hne)).trans (h.at0 t ht), fun t ht => (World.cell?_of_block (w := w) (a := ⟨gs, t * 2 + 1, none⟩) (Below.heap_setCell _ _ _ _ hne)).trans (h.at1 t ht)⟩
theorem ltQ_cq (cy : List Rat) (m k : Nat) : decide (cq (cy.getD m 0) (cy.getD k 0) < 0) = ltQ cy m k := by
  unfold ltQ
  by_cases h : cy.getD m 0 < cy.getD k 0
  · rw [decide_eq_true h]; exact decide_eq_true (cq_lt.2 h)
  · rw [decide_eq_false h]; exact decide_eq_false (fun e => h (cq_lt.1 e))

set_option maxRecDepth 100000 in
set_option maxHeartbeats 3200000 in
theorem iRanks_any (gs d P : Nat) (cy : List Rat) (w : World) (hc : RCells w gs P cy) (hP : P ≤ 60) (hf : ∀ i, i < P → fits (cy.getD i 0) = true) :
    Calls Try.prog 83 #[.slice (some ⟨gs, 0, none⟩) P d, .func (.func 70) #[] #[]] w fun e w' =>
      e = .returned (.slice (some ⟨w.heap.size, 0, none⟩) P P) ∧ RRow w' w.heap.size P (fun i => rkN (ltQ cy) i P) ∧ Below w.heap.size w w' := by
  have hmk := run_make_row' (P := Try.prog) 51 3 (.int .i64 0) 8 (by kernel_rfl) (by kernel_rfl) rfl .i64 .i64 P (by omega) (by omega)
  have hor : ∀ m k, m < P → k < P → ∀ W, Calls Try.prog 70 #[.agg #[.int .i64 ((cy.getD m 0).num), .int .i64 ((cy.getD m 0).den)], .agg #[.int .i64 ((cy.getD k 0).num), .int .i64 ((cy.getD k 0).den)]] W fun e w' => e = .returned (.int .i64 (cq (cy.getD m 0) (cy.getD k 0))) ∧ Below W.heap.size W w' := fun m k hm hk W => orderOf_q _ _ (hf m hm) (hf k hk) W
  have HOR := hide hor; have HC := hide hc
  have hgl := hc.lt
  clear hor hf hc
  go_enter Try.func83, Try.ntmps83
  go_wp2_with fail
  clear hmk
  have hrow := RRow.made w P (ltQ cy)
  have hbA : Below w.heap.size w (w.alloc (.cells (madeCells #[.int .i64 0] P) 3)) := (by repeat (first | with_reducible exact Below.refl _ _ | with_reducible assumption | (with_reducible refine Below.trans ?_ (Below.mono (by assumption) (by first | omega | (simp <;> omega)))) | with_reducible apply Below.drew | with_reducible apply below_drewN | (with_reducible refine Below.alloc ?_ (by first | omega | (simp <;> omega)) _) | (with_reducible refine Below.setCell ?_ (by first | omega | (simp <;> omega)) _)))
  have hsA : (w.alloc (.cells (madeCells #[.int .i64 0] P) 3)).heap.size = w.heap.size + 1 := by simp
  generalize w.alloc (.cells (madeCells #[.int .i64 0] P) 3) = w2 at *
  have HBA := hide hbA; have HSA := Lib.hid hsA
  have HC2 := hide ((unhide HC).below hbA)
  have hsA2 : w.heap.size < w2.heap.size := by omega
  clear hbA hsA HC
  go_loopw [15] (fun i wr => ∃ k : Nat, i = .int .i64 k ∧ k ≤ P ∧ Hid (RRow wr w.heap.size P (rkW (ltQ cy) P k 0)) ∧ Hid (RCells wr gs P cy) ∧ Below w.heap.size w wr) (fun i _ => P - (intOf i).toNat)
  case atStart => exact ⟨0, rfl, by omega, hide hrow, HC2, unhide HBA⟩
  case round =>
    obtain ⟨k, rfl, hk, hrw, hcw, hbwr⟩ := hrel
    clear hrow
    have hzwr := hbwr.size
    have hgw := (unhide hrw).lt
    have hgw2 := (unhide hcw).lt
    by_cases hlt : k < P
    · have f0 := (unhide hcw).at0 k hlt
      have f1 := (unhide hcw).at1 k hlt
      have HB := hide hbwr
      clear hbwr
      obtain ⟨xn, hxn⟩ : ∃ r, r = (cy.getD k 0).num := ⟨_, rfl⟩
      obtain ⟨xd, hxd⟩ : ∃ r, r = ((cy.getD k 0).den : Int) := ⟨_, rfl⟩
      rw [← hxn] at f0
      rw [← hxd] at f1
      have HX := Lib.hid (And.intro hxn hxd); clear hxn hxd
      go_wp2_with fail
      have x0 : (wr.alloc (.cells #[.int .i64 xn, .int .i64 xd] 26)).cell? ⟨wr.heap.size, 0, none⟩ = some (.int .i64 xn) := by simp [go_sem]
      have x1 : (wr.alloc (.cells #[.int .i64 xn, .int .i64 xd] 26)).cell? ⟨wr.heap.size, 1, none⟩ = some (.int .i64 xd) := by simp [go_sem]
      have hb3 : Below wr.heap.size wr (wr.alloc (.cells #[.int .i64 xn, .int .i64 xd] 26)) := (by repeat (first | with_reducible exact Below.refl _ _ | with_reducible assumption | (with_reducible refine Below.trans ?_ (Below.mono (by assumption) (by first | omega | (simp <;> omega)))) | with_reducible apply Below.drew | with_reducible apply below_drewN | (with_reducible refine Below.alloc ?_ (by first | omega | (simp <;> omega)) _) | (with_reducible refine Below.setCell ?_ (by first | omega | (simp <;> omega)) _)))
      have hs3 : wr.heap.size < (wr.alloc (.cells #[.int .i64 xn, .int .i64 xd] 26)).heap.size := by simp
      generalize wr.alloc (.cells #[.int .i64 xn, .int .i64 xd] 26) = w3 at *
      have hr3 := hide ((unhide hrw).below hb3)
      have hc3 := hide ((unhide hcw).below hb3)
      have hb3w := hide ((unhide HB).trans (hb3.mono (Nat.le_of_lt hgw)))
      clear hb3 hrw hcw HB f0 f1
      obtain ⟨M, hM⟩ : ∃ M, M = wr.heap.size := ⟨_, rfl⟩
      rw [← hM] at x0 x1 hs3 hgw hgw2 hzwr ⊢
      clear hM
      go_loopw [22] (fun i wi => ∃ m : Nat, i = .int .i64 m ∧ m ≤ P ∧ Hid (RRow wi w.heap.size P (rkW (ltQ cy) P k m)) ∧ Hid (RCells wi gs P cy) ∧ Hid (Below w.heap.size w wi) ∧ M < wi.heap.size ∧ wi.cell? ⟨M, 0, none⟩ = some (.int .i64 xn) ∧ wi.cell? ⟨M, 1, none⟩ = some (.int .i64 xd)) (fun i _ => P - (intOf i).toNat)
      case atStart => exact ⟨0, rfl, by omega, hr3, hc3, hb3w, hs3, x0, x1⟩
      case round =>
        obtain ⟨m, rfl, hm, hri, hci, hbi, hsi, b0, b1⟩ := hrel
        clear hr3 hc3 hb3w hs3 x0 x1
        have hgi := (unhide hri).lt
        have hgi2 := (unhide hci).lt
        by_cases hmt : m < P
        · have e0 := (unhide hci).at0 m hmt
          have e1 := (unhide hci).at1 m hmt
          have r0 := (unhide hri).cell hlt
          have r1 := World.rowIs.frozen (unhide hri) k
          rw [rkW_here] at r0
          have hoa := (unhide HOR) m k hmt hlt
          rw [← HX.out.1, ← HX.out.2] at hoa
          have hcq := ltQ_cq cy m k
          have hrle := rkN_le (ltQ cy) k m
          have hrs := rkW_here (ltQ cy) P k m
          cases hl : ltQ cy m k with
          | true =>
            have hst := fun i => rkW_step (P := P) (i := i) hl
            rw [hrs] at hst
            rw [hl] at hcq
            have HST := hide hst; have HOA := hide hoa
            clear hst hrs hoa hl
            generalize rkN (ltQ cy) k m = r at *
            generalize cq (cy.getD m 0) (cy.getD k 0) = z at *
            generalize (cy.getD m 0).num = yn at *
            generalize ((cy.getD m 0).den : Int) = yd at *
            go_wp2_with ((go_at_call 70; (with_reducible refine ((unhide HOA) _).mono ?_); rintro e w5 ⟨rfl, hbw5⟩; obtain ⟨hcw5, hfw5⟩ := bcell hbw5; have hzw5 := hbw5.size; (try simp at hzw5); (try ((have kw5wr0 := (bnew hbw5) (wr.heap.size) ?pf); (case pf => (first | omega | (simp; done) | (simp; omega))); obtain ⟨kcw5wr0, kfw5wr0, klw5wr0⟩ := kw5wr0))))
            have hb5 : Below wr.heap.size wr w5 := (by repeat (first | with_reducible exact Below.refl _ _ | with_reducible assumption | (with_reducible refine Below.trans ?_ (Below.mono (by assumption) (by first | omega | (simp <;> omega)))) | with_reducible apply Below.drew | with_reducible apply below_drewN | (with_reducible refine Below.alloc ?_ (by first | omega | (simp <;> omega)) _) | (with_reducible refine Below.setCell ?_ (by first | omega | (simp <;> omega)) _)))
            have hr5 := (unhide hri).below hb5
            have hs5 := hb5.size
            have hr6 := hr5.set k (r + 1) (unhide HST)
            have hc6 := rcells_set (g := w.heap.size) (i := k) (v := .int .i64 ((r + 1 : Nat) : Int)) ((unhide hci).below hb5) (by omega)
            have hb6 : Below w.heap.size w (w5.setCell ⟨w.heap.size, k, none⟩ (.int .i64 ((r + 1 : Nat) : Int))) := ((unhide hbi).trans (hb5.mono (Nat.le_of_lt hgi))).setCell (Nat.le_refl _) _
            have hs6 : M < (w5.setCell ⟨w.heap.size, k, none⟩ (.int .i64 ((r + 1 : Nat) : Int))).heap.size := by simp; omega
            have b6 : (w5.setCell ⟨w.heap.size, k, none⟩ (.int .i64 ((r + 1 : Nat) : Int))).cell? ⟨M, 0, none⟩ = some (.int .i64 xn) := (World.cell?_of_block (w := w5) (a := ⟨M, 0, none⟩) (Below.heap_setCell _ _ _ _ (show M ≠ w.heap.size by omega))).trans ((hb5.cell (p := ⟨M, 0, none⟩) hsi).trans b0)
            have b7 : (w5.setCell ⟨w.heap.size, k, none⟩ (.int .i64 ((r + 1 : Nat) : Int))).cell? ⟨M, 1, none⟩ = some (.int .i64 xd) := (World.cell?_of_block (w := w5) (a := ⟨M, 1, none⟩) (Below.heap_setCell _ _ _ _ (show M ≠ w.heap.size by omega))).trans ((hb5.cell (p := ⟨M, 1, none⟩) hsi).trans b1)
            go_roundw
            case rel => exact ⟨m + 1, by go_num, by omega, hide hr6, hide hc6, hide hb6, hs6, b6, b7⟩
            case measure => simp [intOf]; omega
          | false =>
            have hst := fun i => rkW_skip (P := P) (i := i) hl
            rw [hl] at hcq
            have HST := hide hst; have HOA := hide hoa
            clear hst hrs hoa hl
            generalize rkN (ltQ cy) k m = r at *
            generalize cq (cy.getD m 0) (cy.getD k 0) = z at *
            generalize (cy.getD m 0).num = yn at *
            generalize ((cy.getD m 0).den : Int) = yd at *
            go_wp2_with ((go_at_call 70; (with_reducible refine ((unhide HOA) _).mono ?_); rintro e w5 ⟨rfl, hbw5⟩; obtain ⟨hcw5, hfw5⟩ := bcell hbw5; have hzw5 := hbw5.size; (try simp at hzw5); (try ((have kw5wr0 := (bnew hbw5) (wr.heap.size) ?pf); (case pf => (first | omega | (simp; done) | (simp; omega))); obtain ⟨kcw5wr0, kfw5wr0, klw5wr0⟩ := kw5wr0))))
            have hb5 : Below wr.heap.size wr w5 := (by repeat (first | with_reducible exact Below.refl _ _ | with_reducible assumption | (with_reducible refine Below.trans ?_ (Below.mono (by assumption) (by first | omega | (simp <;> omega)))) | with_reducible apply Below.drew | with_reducible apply below_drewN | (with_reducible refine Below.alloc ?_ (by first | omega | (simp <;> omega)) _) | (with_reducible refine Below.setCell ?_ (by first | omega | (simp <;> omega)) _)))
            have hr5 := (unhide hri).below hb5
            have hs5 := hb5.size
            go_roundw
            case rel => exact ⟨m + 1, by go_num, by omega, hide (hr5.congr fun i _ => ((unhide HST) i).symm), hide ((unhide hci).below hb5), hide ((unhide hbi).trans (hb5.mono (Nat.le_of_lt hgi))), by omega, (hb5.cell (p := ⟨M, 0, none⟩) hsi).trans b0, (hb5.cell (p := ⟨M, 1, none⟩) hsi).trans b1⟩
            case measure => simp [intOf]; omega
        · obtain rfl : m = P := by omega
          go_wp2_with fail
          have hr6 := hide ((unhide hri).congr fun i _ => rkW_next (ltQ cy) m k i)
          have hbo := unhide hbi
          go_roundw
          case rel => exact ⟨k + 1, by go_num, by omega, hr6, hci, hbo⟩
          case measure => simp [intOf]; omega
    · obtain rfl : k = P := by omega
      have hfin := (unhide hrw).congr (f' := fun i => rkN (ltQ cy) i k) (fun i hi => rkW_end (ltQ cy) 0 hi)
      have HF := hide hfin
      clear hrw hfin
      go_wp2_with fail
      go_ret
      exact ⟨rfl, unhide HF, hbwr⟩
end Go.Proofs.Ytmkejopkmdcfeaa

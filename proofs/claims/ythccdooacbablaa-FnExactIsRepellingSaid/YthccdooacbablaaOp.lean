/-
  Chapter 4: the first place of a fraction; PeriodOf of both.
-/
import Derived.Test.YthccdooacbablaaOc
namespace Go.Proofs.Ythccdooacbablaa
open Go.RowKit Rm

/-- The cells of the first j fractions of a slice, whoever owns it. -/
structure RCells (w : World) (gs j : Nat) (l : List Rat) : Prop where
  lt : gs < w.heap.size
  at0 : ∀ i, i < j → w.cell? ⟨gs, i * 2, none⟩ = some (.int .i64 (l.getD i 0).num)
  at1 : ∀ i, i < j → w.cell? ⟨gs, i * 2 + 1, none⟩ = some (.int .i64 (l.getD i 0).den)
theorem RCells.below {w w' : World} {gs j : Nat} {l : List Rat} (h : RCells w gs j l) (hb : Below w.heap.size w w') : RCells w' gs j l :=
  ⟨Nat.lt_of_lt_of_le h.lt hb.size, fun i hi => (hb.cell (p := ⟨gs, i * 2, none⟩) h.lt).trans (h.at0 i hi), fun i hi => (hb.cell (p := ⟨gs, i * 2 + 1, none⟩) h.lt).trans (h.at1 i hi)⟩
theorem RCells.less {w : World} {gs j i : Nat} {l : List Rat} (h : RCells w gs j l) (hi : i ≤ j) : RCells w gs i l := ⟨h.lt, fun t ht => h.at0 t (by omega), fun t ht => h.at1 t (by omega)⟩
theorem rcells_own {w : World} {base gs n d : Nat} {l : List Rat} (h : w.ownsRow base 26 2 (.slice (some ⟨gs, 0, none⟩) n d) n (frcs (l.map qf))) : RCells w gs n l := by
  have hl := own_lenR h
  have hc : ∀ i, i < n → _ := fun i hi => frs_cells h hi (qAtR l i (by omega))
  refine ⟨(h.lt gs rfl).2, fun i hi => ?_, fun i hi => ?_⟩
  · obtain ⟨g, hA, _, _, h0, _⟩ := hc i hi
    obtain rfl : gs = g := (Addr.mk.inj (Option.some.inj hA)).1
    exact h0
  · obtain ⟨g, hA, _, _, _, h1⟩ := hc i hi
    obtain rfl : gs = g := (Addr.mk.inj (Option.some.inj hA)).1
    exact h1
def ixI (o : Option Nat) : Int := match o with | some i => (i : Int) | none => -1
theorem ixT_some {l : List Rat} {v : Rat} {j k : Nat} (hj : j ≤ l.length) (hk : k < j) (h : l.getD k 0 = v) (hn : ∀ t, t < k → l.getD t 0 ≠ v) : ixI (ixOf (l.take j) v) = (k : Int) := by
  rw [ixOf_some (l.take j) v k (by simp; omega) (by rw [getD_take hk]; exact h) (fun i hi => by rw [getD_take (by omega)]; exact hn i hi)]
  rfl
theorem ixT_none {l : List Rat} {v : Rat} {j : Nat} (hn : ∀ t, t < j → l.getD t 0 ≠ v) : ixI (ixOf (l.take j) v) = -1 := by
  rw [ixOf_none (l.take j) v (fun i hi => by have h1 : i < j := by simp at hi; omega
                                             rw [getD_take h1]; exact hn i h1)]
  rfl
theorem upto_ne {l : List Rat} {v : Rat} {k : Nat} (h : ∀ t, t < k → l.getD t 0 ≠ v) (hk : l.getD k 0 ≠ v) : ∀ t, t < k + 1 → l.getD t 0 ≠ v := by
  intro t ht
  rcases Nat.lt_or_eq_of_le (Nat.le_of_lt_succ ht) with h1 | rfl
  · exact h t h1
  · exact hk

set_option maxRecDepth 100000 in
set_option maxHeartbeats 1600000 in
theorem index_any (gs j d : Nat) (l : List Rat) (v : Rat) (w : World) (hc : RCells w gs j l) (hj : j ≤ l.length) (hj2 : j ≤ 1000) :
    Calls Try.prog 179 #[.slice (some ⟨gs, 0, none⟩) j d, .agg #[.int .i64 (v.num), .int .i64 (v.den)]] w fun e w' => e = .returned (.int .i64 (ixI (ixOf (l.take j) v))) ∧ Below w.heap.size w w' := by
  have HC := hide hc
  have hgl := hc.lt
  clear hc
  obtain ⟨vn, hvn⟩ : ∃ r, r = v.num := ⟨_, rfl⟩
  obtain ⟨vd, hvd⟩ : ∃ r, r = (v.den : Int) := ⟨_, rfl⟩
  rw [← hvn, ← hvd]
  have HV := Lib.hid (And.intro hvn hvd); clear hvn hvd
  go_enter Try.func179, Try.ntmps179
  go_wp2_with fail
  have cx0 : (w.alloc (.cells #[.int .i64 vn, .int .i64 vd] 26)).cell? ⟨w.heap.size, 0, none⟩ = some (.int .i64 vn) := by simp [go_sem]
  have cx1 : (w.alloc (.cells #[.int .i64 vn, .int .i64 vd] 26)).cell? ⟨w.heap.size, 1, none⟩ = some (.int .i64 vd) := by simp [go_sem]
  have hgA : gs < (w.alloc (.cells #[.int .i64 vn, .int .i64 vd] 26)).heap.size := by simp; omega
  have hwA : w.heap.size < (w.alloc (.cells #[.int .i64 vn, .int .i64 vd] 26)).heap.size := by simp
  have hbA : Below w.heap.size w (w.alloc (.cells #[.int .i64 vn, .int .i64 vd] 26)) := (by repeat (first | with_reducible exact Below.refl _ _ | with_reducible assumption | (with_reducible refine Below.trans ?_ (Below.mono (by assumption) (by first | omega | (simp <;> omega)))) | with_reducible apply Below.drew | with_reducible apply below_drewN | (with_reducible refine Below.alloc ?_ (by first | omega | (simp <;> omega)) _) | (with_reducible refine Below.setCell ?_ (by first | omega | (simp <;> omega)) _)))
  generalize w.alloc (.cells #[.int .i64 vn, .int .i64 vd] 26) = w2 at *
  have HC2 := hide ((unhide HC).below hbA)
  have hzA := hbA.size
  have HBA := hide hbA
  clear hbA
  go_loopw [8] (fun i wr => ∃ k : Nat, i = .int .i64 k ∧ k ≤ j ∧ Hid (∀ t, t < k → l.getD t 0 ≠ v) ∧ Below w2.heap.size w2 wr) (fun i _ => j - (intOf i).toNat)
  case atStart => exact ⟨0, rfl, by omega, hide (fun t ht => absurd ht (by omega)), Below.refl _ _⟩
  case round =>
    obtain ⟨k, rfl, hk, hup, hbwr⟩ := hrel
    have hzwr := hbwr.size
    by_cases hlt : k < j
    · have hC := (unhide HC2).below hbwr
      have hgr := hC.lt
      have f0 := hC.at0 k hlt
      have f1 := hC.at1 k hlt
      have cxr0 := (hbwr.cell (p := ⟨w.heap.size, 0, none⟩) hwA).trans cx0
      have cxr1 := (hbwr.cell (p := ⟨w.heap.size, 1, none⟩) hwA).trans cx1
      have HB := hide hbwr
      clear hC hbwr cx0 cx1
      by_cases heq : l.getD k 0 = v
      · have hres := ixT_some hj hlt heq (unhide hup)
        have HR := Lib.hid hres
        rw [heq] at f0 f1
        rw [← HV.out.1] at f0
        rw [← HV.out.2] at f1
        clear hres heq hup
        go_upto_region 4 with fail
        go_region_held3 (fun w' => w'.cell? ⟨gs, k * 2, none⟩ = some (.int .i64 vn) ∧ w'.cell? ⟨gs, k * 2 + 1, none⟩ = some (.int .i64 vd) ∧ w'.cell? ⟨w.heap.size, 0, none⟩ = some (.int .i64 vn) ∧ w'.cell? ⟨w.heap.size, 1, none⟩ = some (.int .i64 vd)) (simp [go_sem, *]) (fail)
        go_wp2_with fail
        have hb := unhide HB
        have hbA := unhide HBA
        go_ret
        exact ⟨by rw [HR.out]; rfl, (by repeat (first | with_reducible exact Below.refl _ _ | with_reducible assumption | (with_reducible refine Below.trans ?_ (Below.mono (by assumption) (by first | omega | (simp <;> omega)))) | with_reducible apply Below.drew | with_reducible apply below_drewN | (with_reducible refine Below.alloc ?_ (by first | omega | (simp <;> omega)) _) | (with_reducible refine Below.setCell ?_ (by first | omega | (simp <;> omega)) _)))⟩
      · have hne : ¬ (vn = (l.getD k 0).num ∧ vd = ((l.getD k 0).den : Int)) := fun h => heq (eq_parts.1 ⟨(HV.out.1.symm.trans h.1).symm, (HV.out.2.symm.trans h.2).symm⟩)
        have hup2 := hide (upto_ne (unhide hup) heq)
        clear heq hup
        generalize (l.getD k 0).num = ln at *
        generalize ((l.getD k 0).den : Int) = ld at *
        have hsp : (ln = vn ∧ ¬ vd = ld) ∨ ¬ vn = ln := by
          by_cases h1 : vn = ln
          · exact .inl ⟨h1.symm, fun h => hne ⟨h1, h⟩⟩
          · exact .inr h1
        clear hne
        rcases hsp with ⟨hln, hd⟩ | hd
        · rw [hln] at f0
          clear hln
          go_upto_region 4 with fail
          go_region_held3 (fun w' => w'.cell? ⟨gs, k * 2, none⟩ = some (.int .i64 vn) ∧ w'.cell? ⟨gs, k * 2 + 1, none⟩ = some (.int .i64 ld) ∧ w'.cell? ⟨w.heap.size, 0, none⟩ = some (.int .i64 vn) ∧ w'.cell? ⟨w.heap.size, 1, none⟩ = some (.int .i64 vd)) (simp [go_sem, *]) (fail)
          go_wp2_with fail
          have hb := unhide HB
          go_roundw
          case rel => exact ⟨k + 1, by go_num, by omega, hup2, (by repeat (first | with_reducible exact Below.refl _ _ | with_reducible assumption | (with_reducible refine Below.trans ?_ (Below.mono (by assumption) (by first | omega | (simp <;> omega)))) | with_reducible apply Below.drew | with_reducible apply below_drewN | (with_reducible refine Below.alloc ?_ (by first | omega | (simp <;> omega)) _) | (with_reducible refine Below.setCell ?_ (by first | omega | (simp <;> omega)) _)))⟩
          case measure => simp [intOf]; omega
        · go_upto_region 4 with fail
          go_region_held3 (fun w' => w'.cell? ⟨gs, k * 2, none⟩ = some (.int .i64 ln) ∧ w'.cell? ⟨gs, k * 2 + 1, none⟩ = some (.int .i64 ld) ∧ w'.cell? ⟨w.heap.size, 0, none⟩ = some (.int .i64 vn) ∧ w'.cell? ⟨w.heap.size, 1, none⟩ = some (.int .i64 vd)) (simp [go_sem, *]) (fail)
          go_wp2_with fail
          have hb := unhide HB
          go_roundw
          case rel => exact ⟨k + 1, by go_num, by omega, hup2, (by repeat (first | with_reducible exact Below.refl _ _ | with_reducible assumption | (with_reducible refine Below.trans ?_ (Below.mono (by assumption) (by first | omega | (simp <;> omega)))) | with_reducible apply Below.drew | with_reducible apply below_drewN | (with_reducible refine Below.alloc ?_ (by first | omega | (simp <;> omega)) _) | (with_reducible refine Below.setCell ?_ (by first | omega | (simp <;> omega)) _)))⟩
          case measure => simp [intOf]; omega
    · obtain rfl : k = j := by omega
      have hres := ixT_none (unhide hup)
      have HR := Lib.hid hres
      have HB := hide hbwr
      clear hbwr hres
      go_wp2_with fail
      have hb := unhide HB
      have hbA := unhide HBA
      go_ret
      exact ⟨by rw [HR.out]; rfl, (by repeat (first | with_reducible exact Below.refl _ _ | with_reducible assumption | (with_reducible refine Below.trans ?_ (Below.mono (by assumption) (by first | omega | (simp <;> omega)))) | with_reducible apply Below.drew | with_reducible apply below_drewN | (with_reducible refine Below.alloc ?_ (by first | omega | (simp <;> omega)) _) | (with_reducible refine Below.setCell ?_ (by first | omega | (simp <;> omega)) _)))⟩

set_option maxRecDepth 100000 in
set_option maxHeartbeats 1600000 in
theorem orAt_any (gs j d : Nat) (l : List Rat) (v : Rat) (w : World) (hc : RCells w gs j l) (hj : j ≤ l.length) (hj2 : j ≤ 1000) :
    Calls Try.prog 166 #[.slice (some ⟨gs, 0, none⟩) j d, .agg #[.int .i64 (v.num), .int .i64 (v.den)]] w fun e w' => e = .returned (.int .i64 (ixI (ixOf (l.take j) v))) ∧ Below w.heap.size w w' := by
  have HC := hide hc
  have hgl := hc.lt
  clear hc
  obtain ⟨vn, hvn⟩ : ∃ r, r = v.num := ⟨_, rfl⟩
  obtain ⟨vd, hvd⟩ : ∃ r, r = (v.den : Int) := ⟨_, rfl⟩
  rw [← hvn, ← hvd]
  have HV := Lib.hid (And.intro hvn hvd); clear hvn hvd
  go_enter Try.func166, Try.ntmps166
  go_wp2_with fail
  have cx0 : (w.alloc (.cells #[.int .i64 vn, .int .i64 vd] 26)).cell? ⟨w.heap.size, 0, none⟩ = some (.int .i64 vn) := by simp [go_sem]
  have cx1 : (w.alloc (.cells #[.int .i64 vn, .int .i64 vd] 26)).cell? ⟨w.heap.size, 1, none⟩ = some (.int .i64 vd) := by simp [go_sem]
  have hgA : gs < (w.alloc (.cells #[.int .i64 vn, .int .i64 vd] 26)).heap.size := by simp; omega
  have hwA : w.heap.size < (w.alloc (.cells #[.int .i64 vn, .int .i64 vd] 26)).heap.size := by simp
  have hbA : Below w.heap.size w (w.alloc (.cells #[.int .i64 vn, .int .i64 vd] 26)) := (by repeat (first | with_reducible exact Below.refl _ _ | with_reducible assumption | (with_reducible refine Below.trans ?_ (Below.mono (by assumption) (by first | omega | (simp <;> omega)))) | with_reducible apply Below.drew | with_reducible apply below_drewN | (with_reducible refine Below.alloc ?_ (by first | omega | (simp <;> omega)) _) | (with_reducible refine Below.setCell ?_ (by first | omega | (simp <;> omega)) _)))
  generalize w.alloc (.cells #[.int .i64 vn, .int .i64 vd] 26) = w2 at *
  have HC2 := hide ((unhide HC).below hbA)
  have hzA := hbA.size
  have HBA := hide hbA
  clear hbA
  go_loopw [9] (fun i wr => ∃ k : Nat, i = .int .i64 k ∧ k ≤ j ∧ Hid (∀ t, t < k → l.getD t 0 ≠ v) ∧ Below w2.heap.size w2 wr) (fun i _ => j - (intOf i).toNat)
  case atStart => exact ⟨0, rfl, by omega, hide (fun t ht => absurd ht (by omega)), Below.refl _ _⟩
  case round =>
    obtain ⟨k, rfl, hk, hup, hbwr⟩ := hrel
    have hzwr := hbwr.size
    by_cases hlt : k < j
    · have hC := (unhide HC2).below hbwr
      have hgr := hC.lt
      have f0 := hC.at0 k hlt
      have f1 := hC.at1 k hlt
      have hwr : w.heap.size < wr.heap.size := by omega
      have cxr0 := (hbwr.cell (p := ⟨w.heap.size, 0, none⟩) hwA).trans cx0
      have cxr1 := (hbwr.cell (p := ⟨w.heap.size, 1, none⟩) hwA).trans cx1
      have HB := hide hbwr
      clear hC hbwr cx0 cx1
      by_cases heq : l.getD k 0 = v
      · have hres := ixT_some hj hlt heq (unhide hup)
        have HR := Lib.hid hres
        rw [heq] at f0 f1
        rw [← HV.out.1] at f0
        rw [← HV.out.2] at f1
        clear hres heq hup
        go_wp2_with fail
        have hb := unhide HB
        have hbA := unhide HBA
        go_ret
        exact ⟨by rw [HR.out]; rfl, (by repeat (first | with_reducible exact Below.refl _ _ | with_reducible assumption | (with_reducible refine Below.trans ?_ (Below.mono (by assumption) (by first | omega | (simp <;> omega)))) | with_reducible apply Below.drew | with_reducible apply below_drewN | (with_reducible refine Below.alloc ?_ (by first | omega | (simp <;> omega)) _) | (with_reducible refine Below.setCell ?_ (by first | omega | (simp <;> omega)) _)))⟩
      · have hne : ¬ (vn = (l.getD k 0).num ∧ vd = ((l.getD k 0).den : Int)) := fun h => heq (eq_parts.1 ⟨(HV.out.1.symm.trans h.1).symm, (HV.out.2.symm.trans h.2).symm⟩)
        have hup2 := hide (upto_ne (unhide hup) heq)
        clear heq hup
        generalize (l.getD k 0).num = ln at *
        generalize ((l.getD k 0).den : Int) = ld at *
        have hsp : (ln = vn ∧ ¬ vd = ld) ∨ ¬ vn = ln := by
          by_cases h1 : vn = ln
          · exact .inl ⟨h1.symm, fun h => hne ⟨h1, h⟩⟩
          · exact .inr h1
        clear hne
        rcases hsp with ⟨hln, hd⟩ | hd
        · rw [hln] at f0
          clear hln
          go_wp2_with fail
          have hb := unhide HB
          go_roundw
          case rel => exact ⟨k + 1, by go_num, by omega, hup2, (by repeat (first | with_reducible exact Below.refl _ _ | with_reducible assumption | (with_reducible refine Below.trans ?_ (Below.mono (by assumption) (by first | omega | (simp <;> omega)))) | with_reducible apply Below.drew | with_reducible apply below_drewN | (with_reducible refine Below.alloc ?_ (by first | omega | (simp <;> omega)) _) | (with_reducible refine Below.setCell ?_ (by first | omega | (simp <;> omega)) _)))⟩
          case measure => simp [intOf]; omega
        · go_wp2_with fail
          have hb := unhide HB
          go_roundw
          case rel => exact ⟨k + 1, by go_num, by omega, hup2, (by repeat (first | with_reducible exact Below.refl _ _ | with_reducible assumption | (with_reducible refine Below.trans ?_ (Below.mono (by assumption) (by first | omega | (simp <;> omega)))) | with_reducible apply Below.drew | with_reducible apply below_drewN | (with_reducible refine Below.alloc ?_ (by first | omega | (simp <;> omega)) _) | (with_reducible refine Below.setCell ?_ (by first | omega | (simp <;> omega)) _)))⟩
          case measure => simp [intOf]; omega
    · obtain rfl : k = j := by omega
      have hres := ixT_none (unhide hup)
      have HR := Lib.hid hres
      have HB := hide hbwr
      clear hbwr hres
      go_wp2_with fail
      have hb := unhide HB
      have hbA := unhide HBA
      go_ret
      exact ⟨by rw [HR.out]; rfl, (by repeat (first | with_reducible exact Below.refl _ _ | with_reducible assumption | (with_reducible refine Below.trans ?_ (Below.mono (by assumption) (by first | omega | (simp <;> omega)))) | with_reducible apply Below.drew | with_reducible apply below_drewN | (with_reducible refine Below.alloc ?_ (by first | omega | (simp <;> omega)) _) | (with_reducible refine Below.setCell ?_ (by first | omega | (simp <;> omega)) _)))⟩
end Go.Proofs.Ythccdooacbablaa

/-
  The first place of a pair of integers in a slice of fractions, valid or not.
-/
import Derived.Test.YtmkejopkmdcfeaaOp
namespace Go.Proofs.Ytmkejopkmdcfeaa
open Go.RowKit Rm

structure FCells (w : World) (gs j : Nat) (l : List Fr) : Prop where
  lt : gs < w.heap.size
  at0 : ∀ i, i < j → w.cell? ⟨gs, i * 2, none⟩ = some (.int .i64 (fAt l i).1)
  at1 : ∀ i, i < j → w.cell? ⟨gs, i * 2 + 1, none⟩ = some (.int .i64 (fAt l i).2)
theorem FCells.below {w w' : World} {gs j : Nat} {l : List Fr} (h : FCells w gs j l) (hb : Below w.heap.size w w') : FCells w' gs j l :=
  ⟨Nat.lt_of_lt_of_le h.lt hb.size, fun i hi => (hb.cell (p := ⟨gs, i * 2, none⟩) h.lt).trans (h.at0 i hi), fun i hi => (hb.cell (p := ⟨gs, i * 2 + 1, none⟩) h.lt).trans (h.at1 i hi)⟩
theorem FCells.less {w : World} {gs j i : Nat} {l : List Fr} (h : FCells w gs j l) (hi : i ≤ j) : FCells w gs i l := ⟨h.lt, fun t ht => h.at0 t (by omega), fun t ht => h.at1 t (by omega)⟩
theorem fcells_own {w : World} {base gs n d : Nat} {l : List Fr} (h : w.ownsRow base 26 2 (.slice (some ⟨gs, 0, none⟩) n d) n (frcs l)) : FCells w gs n l := by
  have hc : ∀ i, i < n → _ := fun i hi => frs_cells h hi (show fAt l i = ((fAt l i).1, (fAt l i).2) from rfl)
  refine ⟨(h.lt gs rfl).2, fun i hi => ?_, fun i hi => ?_⟩
  · obtain ⟨g, hA, _, _, h0, _⟩ := hc i hi
    obtain rfl : gs = g := (Addr.mk.inj (Option.some.inj hA)).1
    exact h0
  · obtain ⟨g, hA, _, _, _, h1⟩ := hc i hi
    obtain rfl : gs = g := (Addr.mk.inj (Option.some.inj hA)).1
    exact h1
/-- Whether v is among the first j pairs, and the first place of it, or -1. -/
def ixFrom (l : List Fr) (v : Fr) : Nat → Nat → Int
  | _, 0 => -1
  | t, n + 1 => if fAt l t = v then (t : Int) else ixFrom l v (t + 1) n
def ixF (l : List Fr) (j : Nat) (v : Fr) : Int := ixFrom l v 0 j
theorem ixFrom_some {l : List Fr} {v : Fr} : ∀ (n t k : Nat), k < n → fAt l (t + k) = v → (∀ i, i < k → fAt l (t + i) ≠ v) → ixFrom l v t n = ((t + k : Nat) : Int)
  | 0, t, k, h, _, _ => absurd h (by omega)
  | n + 1, t, 0, _, h, _ => by
    have h' : fAt l t = v := h
    rw [ixFrom, if_pos h', Nat.add_zero]
  | n + 1, t, k + 1, hk, h, hi => by
    have h0 : fAt l t ≠ v := hi 0 (by omega)
    simp only [ixFrom, if_neg h0]
    rw [ixFrom_some n (t + 1) k (by omega) (by rw [show t + 1 + k = t + (k + 1) by omega]; exact h) (fun i h1 => by rw [show t + 1 + i = t + (i + 1) by omega]; exact hi (i + 1) (by omega))]
    rw [show t + 1 + k = t + (k + 1) by omega]
theorem ixFrom_none {l : List Fr} {v : Fr} : ∀ (n t : Nat), (∀ i, i < n → fAt l (t + i) ≠ v) → ixFrom l v t n = -1
  | 0, _, _ => rfl
  | n + 1, t, hi => by
    have h0 : fAt l t ≠ v := hi 0 (by omega)
    simp only [ixFrom, if_neg h0]
    exact ixFrom_none n (t + 1) (fun i h1 => by rw [show t + 1 + i = t + (i + 1) by omega]; exact hi (i + 1) (by omega))
theorem ixF_some {l : List Fr} {v : Fr} {j k : Nat} (hk : k < j) (h : fAt l k = v) (hn : ∀ t, t < k → fAt l t ≠ v) : ixF l j v = (k : Int) := by
  have := ixFrom_some (l := l) (v := v) j 0 k hk (by simpa using h) (fun i hi => by simpa using hn i hi)
  rw [Nat.zero_add] at this
  exact this
theorem ixF_none {l : List Fr} {v : Fr} {j : Nat} (hn : ∀ t, t < j → fAt l t ≠ v) : ixF l j v = -1 := ixFrom_none j 0 (fun i hi => by simpa using hn i hi)
theorem uptoF_ne {l : List Fr} {v : Fr} {k : Nat} (h : ∀ t, t < k → fAt l t ≠ v) (hk : fAt l k ≠ v) : ∀ t, t < k + 1 → fAt l t ≠ v := by
  intro t ht
  rcases Nat.lt_or_eq_of_le (Nat.le_of_lt_succ ht) with h1 | rfl
  · exact h t h1
  · exact hk

set_option maxRecDepth 100000 in
set_option maxHeartbeats 1600000 in
theorem indexF_any (gs j d : Nat) (l : List Fr) (v : Fr) (w : World) (hc : FCells w gs j l) (hj2 : j ≤ 1000) :
    Calls Try.prog 66 #[.slice (some ⟨gs, 0, none⟩) j d, .agg #[.int .i64 (v.1), .int .i64 (v.2)]] w fun e w' => e = .returned (.int .i64 (ixF l j v)) ∧ Below w.heap.size w w' := by
  have HC := hide hc
  have hgl := hc.lt
  clear hc
  obtain ⟨vn, hvn⟩ : ∃ r, r = v.1 := ⟨_, rfl⟩
  obtain ⟨vd, hvd⟩ : ∃ r, r = v.2 := ⟨_, rfl⟩
  rw [← hvn, ← hvd]
  have HV := Lib.hid (And.intro hvn hvd); clear hvn hvd
  go_enter Try.func66, Try.ntmps66
  go_wp2_with fail
  have cx0 : (w.alloc (.cells #[.int .i64 vn, .int .i64 vd] 26)).cell? ⟨w.heap.size, 0, none⟩ = some (.int .i64 vn) := by simp [go_sem]
  have cx1 : (w.alloc (.cells #[.int .i64 vn, .int .i64 vd] 26)).cell? ⟨w.heap.size, 1, none⟩ = some (.int .i64 vd) := by simp [go_sem]
  have hgA : gs < (w.alloc (.cells #[.int .i64 vn, .int .i64 vd] 26)).heap.size := by simp; omega
  have hwA : w.heap.size < (w.alloc (.cells #[.int .i64 vn, .int .i64 vd] 26)).heap.size := by simp
  have hbA : Below w.heap.size w (w.alloc (.cells #[.int .i64 vn, .int .i64 vd] 26)) := (by repeat (first | with_reducible exact Below.refl _ _ | with_reducible assumption | (with_reducible refine Below.trans ?_ (Below.mono (by assumption) (by first | omega | (simp <;> omega)))) | with_reducible apply Below.drew | with_reducible apply below_drewN | (with_reducible refine Below.alloc ?_ (by first | omega | (simp <;> omega)) _) | (with_reducible refine Below.setCell ?_ (by first | omega | (simp <;> omega)) _)))
  generalize w.alloc (.cells #[.int .i64 vn, .int .i64 vd] 26) = w2 at *
  have HC2 := hide ((unhide HC).below hbA)
  have hzA := hbA.size
  have HBA := hide hbA
  clear hbA
  go_loopw [8] (fun i wr => ∃ k : Nat, i = .int .i64 k ∧ k ≤ j ∧ Hid (∀ t, t < k → fAt l t ≠ v) ∧ Below w2.heap.size w2 wr) (fun i _ => j - (intOf i).toNat)
  case atStart => exact ⟨0, rfl, by omega, hide (fun t ht => absurd ht (by omega)), Below.refl _ _⟩
  case round =>
    obtain ⟨k, rfl, hk, hup, hbwr⟩ := hrel
    have hzwr := hbwr.size
    by_cases hlt : k < j
    · have hC := (unhide HC2).below hbwr
      have hgr := hC.lt
      have f0 := hC.at0 k hlt
      have f1 := hC.at1 k hlt
      have cxr0 := (hbwr.cell (p := ⟨w.heap.size, 0, none⟩) hwA).trans cx0
      have cxr1 := (hbwr.cell (p := ⟨w.heap.size, 1, none⟩) hwA).trans cx1
      have HB := hide hbwr
      clear hC hbwr cx0 cx1
      by_cases heq : fAt l k = v
      · have hres := ixF_some hlt heq (unhide hup)
        have HR := Lib.hid hres
        rw [heq] at f0 f1
        rw [← HV.out.1] at f0
        rw [← HV.out.2] at f1
        clear hres heq hup
        go_upto_region 4 with fail
        go_region_held3 (fun w' => w'.cell? ⟨gs, k * 2, none⟩ = some (.int .i64 vn) ∧ w'.cell? ⟨gs, k * 2 + 1, none⟩ = some (.int .i64 vd) ∧ w'.cell? ⟨w.heap.size, 0, none⟩ = some (.int .i64 vn) ∧ w'.cell? ⟨w.heap.size, 1, none⟩ = some (.int .i64 vd)) (simp [go_sem, *]) (fail)
        go_wp2_with fail
        have hb := unhide HB
        have hbA := unhide HBA
        go_ret
        exact ⟨by rw [HR.out]; rfl, (by repeat (first | with_reducible exact Below.refl _ _ | with_reducible assumption | (with_reducible refine Below.trans ?_ (Below.mono (by assumption) (by first | omega | (simp <;> omega)))) | with_reducible apply Below.drew | with_reducible apply below_drewN | (with_reducible refine Below.alloc ?_ (by first | omega | (simp <;> omega)) _) | (with_reducible refine Below.setCell ?_ (by first | omega | (simp <;> omega)) _)))⟩
      · have hne : ¬ (vn = (fAt l k).1 ∧ vd = (fAt l k).2) := fun h => heq (Prod.ext (HV.out.1.symm.trans h.1).symm (HV.out.2.symm.trans h.2).symm)
        have hup2 := hide (uptoF_ne (unhide hup) heq)
        clear heq hup
        generalize (fAt l k).1 = ln at *
        generalize (fAt l k).2 = ld at *
        have hsp : (ln = vn ∧ ¬ vd = ld) ∨ ¬ vn = ln := by
          by_cases h1 : vn = ln
          · exact .inl ⟨h1.symm, fun h => hne ⟨h1, h⟩⟩
          · exact .inr h1
        clear hne
        rcases hsp with ⟨hln, hd⟩ | hd
        · rw [hln] at f0
          clear hln
          go_upto_region 4 with fail
          go_region_held3 (fun w' => w'.cell? ⟨gs, k * 2, none⟩ = some (.int .i64 vn) ∧ w'.cell? ⟨gs, k * 2 + 1, none⟩ = some (.int .i64 ld) ∧ w'.cell? ⟨w.heap.size, 0, none⟩ = some (.int .i64 vn) ∧ w'.cell? ⟨w.heap.size, 1, none⟩ = some (.int .i64 vd)) (simp [go_sem, *]) (fail)
          go_wp2_with fail
          have hb := unhide HB
          go_roundw
          case rel => exact ⟨k + 1, by go_num, by omega, hup2, (by repeat (first | with_reducible exact Below.refl _ _ | with_reducible assumption | (with_reducible refine Below.trans ?_ (Below.mono (by assumption) (by first | omega | (simp <;> omega)))) | with_reducible apply Below.drew | with_reducible apply below_drewN | (with_reducible refine Below.alloc ?_ (by first | omega | (simp <;> omega)) _) | (with_reducible refine Below.setCell ?_ (by first | omega | (simp <;> omega)) _)))⟩
          case measure => simp [intOf]; omega
        · go_upto_region 4 with fail
          go_region_held3 (fun w' => w'.cell? ⟨gs, k * 2, none⟩ = some (.int .i64 ln) ∧ w'.cell? ⟨gs, k * 2 + 1, none⟩ = some (.int .i64 ld) ∧ w'.cell? ⟨w.heap.size, 0, none⟩ = some (.int .i64 vn) ∧ w'.cell? ⟨w.heap.size, 1, none⟩ = some (.int .i64 vd)) (simp [go_sem, *]) (fail)
          go_wp2_with fail
          have hb := unhide HB
          go_roundw
          case rel => exact ⟨k + 1, by go_num, by omega, hup2, (by repeat (first | with_reducible exact Below.refl _ _ | with_reducible assumption | (with_reducible refine Below.trans ?_ (Below.mono (by assumption) (by first | omega | (simp <;> omega)))) | with_reducible apply Below.drew | with_reducible apply below_drewN | (with_reducible refine Below.alloc ?_ (by first | omega | (simp <;> omega)) _) | (with_reducible refine Below.setCell ?_ (by first | omega | (simp <;> omega)) _)))⟩
          case measure => simp [intOf]; omega
    · obtain rfl : k = j := by omega
      have hres := ixF_none (unhide hup)
      have HR := Lib.hid hres
      have HB := hide hbwr
      clear hbwr hres
      go_wp2_with fail
      have hb := unhide HB
      have hbA := unhide HBA
      go_ret
      exact ⟨by rw [HR.out]; rfl, (by repeat (first | with_reducible exact Below.refl _ _ | with_reducible assumption | (with_reducible refine Below.trans ?_ (Below.mono (by assumption) (by first | omega | (simp <;> omega)))) | with_reducible apply Below.drew | with_reducible apply below_drewN | (with_reducible refine Below.alloc ?_ (by first | omega | (simp <;> omega)) _) | (with_reducible refine Below.setCell ?_ (by first | omega | (simp <;> omega)) _)))⟩

set_option maxRecDepth 100000 in
set_option maxHeartbeats 1600000 in
theorem orAtF_any (gs j d : Nat) (l : List Fr) (v : Fr) (w : World) (hc : FCells w gs j l) (hj2 : j ≤ 1000) :
    Calls Try.prog 97 #[.slice (some ⟨gs, 0, none⟩) j d, .agg #[.int .i64 (v.1), .int .i64 (v.2)]] w fun e w' => e = .returned (.int .i64 (ixF l j v)) ∧ Below w.heap.size w w' := by
  have HC := hide hc
  have hgl := hc.lt
  clear hc
  obtain ⟨vn, hvn⟩ : ∃ r, r = v.1 := ⟨_, rfl⟩
  obtain ⟨vd, hvd⟩ : ∃ r, r = v.2 := ⟨_, rfl⟩
  rw [← hvn, ← hvd]
  have HV := Lib.hid (And.intro hvn hvd); clear hvn hvd
  go_enter Try.func97, Try.ntmps97
  go_wp2_with fail
  have cx0 : (w.alloc (.cells #[.int .i64 vn, .int .i64 vd] 26)).cell? ⟨w.heap.size, 0, none⟩ = some (.int .i64 vn) := by simp [go_sem]
  have cx1 : (w.alloc (.cells #[.int .i64 vn, .int .i64 vd] 26)).cell? ⟨w.heap.size, 1, none⟩ = some (.int .i64 vd) := by simp [go_sem]
  have hgA : gs < (w.alloc (.cells #[.int .i64 vn, .int .i64 vd] 26)).heap.size := by simp; omega
  have hwA : w.heap.size < (w.alloc (.cells #[.int .i64 vn, .int .i64 vd] 26)).heap.size := by simp
  have hbA : Below w.heap.size w (w.alloc (.cells #[.int .i64 vn, .int .i64 vd] 26)) := (by repeat (first | with_reducible exact Below.refl _ _ | with_reducible assumption | (with_reducible refine Below.trans ?_ (Below.mono (by assumption) (by first | omega | (simp <;> omega)))) | with_reducible apply Below.drew | with_reducible apply below_drewN | (with_reducible refine Below.alloc ?_ (by first | omega | (simp <;> omega)) _) | (with_reducible refine Below.setCell ?_ (by first | omega | (simp <;> omega)) _)))
  generalize w.alloc (.cells #[.int .i64 vn, .int .i64 vd] 26) = w2 at *
  have HC2 := hide ((unhide HC).below hbA)
  have hzA := hbA.size
  have HBA := hide hbA
  clear hbA
  go_loopw [9] (fun i wr => ∃ k : Nat, i = .int .i64 k ∧ k ≤ j ∧ Hid (∀ t, t < k → fAt l t ≠ v) ∧ Below w2.heap.size w2 wr) (fun i _ => j - (intOf i).toNat)
  case atStart => exact ⟨0, rfl, by omega, hide (fun t ht => absurd ht (by omega)), Below.refl _ _⟩
  case round =>
    obtain ⟨k, rfl, hk, hup, hbwr⟩ := hrel
    have hzwr := hbwr.size
    by_cases hlt : k < j
    · have hC := (unhide HC2).below hbwr
      have hgr := hC.lt
      have f0 := hC.at0 k hlt
      have f1 := hC.at1 k hlt
      have hwr : w.heap.size < wr.heap.size := by omega
      have cxr0 := (hbwr.cell (p := ⟨w.heap.size, 0, none⟩) hwA).trans cx0
      have cxr1 := (hbwr.cell (p := ⟨w.heap.size, 1, none⟩) hwA).trans cx1
      have HB := hide hbwr
      clear hC hbwr cx0 cx1
      by_cases heq : fAt l k = v
      · have hres := ixF_some hlt heq (unhide hup)
        have HR := Lib.hid hres
        rw [heq] at f0 f1
        rw [← HV.out.1] at f0
        rw [← HV.out.2] at f1
        clear hres heq hup
        go_wp2_with fail
        have hb := unhide HB
        have hbA := unhide HBA
        go_ret
        exact ⟨by rw [HR.out]; rfl, (by repeat (first | with_reducible exact Below.refl _ _ | with_reducible assumption | (with_reducible refine Below.trans ?_ (Below.mono (by assumption) (by first | omega | (simp <;> omega)))) | with_reducible apply Below.drew | with_reducible apply below_drewN | (with_reducible refine Below.alloc ?_ (by first | omega | (simp <;> omega)) _) | (with_reducible refine Below.setCell ?_ (by first | omega | (simp <;> omega)) _)))⟩
      · have hne : ¬ (vn = (fAt l k).1 ∧ vd = (fAt l k).2) := fun h => heq (Prod.ext (HV.out.1.symm.trans h.1).symm (HV.out.2.symm.trans h.2).symm)
        have hup2 := hide (uptoF_ne (unhide hup) heq)
        clear heq hup
        generalize (fAt l k).1 = ln at *
        generalize (fAt l k).2 = ld at *
        have hsp : (ln = vn ∧ ¬ vd = ld) ∨ ¬ vn = ln := by
          by_cases h1 : vn = ln
          · exact .inl ⟨h1.symm, fun h => hne ⟨h1, h⟩⟩
          · exact .inr h1
        clear hne
        rcases hsp with ⟨hln, hd⟩ | hd
        · rw [hln] at f0
          clear hln
          go_wp2_with fail
          have hb := unhide HB
          go_roundw
          case rel => exact ⟨k + 1, by go_num, by omega, hup2, (by repeat (first | with_reducible exact Below.refl _ _ | with_reducible assumption | (with_reducible refine Below.trans ?_ (Below.mono (by assumption) (by first | omega | (simp <;> omega)))) | with_reducible apply Below.drew | with_reducible apply below_drewN | (with_reducible refine Below.alloc ?_ (by first | omega | (simp <;> omega)) _) | (with_reducible refine Below.setCell ?_ (by first | omega | (simp <;> omega)) _)))⟩
          case measure => simp [intOf]; omega
        · go_wp2_with fail
          have hb := unhide HB
          go_roundw
          case rel => exact ⟨k + 1, by go_num, by omega, hup2, (by repeat (first | with_reducible exact Below.refl _ _ | with_reducible assumption | (with_reducible refine Below.trans ?_ (Below.mono (by assumption) (by first | omega | (simp <;> omega)))) | with_reducible apply Below.drew | with_reducible apply below_drewN | (with_reducible refine Below.alloc ?_ (by first | omega | (simp <;> omega)) _) | (with_reducible refine Below.setCell ?_ (by first | omega | (simp <;> omega)) _)))⟩
          case measure => simp [intOf]; omega
    · obtain rfl : k = j := by omega
      have hres := ixF_none (unhide hup)
      have HR := Lib.hid hres
      have HB := hide hbwr
      clear hbwr hres
      go_wp2_with fail
      have hb := unhide HB
      have hbA := unhide HBA
      go_ret
      exact ⟨by rw [HR.out]; rfl, (by repeat (first | with_reducible exact Below.refl _ _ | with_reducible assumption | (with_reducible refine Below.trans ?_ (Below.mono (by assumption) (by first | omega | (simp <;> omega)))) | with_reducible apply Below.drew | with_reducible apply below_drewN | (with_reducible refine Below.alloc ?_ (by first | omega | (simp <;> omega)) _) | (with_reducible refine Below.setCell ?_ (by first | omega | (simp <;> omega)) _)))⟩

/-- slices.Contains: whether the first place is one. -/
theorem containsF_any (gs j d : Nat) (l : List Fr) (v : Fr) (w : World) (hc : FCells w gs j l) (hj2 : j ≤ 1000) :
    Calls Try.prog 86 #[.slice (some ⟨gs, 0, none⟩) j d, .agg #[.int .i64 (v.1), .int .i64 (v.2)]] w fun e w' => e = .returned (.bool (decide (0 ≤ ixF l j v))) ∧ Below w.heap.size w w' := by
  have hix := fun W hW => indexF_any gs j d l v W hW hj2
  have HIX := hide hix; have HC := hide hc
  clear hix hc
  generalize ixF l j v = z at *
  obtain ⟨v1, v2⟩ := v
  dsimp only at *
  go_enter Try.func86, Try.ntmps86
  go_wp2_with (go_at_call 66; (with_reducible refine ((unhide HIX) _ ((unhide HC).below ?pb)).mono ?_); (case pb => exact (by repeat (first | with_reducible exact Below.refl _ _ | with_reducible assumption | (with_reducible refine Below.trans ?_ (Below.mono (by assumption) (by first | omega | (simp <;> omega)))) | with_reducible apply Below.drew | with_reducible apply below_drewN | (with_reducible refine Below.alloc ?_ (by first | omega | (simp <;> omega)) _) | (with_reducible refine Below.setCell ?_ (by first | omega | (simp <;> omega)) _)))); rintro e w1 ⟨rfl, hbw1⟩)
  go_ret
  exact ⟨by simp, (by repeat (first | with_reducible exact Below.refl _ _ | with_reducible assumption | (with_reducible refine Below.trans ?_ (Below.mono (by assumption) (by first | omega | (simp <;> omega)))) | with_reducible apply Below.drew | with_reducible apply below_drewN | (with_reducible refine Below.alloc ?_ (by first | omega | (simp <;> omega)) _) | (with_reducible refine Below.setCell ?_ (by first | omega | (simp <;> omega)) _)))⟩
end Go.Proofs.Ytmkejopkmdcfeaa

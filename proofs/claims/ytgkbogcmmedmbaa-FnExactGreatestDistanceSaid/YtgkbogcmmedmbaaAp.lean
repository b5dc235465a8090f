/-
  The distance of two fractions (chapters 4 and 5).
-/
import Derived.Test.YtgkbogcmmedmbaaOm
import Derived.Test.YtgkbogcmmedmbaaO
namespace Go.Proofs.Ytgkbogcmmedmbaa
open Go.RowKit Rm

theorem grown_on {a w w1 : World} {g : Nat} (h : a.grownBy w (some g)) (hb : Below w.heap.size w w1) : a.grownBy w1 (some g) :=
  ⟨hb.os.trans h.os, hb.tape.trans h.tape, hb.output.trans h.output, Nat.le_trans h.size hb.size, fun i hi hn => (hb.block i (Nat.lt_of_lt_of_le hi h.size)).trans (h.block i hi hn)⟩
/-- The distance of two fractions. -/
def apR (y z : Rat) : Option Rat := if y < z then keep (z - y) else keep (y - z)
def odK (l l' : List Rat) : Nat → Option Rat
  | 0 => some 0
  | k + 1 => (odK l l' k).bind fun c => (apR (l.getD k 0) (l'.getD k 0)).map fun d => if c < d then d else c
theorem apR_fits {y z d : Rat} (h : apR y z = some d) : fits d = true := by
  unfold apR at h
  split at h
  · obtain ⟨rfl, h2⟩ := keep_some h; exact h2
  · obtain ⟨rfl, h2⟩ := keep_some h; exact h2
theorem odK_none {l l' : List Rat} {k : Nat} {c : Rat} (h : odK l l' k = some c) (h2 : apR (l.getD k 0) (l'.getD k 0) = none) : odK l l' (k + 1) = none := by
  simp only [odK, h, h2]; rfl
theorem odK_step {l l' : List Rat} {k : Nat} {c d : Rat} (h : odK l l' k = some c) (h2 : apR (l.getD k 0) (l'.getD k 0) = some d) : odK l l' (k + 1) = some (if c < d then d else c) := by
  simp only [odK, h, h2]; rfl
theorem odK_up {l l' : List Rat} {k : Nat} (h : odK l l' k = none) : ∀ m, k ≤ m → odK l l' m = none
  | 0, hm => by rw [show (0 : Nat) = k by omega]; exact h
  | m + 1, hm => by
    rcases Nat.lt_or_eq_of_le hm with h1 | h1
    · have := odK_up h m (by omega)
      simp only [odK, this]; rfl
    · rw [← h1]; exact h
theorem odK_fits {l l' : List Rat} : ∀ {k : Nat} {c : Rat}, odK l l' k = some c → fits c = true
  | 0, c, h => by
    have h' : (0 : Rat) = c := Option.some.inj h
    rw [← h']; rfl
  | k + 1, c, h => by
    cases h1 : odK l l' k with
    | none => simp [odK, h1] at h
    | some c' =>
      cases h2 : apR (l.getD k 0) (l'.getD k 0) with
      | none => rw [odK_none h1 h2] at h; cases h
      | some d =>
        rw [odK_step h1 h2] at h
        have h' := Option.some.inj h
        rw [← h']
        split
        · exact apR_fits h2
        · exact odK_fits h1

set_option maxRecDepth 100000 in
set_option maxHeartbeats 800000 in
theorem distanceOf_q (y z : Rat) (hy : fits y = true) (hz : fits z = true) (w : World) : Calls Try.prog 36 #[.agg #[.int .i64 (y.num), .int .i64 (y.den)], .agg #[.int .i64 (z.num), .int .i64 (z.den)]] w fun e w' => e = .returned (.tuple #[.agg #[.int .i64 (oN (apR y z)), .int .i64 (oD (apR y z))], .bool (apR y z).isSome]) ∧ Below w.heap.size w w' := by
  have hor := fun W => orderOf_q y z hy hz W
  have hs1 := fun W => iSubtractRats_o (some y) (some z) (isR_some hy) (isR_some hz) W
  have hs2 := fun W => iSubtractRats_o (some z) (some y) (isR_some hz) (isR_some hy) W
  simp only [oN_some, oD_some] at hs1 hs2
  by_cases hc : y < z
  · have e : apR y z = osub (some z) (some y) := by unfold apR; rw [if_pos hc]; rfl
    have hcd : decide (cq y z < 0) = true := decide_eq_true (cq_lt.2 hc)
    rw [e]
    generalize osub (some z) (some y) = res at *
    generalize cq y z = cz at *
    have HO := hide hor; have HS := hide hs2
    clear hor hs1 hs2 hc e
    generalize y.num = yn at *
    generalize (y.den : Int) = yd at *
    generalize z.num = zn at *
    generalize (z.den : Int) = zd at *
    go_enter Try.func36, Try.ntmps36
    go_wp2_with (first
      | ((go_at_call 38; (with_reducible refine ((unhide HO) _).mono ?_); rintro e w1 ⟨rfl, hbw1⟩; obtain ⟨hcw1, hfw1⟩ := bcell hbw1; have hzw1 := hbw1.size; (try simp at hzw1); (try ((have kw1w0 := (bnew hbw1) (w.heap.size) ?pf); (case pf => (first | omega | (simp; done) | (simp; omega))); obtain ⟨kcw1w0, kfw1w0, klw1w0⟩ := kw1w0)); (try ((have kw1w1 := (bnew hbw1) (w.heap.size + 1) ?pf); (case pf => (first | omega | (simp; done) | (simp; omega))); obtain ⟨kcw1w1, kfw1w1, klw1w1⟩ := kw1w1)); (try ((have kw1w2 := (bnew hbw1) (w.heap.size + 1 + 1) ?pf); (case pf => (first | omega | (simp; done) | (simp; omega))); obtain ⟨kcw1w2, kfw1w2, klw1w2⟩ := kw1w2))); have a0 : w1.cell? ⟨w.heap.size, 0, none⟩ = some (.int .i64 yn) := (by rw [kcw1w0]; simp [go_sem]); have a1 : w1.cell? ⟨w.heap.size, 1, none⟩ = some (.int .i64 yd) := (by rw [kcw1w0]; simp [go_sem]); have b0 : w1.cell? ⟨w.heap.size + 1, 0, none⟩ = some (.int .i64 zn) := (by rw [kcw1w1]; simp [go_sem]); have b1 : w1.cell? ⟨w.heap.size + 1, 1, none⟩ = some (.int .i64 zd) := (by rw [kcw1w1]; simp [go_sem]); have r0 : w1.cell? ⟨w.heap.size + 1 + 1, 0, none⟩ = some (.int .i64 0) := (by rw [kcw1w2]; simp [go_sem]); have r1 : w1.cell? ⟨w.heap.size + 1 + 1, 1, none⟩ = some (.int .i64 0) := (by rw [kcw1w2]; simp [go_sem]); have fa : ∀ o, w1.frozen? ⟨w.heap.size, o, none⟩ = false := (fun o => by rw [kfw1w0]; simp [go_sem]); have fb : ∀ o, w1.frozen? ⟨w.heap.size + 1, o, none⟩ = false := (fun o => by rw [kfw1w1]; simp [go_sem]); have fr : ∀ o, w1.frozen? ⟨w.heap.size + 1 + 1, o, none⟩ = false := (fun o => by rw [kfw1w2]; simp [go_sem]); clear kcw1w0 kcw1w1 kcw1w2 kfw1w0 kfw1w1 kfw1w2 hcw1 hfw1)
      | (go_at_call 56; (with_reducible refine ((unhide HS) _).mono ?_); rintro e w2 ⟨rfl, hbw2⟩; obtain ⟨hcw2, hfw2⟩ := bcell hbw2; have hzw2 := hbw2.size; (try simp at hzw2); (try ((have kw2w0 := (bnew hbw2) (w.heap.size) ?pf); (case pf => (first | omega | (simp; done) | (simp; omega))); obtain ⟨kcw2w0, kfw2w0, klw2w0⟩ := kw2w0)); (try ((have kw2w1 := (bnew hbw2) (w.heap.size + 1) ?pf); (case pf => (first | omega | (simp; done) | (simp; omega))); obtain ⟨kcw2w1, kfw2w1, klw2w1⟩ := kw2w1)); (try ((have kw2w2 := (bnew hbw2) (w.heap.size + 1 + 1) ?pf); (case pf => (first | omega | (simp; done) | (simp; omega))); obtain ⟨kcw2w2, kfw2w2, klw2w2⟩ := kw2w2))))
    exact bodyPost_ret (v := .tuple #[.agg #[.int .i64 (oN res), .int .i64 (oD res)], .bool res.isSome]) (by simp [results, Try.results36, go_sem, *]) rfl ⟨rfl, (by repeat (first | with_reducible exact Below.refl _ _ | with_reducible assumption | (with_reducible refine Below.trans ?_ (Below.mono (by assumption) (by first | omega | (simp <;> omega)))) | with_reducible apply Below.drew | with_reducible apply below_drewN | (with_reducible refine Below.alloc ?_ (by first | omega | (simp <;> omega)) _) | (with_reducible refine Below.setCell ?_ (by first | omega | (simp <;> omega)) _)))⟩
  · have e : apR y z = osub (some y) (some z) := by unfold apR; rw [if_neg hc]; rfl
    have hcd : decide (cq y z < 0) = false := decide_eq_false (fun h => hc (cq_lt.1 h))
    rw [e]
    generalize osub (some y) (some z) = res at *
    generalize cq y z = cz at *
    have HO := hide hor; have HS := hide hs1
    clear hor hs1 hs2 hc e
    generalize y.num = yn at *
    generalize (y.den : Int) = yd at *
    generalize z.num = zn at *
    generalize (z.den : Int) = zd at *
    go_enter Try.func36, Try.ntmps36
    go_wp2_with (first | (go_at_call 38; (with_reducible refine ((unhide HO) _).mono ?_); rintro e w1 ⟨rfl, hbw1⟩; obtain ⟨hcw1, hfw1⟩ := bcell hbw1; have hzw1 := hbw1.size; (try simp at hzw1); (try ((have kw1w0 := (bnew hbw1) (w.heap.size) ?pf); (case pf => (first | omega | (simp; done) | (simp; omega))); obtain ⟨kcw1w0, kfw1w0, klw1w0⟩ := kw1w0)); (try ((have kw1w1 := (bnew hbw1) (w.heap.size + 1) ?pf); (case pf => (first | omega | (simp; done) | (simp; omega))); obtain ⟨kcw1w1, kfw1w1, klw1w1⟩ := kw1w1)); (try ((have kw1w2 := (bnew hbw1) (w.heap.size + 1 + 1) ?pf); (case pf => (first | omega | (simp; done) | (simp; omega))); obtain ⟨kcw1w2, kfw1w2, klw1w2⟩ := kw1w2))) | (go_at_call 56; (with_reducible refine ((unhide HS) _).mono ?_); rintro e w2 ⟨rfl, hbw2⟩; obtain ⟨hcw2, hfw2⟩ := bcell hbw2; have hzw2 := hbw2.size; (try simp at hzw2); (try ((have kw2w0 := (bnew hbw2) (w.heap.size) ?pf); (case pf => (first | omega | (simp; done) | (simp; omega))); obtain ⟨kcw2w0, kfw2w0, klw2w0⟩ := kw2w0)); (try ((have kw2w1 := (bnew hbw2) (w.heap.size + 1) ?pf); (case pf => (first | omega | (simp; done) | (simp; omega))); obtain ⟨kcw2w1, kfw2w1, klw2w1⟩ := kw2w1)); (try ((have kw2w2 := (bnew hbw2) (w.heap.size + 1 + 1) ?pf); (case pf => (first | omega | (simp; done) | (simp; omega))); obtain ⟨kcw2w2, kfw2w2, klw2w2⟩ := kw2w2))))
    exact bodyPost_ret (v := .tuple #[.agg #[.int .i64 (oN res), .int .i64 (oD res)], .bool res.isSome]) (by simp [results, Try.results36, go_sem, *]) rfl ⟨rfl, (by repeat (first | with_reducible exact Below.refl _ _ | with_reducible assumption | (with_reducible refine Below.trans ?_ (Below.mono (by assumption) (by first | omega | (simp <;> omega)))) | with_reducible apply Below.drew | with_reducible apply below_drewN | (with_reducible refine Below.alloc ?_ (by first | omega | (simp <;> omega)) _) | (with_reducible refine Below.setCell ?_ (by first | omega | (simp <;> omega)) _)))⟩
end Go.Proofs.Ytgkbogcmmedmbaa

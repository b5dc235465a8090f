/-
  Chapter 5: the greatest distance, over rational numbers; what both sides want of it.
-/
import Derived.Test.YtgkbogcmmedmbaaEl
import Derived.Test.YtgkbogcmmedmbaaAp
namespace Go.Proofs.Ytgkbogcmmedmbaa
open Go.RowKit Rm

def gdO (fs gs : List QP) : Option Rat := if cvB fs gs (bothX fs gs) then odK ((bothX fs gs).map (vf fs)) ((bothX fs gs).map (vf gs)) (bothX fs gs).length else none
def gdP (ps qs : List Pt) : Option Rat := if mapB ps && mapB qs then gdO (dec ps) (dec qs) else none
theorem gdP_no {ps qs : List Pt} (h : mapB ps = false ∨ mapB qs = false) : gdP ps qs = none := by
  unfold gdP
  rw [if_neg]
  rcases h with h | h <;> simp [h]
theorem gdP_yes {fs gs : List QP} (hF : GMap fs) (hG : GMap gs) : gdP (fs.map qp) (gs.map qp) = gdO fs gs := by
  unfold gdP
  rw [hF.mapB, hG.mapB, dec_qp, dec_qp]
  rfl
theorem map_at {f : Rat → Rat} {xs : List Rat} {k : Nat} (h : k < xs.length) : (xs.map f).getD k 0 = f (xs.getD k 0) := by simp [List.getD_eq_getElem?_getD, h]
theorem gd_none {f g : Rat → Rat} {xs : List Rat} {k : Nat} {c : Rat} (hk : k < xs.length) (h : odK (xs.map f) (xs.map g) k = some c) (h2 : apR (f (xs.getD k 0)) (g (xs.getD k 0)) = none) : odK (xs.map f) (xs.map g) xs.length = none :=
  odK_up (odK_none h (by rw [map_at hk, map_at hk]; exact h2)) xs.length (by omega)
theorem gd_step {f g : Rat → Rat} {xs : List Rat} {k : Nat} {c d : Rat} (hk : k < xs.length) (h : odK (xs.map f) (xs.map g) k = some c) (h2 : apR (f (xs.getD k 0)) (g (xs.getD k 0)) = some d) : odK (xs.map f) (xs.map g) (k + 1) = some (if c < d then d else c) :=
  odK_step h (by rw [map_at hk, map_at hk]; exact h2)
/-- The distance, made of the difference. -/
theorem neg_fits (r : Rat) : fits (-r) = fits r := by
  cases h : fits r with
  | true =>
    rw [fits_iff] at h ⊢
    rw [Rat.neg_num, Rat.neg_den]
    omega
  | false =>
    cases h2 : fits (-r) with
    | false => rfl
    | true =>
      rw [fits_iff, Rat.neg_num, Rat.neg_den] at h2
      have : fits r = true := fits_iff.2 (by omega)
      rw [h] at this; cases this
theorem apR_none {y z : Rat} (h : osub (some y) (some z) = none) : apR y z = none := by
  have h' : keep (y - z) = none := h
  unfold apR
  split
  · rw [show z - y = -(y - z) from (Rat.neg_sub y z).symm]
    unfold keep at h' ⊢
    rw [neg_fits]
    cases hf : fits (y - z) with
    | false => rfl
    | true => rw [hf] at h'; cases h'
  · exact h'
theorem apR_some {y z e : Rat} (h : osub (some y) (some z) = some e) : ∃ d, apR y z = some d ∧ d.num = sg e.num e.num ∧ d.den = e.den ∧ fits e = true := by
  have h' : keep (y - z) = some e := h
  obtain ⟨rfl, hf⟩ := keep_some h'
  unfold apR sg
  by_cases hc : y < z
  · rw [if_pos hc]
    have hn : (y - z).num < 0 := by
      have h1 : ¬ 0 ≤ y - z := fun h0 => by
        have := (Rat.le_iff_sub_nonneg z y).2 h0
        exact absurd hc (Rat.not_lt.2 this)
      rw [← Rat.num_nonneg] at h1
      omega
    rw [if_pos hn]
    refine ⟨-(y - z), ?_, Rat.neg_num _, Rat.neg_den _, hf⟩
    rw [show z - y = -(y - z) from (Rat.neg_sub y z).symm]
    exact keep_fits (by rw [neg_fits]; exact hf)
  · rw [if_neg hc]
    have hn : ¬ (y - z).num < 0 := by
      have h1 : 0 ≤ y - z := (Rat.le_iff_sub_nonneg z y).1 (Rat.not_lt.1 hc)
      rw [← Rat.num_nonneg] at h1
      omega
    rw [if_neg hn]
    exact ⟨_, keep_fits hf, rfl, rfl, hf⟩
theorem lit2g (W : World) (a b : Rat) (X : Nat) (hX : X = W.heap.size) : (W.alloc (.cells #[.int .i64 a.num, .int .i64 a.den, .int .i64 b.num, .int .i64 b.den] 31)).ownsRow 0 31 2 (.slice (some ⟨X, 0, none⟩) 2 2) 2 (frcs ([a, b].map qf)) := by
  subst hX
  exact World.ownsRow_lit W #[.int .i64 a.num, .int .i64 a.den, .int .i64 b.num, .int .i64 b.den] 2 (Nat.zero_le _) (by simp [maxLen]) (by simp)
theorem max2g (V : World) (a b r : Rat) (X : Nat) (h : V.ownsRow 0 31 2 (.slice (some ⟨X, 0, none⟩) 2 2) 2 (frcs ([a, b].map qf))) (ha : fits a = true) (hb : fits b = true) (hr : (if a < b then b else a) = r) : Calls Try.prog 37 #[.slice (some ⟨X, 0, none⟩) 2 2, .func (.func 38) #[] #[]] V fun e w' => e = .returned (.agg #[.int .i64 r.num, .int .i64 r.den]) ∧ Below V.heap.size V w' := by
  subst hr
  exact maxFunc_any _ 2 _ a [b] _ h (by simp) (fun y hy => by simp at hy; rcases hy with rfl | rfl <;> assumption)
end Go.Proofs.Ytgkbogcmmedmbaa

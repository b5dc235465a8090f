/-
  Chapter 5: the values of a map whose values are cut.
-/
import Derived.Test.YtgkbogcmmedmbaaGreatDc
namespace Go.Proofs.YtgkbogcmmedmbaaGreat
open Go.RowKit Rm

theorem lit2 (W : World) (a b : Rat) (X : Nat) (hX : X = W.heap.size) : (W.alloc (.cells #[.int .i64 a.num, .int .i64 a.den, .int .i64 b.num, .int .i64 b.den] 46)).ownsRow 0 46 2 (.slice (some ⟨X, 0, none⟩) 2 2) 2 (frcs ([a, b].map qf)) := by
  subst hX
  exact World.ownsRow_lit W #[.int .i64 a.num, .int .i64 a.den, .int .i64 b.num, .int .i64 b.den] 2 (Nat.zero_le _) (by simp [maxLen]) (by simp)
theorem max2_any (V : World) (a b : Rat) (X : Nat) (h : V.ownsRow 0 46 2 (.slice (some ⟨X, 0, none⟩) 2 2) 2 (frcs ([a, b].map qf))) (ha : fits a = true) (hb : fits b = true) : Calls Tryz.prog 89 #[.slice (some ⟨X, 0, none⟩) 2 2, .func (.func 57) #[] #[]] V fun e w' => e = .returned (.agg #[.int .i64 (maxR a [b]).num, .int .i64 (maxR a [b]).den]) ∧ Below V.heap.size V w' :=
  maxFunc_any _ 2 _ a [b] _ h (by simp) (fun y hy => by simp at hy; rcases hy with rfl | rfl <;> assumption)
theorem min2_any (V : World) (a b : Rat) (X : Nat) (h : V.ownsRow 0 46 2 (.slice (some ⟨X, 0, none⟩) 2 2) 2 (frcs ([a, b].map qf))) (ha : fits a = true) (hb : fits b = true) : Calls Tryz.prog 88 #[.slice (some ⟨X, 0, none⟩) 2 2, .func (.func 57) #[] #[]] V fun e w' => e = .returned (.agg #[.int .i64 (minR a [b]).num, .int .i64 (minR a [b]).den]) ∧ Below V.heap.size V w' :=
  minFunc_any _ 2 _ a [b] _ h (by simp) (fun y hy => by simp at hy; rcases hy with rfl | rfl <;> assumption)

set_option maxRecDepth 100000 in
set_option maxHeartbeats 1600000 in
theorem valueCt_any (gf mf cf bf : Nat) (fs : List QP) (lo hi x : Rat) (w : World) (hf : w.ownsRow bf 50 4 (.slice (some ⟨gf, 0, none⟩) (mf + 1) cf) (mf + 1) (ptcs (fs.map qp))) (hF : GMap fs) (hlo : Un lo) (hhi : Un hi) (hx : Un x) :
    Calls Tryz.prog 69 #[.iface 81 (.agg #[.slice (some ⟨gf, 0, none⟩) (mf + 1) cf, .int .i64 lo.num, .int .i64 lo.den, .int .i64 hi.num, .int .i64 hi.den]), .agg #[.int .i64 (x.num), .int .i64 (x.den)]] w fun e w' => e = .returned (.tuple #[.agg #[.int .i64 (oN (vct fs lo hi x)), .int .i64 (oD (vct fs lo hi x))], .bool (vct fs lo hi x).isSome]) ∧ Below w.heap.size w w' := by
  have h1 := fun W hW => valueAt_o gf mf cf bf fs (some x) W hW hF (fun y e => by injection e with e; subst e; exact hx)
  simp only [oN_some, oD_some, Option.bind_some] at h1
  have hun := vAt_un' hF hx
  have HF := hide hf; clear hf hx
  have t0 := not_cut_composition
  have t1 := not_cut_halfSum
  have t9 := is_cut
  generalize x.num = xn at *
  generalize (x.den : Int) = xd at *
  unfold vct
  cases hv : vAt fs x with
  | none =>
    rw [hv] at h1
    have H1 := hide h1
    clear h1 hun hv
    simp only [Option.map_none, oN_none, oD_none, Option.isSome_none]
    go_enter Tryz.func69, Tryz.ntmps69
    go_wp2_with (go_at_call 86; (with_reducible refine ((unhide H1) _ (own_below (unhide HF) ?pb)).mono ?_); (case pb => exact (by repeat (first | with_reducible exact Below.refl _ _ | with_reducible assumption | (with_reducible refine Below.trans ?_ (Below.mono (by assumption) (by first | omega | (simp <;> omega)))) | with_reducible apply Below.drew | with_reducible apply below_drewN | (with_reducible refine Below.alloc ?_ (by first | omega | (simp <;> omega)) _) | (with_reducible refine Below.setCell ?_ (by first | omega | (simp <;> omega)) _)))); rintro e w1 ⟨rfl, hbw1⟩; have hsw1 := hbw1.size; (try simp at hsw1); (skip; (try ((have kw1w0 := (bnew hbw1) (w.heap.size) ?pf); (case pf => (first | omega | (simp; done) | (simp; omega))); obtain ⟨kcw1w0, kfw1w0, klw1w0⟩ := kw1w0)); (try ((have kw1w1 := (bnew hbw1) (w.heap.size + 1) ?pf); (case pf => (first | omega | (simp; done) | (simp; omega))); obtain ⟨kcw1w1, kfw1w1, klw1w1⟩ := kw1w1)); (try ((have kw1w2 := (bnew hbw1) (w.heap.size + 1 + 1) ?pf); (case pf => (first | omega | (simp; done) | (simp; omega))); obtain ⟨kcw1w2, kfw1w2, klw1w2⟩ := kw1w2))))
    exact bodyPost_ret (v := .tuple #[.agg #[.int .i64 (0), .int .i64 (0)], .bool false]) (by simp [results, Tryz.results69, go_sem, *]) rfl ⟨rfl, (by repeat (first | with_reducible exact Below.refl _ _ | with_reducible assumption | (with_reducible refine Below.trans ?_ (Below.mono (by assumption) (by first | omega | (simp <;> omega)))) | with_reducible apply Below.drew | with_reducible apply below_drewN | (with_reducible refine Below.alloc ?_ (by first | omega | (simp <;> omega)) _) | (with_reducible refine Below.setCell ?_ (by first | omega | (simp <;> omega)) _)))⟩
  | some y =>
    rw [hv] at h1
    have hy := hun y hv
    have H1 := hide h1
    have hm : fits (maxR y [lo]) = true := maxR_fits hy.fit (fun z hz => by simp at hz; subst hz; exact hlo.fit)
    have H2 := hide (fun (V : World) (X : Nat) h => max2_any V y lo X h hy.fit hlo.fit)
    have H3 := hide (fun (V : World) (X : Nat) h => min2_any V (maxR y [lo]) hi X h hm hhi.fit)
    clear h1 hun hv hy hm
    simp only [Option.map_some, oN_some, oD_some, Option.isSome_some]
    go_enter Tryz.func69, Tryz.ntmps69
    go_upto_region 16 with (go_at_call 86; (with_reducible refine ((unhide H1) _ (own_below (unhide HF) ?pb)).mono ?_); (case pb => exact (by repeat (first | with_reducible exact Below.refl _ _ | with_reducible assumption | (with_reducible refine Below.trans ?_ (Below.mono (by assumption) (by first | omega | (simp <;> omega)))) | with_reducible apply Below.drew | with_reducible apply below_drewN | (with_reducible refine Below.alloc ?_ (by first | omega | (simp <;> omega)) _) | (with_reducible refine Below.setCell ?_ (by first | omega | (simp <;> omega)) _)))); rintro e w1 ⟨rfl, hbw1⟩; have hsw1 := hbw1.size; (try simp at hsw1); (skip; (try ((have kw1w0 := (bnew hbw1) (w.heap.size) ?pf); (case pf => (first | omega | (simp; done) | (simp; omega))); obtain ⟨kcw1w0, kfw1w0, klw1w0⟩ := kw1w0)); (try ((have kw1w1 := (bnew hbw1) (w.heap.size + 1) ?pf); (case pf => (first | omega | (simp; done) | (simp; omega))); obtain ⟨kcw1w1, kfw1w1, klw1w1⟩ := kw1w1)); (try ((have kw1w2 := (bnew hbw1) (w.heap.size + 1 + 1) ?pf); (case pf => (first | omega | (simp; done) | (simp; omega))); obtain ⟨kcw1w2, kfw1w2, klw1w2⟩ := kw1w2))))
    have hl1 : w.heap.size + 1 + 1 + 1 ≤ w1.heap.size := by simpa using hsw1
    go_region_held3 (fun w' => w'.cell? ⟨w1.heap.size, 0, none⟩ = some (.int .i64 y.num) ∧ w'.cell? ⟨w1.heap.size, 1, none⟩ = some (.int .i64 y.den) ∧ w'.cell? ⟨w.heap.size + 1 + 1, 1, none⟩ = some (.int .i64 lo.num) ∧ w'.cell? ⟨w.heap.size + 1 + 1, 2, none⟩ = some (.int .i64 lo.den) ∧ w'.cell? ⟨w.heap.size + 1 + 1, 3, none⟩ = some (.int .i64 hi.num) ∧ w'.cell? ⟨w.heap.size + 1 + 1, 4, none⟩ = some (.int .i64 hi.den)) (simp [go_sem, World.cell?_alloc_past, *])
      (first
        | (go_at_call 89; (with_reducible refine ((unhide H2) _ _ ?px).mono ?_); (case px => exact lit2 _ _ _ _ (by simp)); rintro e w2 ⟨rfl, hbw2⟩; have hsw2 := hbw2.size; (try simp at hsw2); (skip; (try ((have kw2w1.heap.sizeX0 := (bnew hbw2) (w1.heap.size) ?pf); (case pf => (first | omega | (simp; done) | (simp; omega))); obtain ⟨kcw2w1.heap.sizeX0, kfw2w1.heap.sizeX0, klw2w1.heap.sizeX0⟩ := kw2w1.heap.sizeX0)); (try ((have kw2w0 := (bnew hbw2) (w.heap.size) ?pf); (case pf => (first | omega | (simp; done) | (simp; omega))); obtain ⟨kcw2w0, kfw2w0, klw2w0⟩ := kw2w0)); (try ((have kw2w1 := (bnew hbw2) (w.heap.size + 1) ?pf); (case pf => (first | omega | (simp; done) | (simp; omega))); obtain ⟨kcw2w1, kfw2w1, klw2w1⟩ := kw2w1)); (try ((have kw2w2 := (bnew hbw2) (w.heap.size + 1 + 1) ?pf); (case pf => (first | omega | (simp; done) | (simp; omega))); obtain ⟨kcw2w2, kfw2w2, klw2w2⟩ := kw2w2))))
        | (go_at_call 88; (with_reducible refine ((unhide H3) _ _ ?px).mono ?_); (case px => exact lit2 _ _ _ _ (by simp)); rintro e w3 ⟨rfl, hbw3⟩; have hsw3 := hbw3.size; (try simp at hsw3); (skip; (try ((have kw3w1.heap.sizeX0 := (bnew hbw3) (w1.heap.size) ?pf); (case pf => (first | omega | (simp; done) | (simp; omega))); obtain ⟨kcw3w1.heap.sizeX0, kfw3w1.heap.sizeX0, klw3w1.heap.sizeX0⟩ := kw3w1.heap.sizeX0)); (try ((have kw3w0 := (bnew hbw3) (w.heap.size) ?pf); (case pf => (first | omega | (simp; done) | (simp; omega))); obtain ⟨kcw3w0, kfw3w0, klw3w0⟩ := kw3w0)); (try ((have kw3w1 := (bnew hbw3) (w.heap.size + 1) ?pf); (case pf => (first | omega | (simp; done) | (simp; omega))); obtain ⟨kcw3w1, kfw3w1, klw3w1⟩ := kw3w1)); (try ((have kw3w2 := (bnew hbw3) (w.heap.size + 1 + 1) ?pf); (case pf => (first | omega | (simp; done) | (simp; omega))); obtain ⟨kcw3w2, kfw3w2, klw3w2⟩ := kw3w2)))))
    all_goals
      go_wp2_with fail
      have hc0 := kcw3w1 0
      exact bodyPost_ret (v := .tuple #[.agg #[.int .i64 (minR (maxR y [lo]) [hi]).num, .int .i64 (minR (maxR y [lo]) [hi]).den], .bool true]) (by simp [results, Tryz.results69, go_sem, *]) rfl ⟨rfl, (by repeat (first | with_reducible exact Below.refl _ _ | with_reducible assumption | (with_reducible refine Below.trans ?_ (Below.mono (by assumption) (by first | omega | (simp <;> omega)))) | with_reducible apply Below.drew | with_reducible apply below_drewN | (with_reducible refine Below.alloc ?_ (by first | omega | (simp <;> omega)) _) | (with_reducible refine Below.setCell ?_ (by first | omega | (simp <;> omega)) _)))⟩
end Go.Proofs.YtgkbogcmmedmbaaGreat

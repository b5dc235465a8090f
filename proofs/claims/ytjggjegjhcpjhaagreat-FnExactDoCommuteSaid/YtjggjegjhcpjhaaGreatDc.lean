/-
  Chapter 5: the values of the operations.
-/
import Derived.Test.YtjggjegjhcpjhaaGreatDd
namespace Go.Proofs.YtjggjegjhcpjhaaGreat
open Go.RowKit Rm

theorem uB_zero : uB 0 0 = false := by simp [uB, good_zero]
/-- ValueAt at a fraction from 0 to 1, or at none. -/
theorem valueAt_o (g m c base : Nat) (qs : List QP) (v : Option Rat) (w : World) (ha : w.ownsRow base 63 4 (.slice (some ⟨g, 0, none⟩) (m + 1) c) (m + 1) (ptcs (qs.map qp))) (hg : GMap qs) (hv : ∀ y, v = some y → Un y) :
    Calls Tryz.prog 129 #[.slice (some ⟨g, 0, none⟩) (m + 1) c, .agg #[.int .i64 (oN v), .int .i64 (oD v)]] w fun e w' => e = .returned (.tuple #[.agg #[.int .i64 (oN (v.bind (vAt qs))), .int .i64 (oD (v.bind (vAt qs)))], .bool (v.bind (vAt qs)).isSome]) ∧ Below w.heap.size w w' := by
  have hlen : qs.length = m + 1 := by have := own_len ha; rw [List.length_map] at this; exact this
  have hhi := hg.hi
  have h := iValueAt_any (some ⟨g, 0, none⟩) (m + 1) c base (qs.map qp) (oN v) (oD v) w ha (by omega)
  have e : valO (qs.map qp) (oN v) (oD v) = v.bind (vAt qs) := by
    cases v with
    | none => exact valO_no (.inl uB_zero)
    | some x => exact valO_eq hg (uB_of (hv x rfl))
  rwa [e] at h
theorem vAt_un' {qs : List QP} (hg : GMap qs) {x : Rat} (hx : Un x) : ∀ y, vAt qs x = some y → Un y := fun _ h => vAt_unit hg hx h
/-- Half the sum. -/
def omid (x y : Option Rat) : Option Rat := x.bind fun a => y.bind fun b => keep (Rat.divInt (a.num * b.den + b.num * a.den) (2 * a.den * b.den))
theorem two_den (a b : Rat) : (2 : Int) * a.den * b.den ≠ 0 := by
  have h := den_mul a b
  rw [Int.mul_assoc]
  omega
theorem middle_o (x y : Option Rat) (hx : isR x) (hy : isR y) (w : World) : Calls Tryz.prog 140 #[.agg #[.int .i64 (oN x), .int .i64 (oD x)], .agg #[.int .i64 (oN y), .int .i64 (oD y)]] w fun e w' =>
    e = .returned (.tuple #[.agg #[.int .i64 (oN (omid x y)), .int .i64 (oD (omid x y))], .bool (omid x y).isSome]) ∧ Below w.heap.size w w' := by
  obtain ⟨h1, h2, h3⟩ := two_o' hx hy (n := oN x * oD y + oN y * oD x) (d := 2 * oD x * oD y) (f := fun a b => keep (Rat.divInt (a.num * b.den + b.num * a.den) (2 * a.den * b.den))) fun a b e1 e2 => by subst e1 e2; exact ⟨two_den a b, rfl⟩
  have := iMiddleOf_any (oN x) (oD x) (oN y) (oD y) w
  rw [h1, h2, h3] at this
  exact this
theorem un_isR {v : Option Rat} (h : ∀ y, v = some y → Un y) : isR v := fun y e => (h y e).fit
def vcm (fs gs : List QP) (x : Rat) : Option Rat := (vAt gs x).bind (vAt fs)
def vhs (fs gs : List QP) (x : Rat) : Option Rat := omid (vAt fs x) (vAt gs x)
def vct (fs : List QP) (lo hi : Rat) (x : Rat) : Option Rat := (vAt fs x).map fun y => minR (maxR y [lo]) [hi]

set_option maxRecDepth 100000 in
set_option maxHeartbeats 1600000 in
theorem valueCm_any (gf mf cf bf gg mg cg bg : Nat) (fs gs : List QP) (x : Rat) (w : World) (hf : w.ownsRow bf 63 4 (.slice (some ⟨gf, 0, none⟩) (mf + 1) cf) (mf + 1) (ptcs (fs.map qp))) (hg : w.ownsRow bg 63 4 (.slice (some ⟨gg, 0, none⟩) (mg + 1) cg) (mg + 1) (ptcs (gs.map qp))) (hF : GMap fs) (hG : GMap gs) (hx : Un x) :
    Calls Tryz.prog 123 #[.iface 70 (.agg #[.slice (some ⟨gf, 0, none⟩) (mf + 1) cf, .slice (some ⟨gg, 0, none⟩) (mg + 1) cg]), .agg #[.int .i64 (x.num), .int .i64 (x.den)]] w fun e w' => e = .returned (.tuple #[.agg #[.int .i64 (oN (vcm fs gs x)), .int .i64 (oD (vcm fs gs x))], .bool (vcm fs gs x).isSome]) ∧ Below w.heap.size w w' := by
  have h1 := fun W hW => valueAt_o gg mg cg bg gs (some x) W hW hG (fun y e => by injection e with e; subst e; exact hx)
  have h2 := fun W hW => valueAt_o gf mf cf bf fs (vAt gs x) W hW hF (vAt_un' hG hx)
  simp only [oN_some, oD_some, Option.bind_some] at h1
  change ∀ W hW, Calls _ _ _ _ fun e w' => e = .returned (.tuple #[.agg #[.int .i64 (oN (vcm fs gs x)), .int .i64 (oD (vcm fs gs x))], .bool (vcm fs gs x).isSome]) ∧ _ at h2
  generalize vcm fs gs x = r at *
  generalize oN (vAt gs x) = vn at *
  generalize oD (vAt gs x) = vd at *
  generalize (vAt gs x).isSome = vb at *
  have HF := hide hf; have HG := hide hg; have H1 := hide h1; have H2 := hide h2
  clear h1 h2 hf hg hx
  generalize x.num = xn at *
  generalize (x.den : Int) = xd at *
  have t9 := is_composition
  go_enter Tryz.func123, Tryz.ntmps123
  go_wp2_with (first
    | (go_at_call 129; (with_reducible refine ((unhide H1) _ (own_below (unhide HG) ?pb)).mono ?_); (case pb => exact (by repeat (first | with_reducible exact Below.refl _ _ | with_reducible assumption | (with_reducible refine Below.trans ?_ (Below.mono (by assumption) (by first | omega | (simp <;> omega)))) | with_reducible apply Below.drew | with_reducible apply below_drewN | (with_reducible refine Below.alloc ?_ (by first | omega | (simp <;> omega)) _) | (with_reducible refine Below.setCell ?_ (by first | omega | (simp <;> omega)) _)))); rintro e w1 ⟨rfl, hbw1⟩; have hsw1 := hbw1.size; (try simp at hsw1); (skip; (try ((have kw1w0 := (bnew hbw1) (w.heap.size) ?pf); (case pf => (first | omega | (simp; done) | (simp; omega))); obtain ⟨kcw1w0, kfw1w0, klw1w0⟩ := kw1w0)); (try ((have kw1w1 := (bnew hbw1) (w.heap.size + 1) ?pf); (case pf => (first | omega | (simp; done) | (simp; omega))); obtain ⟨kcw1w1, kfw1w1, klw1w1⟩ := kw1w1)); (try ((have kw1w2 := (bnew hbw1) (w.heap.size + 1 + 1) ?pf); (case pf => (first | omega | (simp; done) | (simp; omega))); obtain ⟨kcw1w2, kfw1w2, klw1w2⟩ := kw1w2))))
    | (go_at_call 129; have _t := hbw1; clear _t; (with_reducible refine ((unhide H2) _ (own_below (unhide HF) ?pb)).mono ?_); (case pb => exact (by repeat (first | with_reducible exact Below.refl _ _ | with_reducible assumption | (with_reducible refine Below.trans ?_ (Below.mono (by assumption) (by first | omega | (simp <;> omega)))) | with_reducible apply Below.drew | with_reducible apply below_drewN | (with_reducible refine Below.alloc ?_ (by first | omega | (simp <;> omega)) _) | (with_reducible refine Below.setCell ?_ (by first | omega | (simp <;> omega)) _)))); rintro e w2 ⟨rfl, hbw2⟩; have hsw2 := hbw2.size; (try simp at hsw2); (skip; (try ((have kw2w0 := (bnew hbw2) (w.heap.size) ?pf); (case pf => (first | omega | (simp; done) | (simp; omega))); obtain ⟨kcw2w0, kfw2w0, klw2w0⟩ := kw2w0)); (try ((have kw2w1 := (bnew hbw2) (w.heap.size + 1) ?pf); (case pf => (first | omega | (simp; done) | (simp; omega))); obtain ⟨kcw2w1, kfw2w1, klw2w1⟩ := kw2w1)); (try ((have kw2w2 := (bnew hbw2) (w.heap.size + 1 + 1) ?pf); (case pf => (first | omega | (simp; done) | (simp; omega))); obtain ⟨kcw2w2, kfw2w2, klw2w2⟩ := kw2w2)); (try ((have kw2w10 := (bnew hbw2) (w1.heap.size) ?pf); (case pf => (first | omega | (simp; done) | (simp; omega))); obtain ⟨kcw2w10, kfw2w10, klw2w10⟩ := kw2w10)))))
  exact bodyPost_ret (v := .tuple #[.agg #[.int .i64 (oN r), .int .i64 (oD r)], .bool r.isSome]) (by simp [results, Tryz.results123, go_sem, *]) rfl ⟨rfl, (by repeat (first | with_reducible exact Below.refl _ _ | with_reducible assumption | (with_reducible refine Below.trans ?_ (Below.mono (by assumption) (by first | omega | (simp <;> omega)))) | with_reducible apply Below.drew | with_reducible apply below_drewN | (with_reducible refine Below.alloc ?_ (by first | omega | (simp <;> omega)) _) | (with_reducible refine Below.setCell ?_ (by first | omega | (simp <;> omega)) _)))⟩

set_option maxRecDepth 100000 in
set_option maxHeartbeats 1600000 in
theorem valueHs_any (gf mf cf bf gg mg cg bg : Nat) (fs gs : List QP) (x : Rat) (w : World) (hf : w.ownsRow bf 63 4 (.slice (some ⟨gf, 0, none⟩) (mf + 1) cf) (mf + 1) (ptcs (fs.map qp))) (hg : w.ownsRow bg 63 4 (.slice (some ⟨gg, 0, none⟩) (mg + 1) cg) (mg + 1) (ptcs (gs.map qp))) (hF : GMap fs) (hG : GMap gs) (hx : Un x) :
    Calls Tryz.prog 123 #[.iface 154 (.agg #[.slice (some ⟨gf, 0, none⟩) (mf + 1) cf, .slice (some ⟨gg, 0, none⟩) (mg + 1) cg]), .agg #[.int .i64 (x.num), .int .i64 (x.den)]] w fun e w' => e = .returned (.tuple #[.agg #[.int .i64 (oN (vhs fs gs x)), .int .i64 (oD (vhs fs gs x))], .bool (vhs fs gs x).isSome]) ∧ Below w.heap.size w w' := by
  have h1 := fun W hW => valueAt_o gf mf cf bf fs (some x) W hW hF (fun y e => by injection e with e; subst e; exact hx)
  have h2 := fun W hW => valueAt_o gg mg cg bg gs (some x) W hW hG (fun y e => by injection e with e; subst e; exact hx)
  have h3 := fun W => middle_o (vAt fs x) (vAt gs x) (un_isR (vAt_un' hF hx)) (un_isR (vAt_un' hG hx)) W
  simp only [oN_some, oD_some, Option.bind_some] at h1 h2
  change ∀ W, Calls _ _ _ _ fun e w' => e = .returned (.tuple #[.agg #[.int .i64 (oN (vhs fs gs x)), .int .i64 (oD (vhs fs gs x))], .bool (vhs fs gs x).isSome]) ∧ _ at h3
  generalize vhs fs gs x = r at *
  generalize oN (vAt fs x) = un at *
  generalize oD (vAt fs x) = ud at *
  generalize (vAt fs x).isSome = ub at *
  generalize oN (vAt gs x) = vn at *
  generalize oD (vAt gs x) = vd at *
  generalize (vAt gs x).isSome = vb at *
  have HF := hide hf; have HG := hide hg; have H1 := hide h1; have H2 := hide h2; have H3 := hide h3
  clear h1 h2 h3 hf hg hx
  generalize x.num = xn at *
  generalize (x.den : Int) = xd at *
  have t0 := not_halfSum_composition
  have t9 := is_halfSum
  go_enter Tryz.func123, Tryz.ntmps123
  go_wp2_with (first
    | (go_at_call 129; (with_reducible refine ((unhide H1) _ (own_below (unhide HF) ?pb)).mono ?_); (case pb => exact (by repeat (first | with_reducible exact Below.refl _ _ | with_reducible assumption | (with_reducible refine Below.trans ?_ (Below.mono (by assumption) (by first | omega | (simp <;> omega)))) | with_reducible apply Below.drew | with_reducible apply below_drewN | (with_reducible refine Below.alloc ?_ (by first | omega | (simp <;> omega)) _) | (with_reducible refine Below.setCell ?_ (by first | omega | (simp <;> omega)) _)))); rintro e w1 ⟨rfl, hbw1⟩; have hsw1 := hbw1.size; (try simp at hsw1); (skip; (try ((have kw1w0 := (bnew hbw1) (w.heap.size) ?pf); (case pf => (first | omega | (simp; done) | (simp; omega))); obtain ⟨kcw1w0, kfw1w0, klw1w0⟩ := kw1w0)); (try ((have kw1w1 := (bnew hbw1) (w.heap.size + 1) ?pf); (case pf => (first | omega | (simp; done) | (simp; omega))); obtain ⟨kcw1w1, kfw1w1, klw1w1⟩ := kw1w1)); (try ((have kw1w2 := (bnew hbw1) (w.heap.size + 1 + 1) ?pf); (case pf => (first | omega | (simp; done) | (simp; omega))); obtain ⟨kcw1w2, kfw1w2, klw1w2⟩ := kw1w2))))
    | (go_at_call 129; have _t := hbw1; clear _t; (with_reducible refine ((unhide H2) _ (own_below (unhide HG) ?pb)).mono ?_); (case pb => exact (by repeat (first | with_reducible exact Below.refl _ _ | with_reducible assumption | (with_reducible refine Below.trans ?_ (Below.mono (by assumption) (by first | omega | (simp <;> omega)))) | with_reducible apply Below.drew | with_reducible apply below_drewN | (with_reducible refine Below.alloc ?_ (by first | omega | (simp <;> omega)) _) | (with_reducible refine Below.setCell ?_ (by first | omega | (simp <;> omega)) _)))); rintro e w2 ⟨rfl, hbw2⟩; have hsw2 := hbw2.size; (try simp at hsw2); (skip; (try ((have kw2w0 := (bnew hbw2) (w.heap.size) ?pf); (case pf => (first | omega | (simp; done) | (simp; omega))); obtain ⟨kcw2w0, kfw2w0, klw2w0⟩ := kw2w0)); (try ((have kw2w1 := (bnew hbw2) (w.heap.size + 1) ?pf); (case pf => (first | omega | (simp; done) | (simp; omega))); obtain ⟨kcw2w1, kfw2w1, klw2w1⟩ := kw2w1)); (try ((have kw2w2 := (bnew hbw2) (w.heap.size + 1 + 1) ?pf); (case pf => (first | omega | (simp; done) | (simp; omega))); obtain ⟨kcw2w2, kfw2w2, klw2w2⟩ := kw2w2)); (try ((have kw2w10 := (bnew hbw2) (w1.heap.size) ?pf); (case pf => (first | omega | (simp; done) | (simp; omega))); obtain ⟨kcw2w10, kfw2w10, klw2w10⟩ := kw2w10))))
    | (go_at_call 140; (with_reducible refine ((unhide H3) _).mono ?_); rintro e w3 ⟨rfl, hbw3⟩; obtain ⟨hcw3, hfw3⟩ := bcell hbw3; have hzw3 := hbw3.size; (try simp at hzw3); (try ((have kw3w0 := (bnew hbw3) (w.heap.size) ?pf); (case pf => (first | omega | (simp; done) | (simp; omega))); obtain ⟨kcw3w0, kfw3w0, klw3w0⟩ := kw3w0)); (try ((have kw3w1 := (bnew hbw3) (w.heap.size + 1) ?pf); (case pf => (first | omega | (simp; done) | (simp; omega))); obtain ⟨kcw3w1, kfw3w1, klw3w1⟩ := kw3w1)); (try ((have kw3w2 := (bnew hbw3) (w.heap.size + 1 + 1) ?pf); (case pf => (first | omega | (simp; done) | (simp; omega))); obtain ⟨kcw3w2, kfw3w2, klw3w2⟩ := kw3w2))))
  exact bodyPost_ret (v := .tuple #[.agg #[.int .i64 (oN r), .int .i64 (oD r)], .bool r.isSome]) (by simp [results, Tryz.results123, go_sem, *]) rfl ⟨rfl, (by repeat (first | with_reducible exact Below.refl _ _ | with_reducible assumption | (with_reducible refine Below.trans ?_ (Below.mono (by assumption) (by first | omega | (simp <;> omega)))) | with_reducible apply Below.drew | with_reducible apply below_drewN | (with_reducible refine Below.alloc ?_ (by first | omega | (simp <;> omega)) _) | (with_reducible refine Below.setCell ?_ (by first | omega | (simp <;> omega)) _)))⟩

set_option maxRecDepth 100000 in
set_option maxHeartbeats 1600000 in
theorem valueRf_any (gf mf cf bf : Nat) (sx : Value) (fs : List QP) (x : Rat) (w : World) (hf : w.ownsRow bf 63 4 (.slice (some ⟨gf, 0, none⟩) (mf + 1) cf) (mf + 1) (ptcs (fs.map qp))) (hF : GMap fs) (hx : Un x) (A : Option Addr) (nx cx : Nat) (hsx : sx = .slice A nx cx) :
    Calls Tryz.prog 123 #[.iface 159 (.agg #[.slice (some ⟨gf, 0, none⟩) (mf + 1) cf, sx]), .agg #[.int .i64 (x.num), .int .i64 (x.den)]] w fun e w' => e = .returned (.tuple #[.agg #[.int .i64 (oN (vAt fs x)), .int .i64 (oD (vAt fs x))], .bool (vAt fs x).isSome]) ∧ Below w.heap.size w w' := by
  subst hsx
  have h1 := fun W hW => valueAt_o gf mf cf bf fs (some x) W hW hF (fun y e => by injection e with e; subst e; exact hx)
  simp only [oN_some, oD_some, Option.bind_some] at h1
  generalize vAt fs x = r at *
  have HF := hide hf; have H1 := hide h1
  clear h1 hf hx
  generalize x.num = xn at *
  generalize (x.den : Int) = xd at *
  have t0 := not_refinement_composition
  have t1 := not_refinement_halfSum
  have t2 := not_refinement_cut
  have t9 := is_refinement
  go_enter Tryz.func123, Tryz.ntmps123
  go_wp2_with (go_at_call 129; (with_reducible refine ((unhide H1) _ (own_below (unhide HF) ?pb)).mono ?_); (case pb => exact (by repeat (first | with_reducible exact Below.refl _ _ | with_reducible assumption | (with_reducible refine Below.trans ?_ (Below.mono (by assumption) (by first | omega | (simp <;> omega)))) | with_reducible apply Below.drew | with_reducible apply below_drewN | (with_reducible refine Below.alloc ?_ (by first | omega | (simp <;> omega)) _) | (with_reducible refine Below.setCell ?_ (by first | omega | (simp <;> omega)) _)))); rintro e w1 ⟨rfl, hbw1⟩; have hsw1 := hbw1.size; (try simp at hsw1); (skip; (try ((have kw1w0 := (bnew hbw1) (w.heap.size) ?pf); (case pf => (first | omega | (simp; done) | (simp; omega))); obtain ⟨kcw1w0, kfw1w0, klw1w0⟩ := kw1w0)); (try ((have kw1w1 := (bnew hbw1) (w.heap.size + 1) ?pf); (case pf => (first | omega | (simp; done) | (simp; omega))); obtain ⟨kcw1w1, kfw1w1, klw1w1⟩ := kw1w1)); (try ((have kw1w2 := (bnew hbw1) (w.heap.size + 1 + 1) ?pf); (case pf => (first | omega | (simp; done) | (simp; omega))); obtain ⟨kcw1w2, kfw1w2, klw1w2⟩ := kw1w2))))
  exact bodyPost_ret (v := .tuple #[.agg #[.int .i64 (oN r), .int .i64 (oD r)], .bool r.isSome]) (by simp [results, Tryz.results123, go_sem, *]) rfl ⟨rfl, (by repeat (first | with_reducible exact Below.refl _ _ | with_reducible assumption | (with_reducible refine Below.trans ?_ (Below.mono (by assumption) (by first | omega | (simp <;> omega)))) | with_reducible apply Below.drew | with_reducible apply below_drewN | (with_reducible refine Below.alloc ?_ (by first | omega | (simp <;> omega)) _) | (with_reducible refine Below.setCell ?_ (by first | omega | (simp <;> omega)) _)))⟩
end Go.Proofs.YtjggjegjhcpjhaaGreat

/-
  Chapter 2: ImageOf of the model.
-/
import Derived.Test.YtmkejopkmdcfeabImi
import Derived.Test.YtmkejopkmdcfeabTw
namespace Go.Proofs.Ytmkejopkmdcfeab
open Go.RowKit Rm

set_option maxRecDepth 100000 in
set_option maxHeartbeats 1600000 in
theorem imImage_no (g n c base : Nat) (qs : List QP) (x y : Rat) (w : World) (ha : w.ownsRow base 70 4 (.slice (some ⟨g, 0, none⟩) n c) n (ptcs (qs.map qp))) (hg : GMap qs) (hxf : fits x = true) (hyf : fits y = true) (hno : vAt qs x = none ∨ vAt qs y = none) :
    Calls Try.prog 45 #[.slice (some ⟨g, 0, none⟩) n c, .agg #[.int .i64 (x.num), .int .i64 (x.den)], .agg #[.int .i64 (y.num), .int .i64 (y.den)]] w fun e w' => e = .returned (imgV none) ∧ Below w.heap.size w w' := by
  rw [imgV_none]
  have hva := fun W hW => imAt_any g n c base qs x W hW hg hxf
  have hvb := fun W hW => imAt_any g n c base qs y W hW hg hyf
  have HA := hide ha; clear ha
  obtain ⟨z1, hz1⟩ : ∃ z, z = (vAt qs x).isSome := ⟨_, rfl⟩
  obtain ⟨z2, hz2⟩ : ∃ z, z = (vAt qs y).isSome := ⟨_, rfl⟩
  have hz : z1 = false ∨ z2 = false := by
    rcases hno with h | h
    · left; rw [hz1, h]; rfl
    · right; rw [hz2, h]; rfl
  rw [← hz1] at hva
  rw [← hz2] at hvb
  clear hz1 hz2 hno
  generalize oN (vAt qs x) = un at *
  generalize oD (vAt qs x) = ud at *
  generalize oN (vAt qs y) = vn at *
  generalize oD (vAt qs y) = vd at *
  generalize x.num = xn at *
  generalize (x.den : Int) = xd at *
  generalize y.num = yn at *
  generalize (y.den : Int) = yd at *
  have HVA := hide hva; have HVB := hide hvb; clear hva hvb
  rcases z1 with _ | _
  · go_enter Try.func45, Try.ntmps45
    go_wp2_with (go_at_call 84; first | (have _t := hbw1; clear _t; (refine ((unhide HVB) _ (own_below (unhide HA) ?pb)).mono ?_); (case pb => exact (by repeat (first | with_reducible exact Below.refl _ _ | with_reducible assumption | (with_reducible refine Below.trans ?_ (Below.mono (by assumption) (by first | omega | (simp <;> omega)))) | with_reducible apply Below.drew | with_reducible apply below_drewN | (with_reducible refine Below.alloc ?_ (by first | omega | (simp <;> omega)) _) | (with_reducible refine Below.setCell ?_ (by first | omega | (simp <;> omega)) _)))); rintro e w2 ⟨rfl, hbw2⟩; (skip; (try ((have kw2w0 := (bnew hbw2) (w.heap.size) ?pf); (case pf => (first | omega | (simp; done) | (simp; omega))); obtain ⟨kcw2w0, kfw2w0, klw2w0⟩ := kw2w0)); (try ((have kw2w1 := (bnew hbw2) (w.heap.size + 1) ?pf); (case pf => (first | omega | (simp; done) | (simp; omega))); obtain ⟨kcw2w1, kfw2w1, klw2w1⟩ := kw2w1)); (try ((have kw2w2 := (bnew hbw2) (w.heap.size + 1 + 1) ?pf); (case pf => (first | omega | (simp; done) | (simp; omega))); obtain ⟨kcw2w2, kfw2w2, klw2w2⟩ := kw2w2)); (try ((have kw2w3 := (bnew hbw2) (w.heap.size + 1 + 1 + 1) ?pf); (case pf => (first | omega | (simp; done) | (simp; omega))); obtain ⟨kcw2w3, kfw2w3, klw2w3⟩ := kw2w3)); (try ((have kw2w10 := (bnew hbw2) (w1.heap.size) ?pf); (case pf => (first | omega | (simp; done) | (simp; omega))); obtain ⟨kcw2w10, kfw2w10, klw2w10⟩ := kw2w10)))) | ((refine ((unhide HVA) _ (own_below (unhide HA) ?pb)).mono ?_); (case pb => exact (by repeat (first | with_reducible exact Below.refl _ _ | with_reducible assumption | (with_reducible refine Below.trans ?_ (Below.mono (by assumption) (by first | omega | (simp <;> omega)))) | with_reducible apply Below.drew | with_reducible apply below_drewN | (with_reducible refine Below.alloc ?_ (by first | omega | (simp <;> omega)) _) | (with_reducible refine Below.setCell ?_ (by first | omega | (simp <;> omega)) _)))); rintro e w1 ⟨rfl, hbw1⟩; (skip; (try ((have kw1w0 := (bnew hbw1) (w.heap.size) ?pf); (case pf => (first | omega | (simp; done) | (simp; omega))); obtain ⟨kcw1w0, kfw1w0, klw1w0⟩ := kw1w0)); (try ((have kw1w1 := (bnew hbw1) (w.heap.size + 1) ?pf); (case pf => (first | omega | (simp; done) | (simp; omega))); obtain ⟨kcw1w1, kfw1w1, klw1w1⟩ := kw1w1)); (try ((have kw1w2 := (bnew hbw1) (w.heap.size + 1 + 1) ?pf); (case pf => (first | omega | (simp; done) | (simp; omega))); obtain ⟨kcw1w2, kfw1w2, klw1w2⟩ := kw1w2)); (try ((have kw1w3 := (bnew hbw1) (w.heap.size + 1 + 1 + 1) ?pf); (case pf => (first | omega | (simp; done) | (simp; omega))); obtain ⟨kcw1w3, kfw1w3, klw1w3⟩ := kw1w3))); have hz1 := hbw1.size; simp at hz1))
    exact bodyPost_ret (v := .tuple #[.agg #[.int .i64 (0), .int .i64 (0)], .agg #[.int .i64 (0), .int .i64 (0)], .bool false]) (by simp [results, Try.results45, go_sem, *]) rfl ⟨rfl, (by repeat (first | with_reducible exact Below.refl _ _ | with_reducible assumption | (with_reducible refine Below.trans ?_ (Below.mono (by assumption) (by first | omega | (simp <;> omega)))) | with_reducible apply Below.drew | with_reducible apply below_drewN | (with_reducible refine Below.alloc ?_ (by first | omega | (simp <;> omega)) _) | (with_reducible refine Below.setCell ?_ (by first | omega | (simp <;> omega)) _)))⟩
  · obtain rfl : z2 = false := by rcases hz with h | h; cases h; exact h
    clear hz
    go_enter Try.func45, Try.ntmps45
    go_wp2_with (go_at_call 84; first | (have _t := hbw1; clear _t; (refine ((unhide HVB) _ (own_below (unhide HA) ?pb)).mono ?_); (case pb => exact (by repeat (first | with_reducible exact Below.refl _ _ | with_reducible assumption | (with_reducible refine Below.trans ?_ (Below.mono (by assumption) (by first | omega | (simp <;> omega)))) | with_reducible apply Below.drew | with_reducible apply below_drewN | (with_reducible refine Below.alloc ?_ (by first | omega | (simp <;> omega)) _) | (with_reducible refine Below.setCell ?_ (by first | omega | (simp <;> omega)) _)))); rintro e w2 ⟨rfl, hbw2⟩; (skip; (try ((have kw2w0 := (bnew hbw2) (w.heap.size) ?pf); (case pf => (first | omega | (simp; done) | (simp; omega))); obtain ⟨kcw2w0, kfw2w0, klw2w0⟩ := kw2w0)); (try ((have kw2w1 := (bnew hbw2) (w.heap.size + 1) ?pf); (case pf => (first | omega | (simp; done) | (simp; omega))); obtain ⟨kcw2w1, kfw2w1, klw2w1⟩ := kw2w1)); (try ((have kw2w2 := (bnew hbw2) (w.heap.size + 1 + 1) ?pf); (case pf => (first | omega | (simp; done) | (simp; omega))); obtain ⟨kcw2w2, kfw2w2, klw2w2⟩ := kw2w2)); (try ((have kw2w3 := (bnew hbw2) (w.heap.size + 1 + 1 + 1) ?pf); (case pf => (first | omega | (simp; done) | (simp; omega))); obtain ⟨kcw2w3, kfw2w3, klw2w3⟩ := kw2w3)); (try ((have kw2w10 := (bnew hbw2) (w1.heap.size) ?pf); (case pf => (first | omega | (simp; done) | (simp; omega))); obtain ⟨kcw2w10, kfw2w10, klw2w10⟩ := kw2w10)))) | ((refine ((unhide HVA) _ (own_below (unhide HA) ?pb)).mono ?_); (case pb => exact (by repeat (first | with_reducible exact Below.refl _ _ | with_reducible assumption | (with_reducible refine Below.trans ?_ (Below.mono (by assumption) (by first | omega | (simp <;> omega)))) | with_reducible apply Below.drew | with_reducible apply below_drewN | (with_reducible refine Below.alloc ?_ (by first | omega | (simp <;> omega)) _) | (with_reducible refine Below.setCell ?_ (by first | omega | (simp <;> omega)) _)))); rintro e w1 ⟨rfl, hbw1⟩; (skip; (try ((have kw1w0 := (bnew hbw1) (w.heap.size) ?pf); (case pf => (first | omega | (simp; done) | (simp; omega))); obtain ⟨kcw1w0, kfw1w0, klw1w0⟩ := kw1w0)); (try ((have kw1w1 := (bnew hbw1) (w.heap.size + 1) ?pf); (case pf => (first | omega | (simp; done) | (simp; omega))); obtain ⟨kcw1w1, kfw1w1, klw1w1⟩ := kw1w1)); (try ((have kw1w2 := (bnew hbw1) (w.heap.size + 1 + 1) ?pf); (case pf => (first | omega | (simp; done) | (simp; omega))); obtain ⟨kcw1w2, kfw1w2, klw1w2⟩ := kw1w2)); (try ((have kw1w3 := (bnew hbw1) (w.heap.size + 1 + 1 + 1) ?pf); (case pf => (first | omega | (simp; done) | (simp; omega))); obtain ⟨kcw1w3, kfw1w3, klw1w3⟩ := kw1w3))); have hz1 := hbw1.size; simp at hz1))
    exact bodyPost_ret (v := .tuple #[.agg #[.int .i64 (0), .int .i64 (0)], .agg #[.int .i64 (0), .int .i64 (0)], .bool false]) (by simp [results, Try.results45, go_sem, *]) rfl ⟨rfl, (by repeat (first | with_reducible exact Below.refl _ _ | with_reducible assumption | (with_reducible refine Below.trans ?_ (Below.mono (by assumption) (by first | omega | (simp <;> omega)))) | with_reducible apply Below.drew | with_reducible apply below_drewN | (with_reducible refine Below.alloc ?_ (by first | omega | (simp <;> omega)) _) | (with_reducible refine Below.setCell ?_ (by first | omega | (simp <;> omega)) _)))⟩

/-- The model's second loop: the cells of the least and of the greatest value, the list's row, the two results' cells. -/
structure Two (a w' : World) (L K s n : Nat) (v : Value) (xs : List Value) (lo hi : Rat) : Prop where
  l0 : w'.cell? ⟨L, 0, none⟩ = some (.int .i64 lo.num)
  l1 : w'.cell? ⟨L, 1, none⟩ = some (.int .i64 lo.den)
  lf : ∀ o, w'.frozen? ⟨L, o, none⟩ = false
  k0 : w'.cell? ⟨K, 0, none⟩ = some (.int .i64 hi.num)
  k1 : w'.cell? ⟨K, 1, none⟩ = some (.int .i64 hi.den)
  kf : ∀ o, w'.frozen? ⟨K, o, none⟩ = false
  row : w'.ownsRow s 26 2 v n xs
  p0 : w'.cell? ⟨a.heap.size + 1 + 1, 0, none⟩ = some (.int .i64 0)
  p1 : w'.cell? ⟨a.heap.size + 1 + 1, 1, none⟩ = some (.int .i64 0)
  pf : ∀ o, w'.frozen? ⟨a.heap.size + 1 + 1, o, none⟩ = false
  t0 : w'.cell? ⟨a.heap.size + 1 + 1 + 1, 0, none⟩ = some (.int .i64 0)
  t1 : w'.cell? ⟨a.heap.size + 1 + 1 + 1, 1, none⟩ = some (.int .i64 0)
  tf : ∀ o, w'.frozen? ⟨a.heap.size + 1 + 1 + 1, o, none⟩ = false
  below : Below a.heap.size a w'
  z1 : a.heap.size + 1 + 1 + 1 < L
  z2 : L < K
  z3 : K < s
  z4 : s ≤ w'.heap.size
section
variable {a w' w'' : World} {L K s n : Nat} {v : Value} {xs : List Value} {lo hi : Rat}
theorem Two.keep (h : Two a w' L K s n v xs lo hi) (hb : Below w'.heap.size w' w'') : Two a w'' L K s n v xs lo hi := by
  obtain ⟨l0, l1, lf, k0, k1, kf, row, p0, p1, pf, t0, t1, tf, be, z1, z2, z3, z4⟩ := h
  exact ⟨(hb.cell (by simp; omega)).trans l0, (hb.cell (by simp; omega)).trans l1, fun o => (hb.frozen (by simp; omega)).trans (lf o), (hb.cell (by simp; omega)).trans k0, (hb.cell (by simp; omega)).trans k1, fun o => (hb.frozen (by simp; omega)).trans (kf o),
    own_below row hb, (hb.cell (by simp; omega)).trans p0, (hb.cell (by simp; omega)).trans p1, fun o => (hb.frozen (by simp; omega)).trans (pf o), (hb.cell (by simp; omega)).trans t0, (hb.cell (by simp; omega)).trans t1, fun o => (hb.frozen (by simp; omega)).trans (tf o),
    be.trans (hb.mono be.size), z1, z2, z3, Nat.le_trans z4 hb.size⟩
theorem frozen_set (w : World) (p q : Addr) (u : Value) : (w.setCell p u).frozen? q = w.frozen? q := by simp
theorem Two.setL (h : Two a w' L K s n v xs lo hi) (y : Rat) : Two a ((w'.setCell ⟨L, 0, none⟩ (.int .i64 y.num)).setCell ⟨L, 1, none⟩ (.int .i64 y.den)) L K s n v xs y hi := by
  obtain ⟨l0, l1, lf, k0, k1, kf, row, p0, p1, pf, t0, t1, tf, be, z1, z2, z3, z4⟩ := h
  have n1 : ¬ K = L := by omega
  have n2 : ¬ a.heap.size + 1 + 1 = L := by omega
  have n3 : ¬ a.heap.size + 1 + 1 + 1 = L := by omega
  refine ⟨by simp [go_sem, *], by simp [go_sem, *], fun o => by simp [go_sem, *], by simp [go_sem, *], by simp [go_sem, *], fun o => by simp [go_sem, *], ?_, by simp [go_sem, *], by simp [go_sem, *], fun o => by simp [go_sem, *], by simp [go_sem, *], by simp [go_sem, *], fun o => by simp [go_sem, *], (by repeat (first | with_reducible exact Below.refl _ _ | with_reducible assumption | (with_reducible refine Below.trans ?_ (Below.mono (by assumption) (by first | omega | (simp <;> omega)))) | with_reducible apply Below.drew | with_reducible apply below_drewN | (with_reducible refine Below.alloc ?_ (by first | omega | (simp <;> omega)) _) | (with_reducible refine Below.setCell ?_ (by first | omega | (simp <;> omega)) _))), z1, z2, z3, by simp [World.setCell]; exact z4⟩
  exact own_kept row (grown_set (grown_set (World.grownBy.refl _ _) 0 _) 1 _) (fun k hk e => by have := (row.lt k hk).1; have e1 : k = L := Option.some.inj e; omega)
theorem Two.setK (h : Two a w' L K s n v xs lo hi) (y : Rat) : Two a ((w'.setCell ⟨K, 0, none⟩ (.int .i64 y.num)).setCell ⟨K, 1, none⟩ (.int .i64 y.den)) L K s n v xs lo y := by
  obtain ⟨l0, l1, lf, k0, k1, kf, row, p0, p1, pf, t0, t1, tf, be, z1, z2, z3, z4⟩ := h
  have n1 : ¬ L = K := by omega
  have n2 : ¬ a.heap.size + 1 + 1 = K := by omega
  have n3 : ¬ a.heap.size + 1 + 1 + 1 = K := by omega
  refine ⟨by simp [go_sem, *], by simp [go_sem, *], fun o => by simp [go_sem, *], by simp [go_sem, *], by simp [go_sem, *], fun o => by simp [go_sem, *], ?_, by simp [go_sem, *], by simp [go_sem, *], fun o => by simp [go_sem, *], by simp [go_sem, *], by simp [go_sem, *], fun o => by simp [go_sem, *], (by repeat (first | with_reducible exact Below.refl _ _ | with_reducible assumption | (with_reducible refine Below.trans ?_ (Below.mono (by assumption) (by first | omega | (simp <;> omega)))) | with_reducible apply Below.drew | with_reducible apply below_drewN | (with_reducible refine Below.alloc ?_ (by first | omega | (simp <;> omega)) _) | (with_reducible refine Below.setCell ?_ (by first | omega | (simp <;> omega)) _))), z1, z2, z3, by simp [World.setCell]; exact z4⟩
  exact own_kept row (grown_set (grown_set (World.grownBy.refl _ _) 0 _) 1 _) (fun k hk e => by have := (row.lt k hk).1; have e1 : k = K := Option.some.inj e; omega)
end

set_option maxRecDepth 100000 in
set_option maxHeartbeats 3200000 in
theorem imImage_yes (g m c base : Nat) (qs : List QP) (x y u v : Rat) (w : World) (ha : w.ownsRow base 70 4 (.slice (some ⟨g, 0, none⟩) (m + 1) c) (m + 1) (ptcs (qs.map qp))) (hg : GMap qs) (hxf : fits x = true) (hyf : fits y = true) (hU : vAt qs x = some u) (hV : vAt qs y = some v) (hlen : qs.length = m + 1) :
    Calls Try.prog 45 #[.slice (some ⟨g, 0, none⟩) (m + 1) c, .agg #[.int .i64 (x.num), .int .i64 (x.den)], .agg #[.int .i64 (y.num), .int .i64 (y.den)]] w fun e w' => e = .returned (imgV (some (minR u (v :: innK qs x y (m + 1)), maxR u (v :: innK qs x y (m + 1))))) ∧ Below w.heap.size w w' := by
  rw [imgV_some]
  have huf : fits u = true := vAt_isR qs x u hU
  have hvf : fits v = true := vAt_isR qs y v hV
  have hva := fun W hW => imAt_any g (m + 1) c base qs x W hW hg hxf
  have hvb := fun W hW => imAt_any g (m + 1) c base qs y W hW hg hyf
  rw [hU] at hva
  rw [hV] at hvb
  simp only [oN_some, oD_some, Option.isSome_some] at hva hvb
  obtain ⟨i0, hi0, hz0, hz1', hz2'⟩ := info_parts iRat
  obtain ⟨g', cap, hv, _, hgl⟩ := ha.form (by omega)
  obtain rfl : g = g' := by injection hv with h1; exact (Addr.mk.inj (Option.some.inj h1)).1
  have hhi := hg.hi
  have hm12 : m + 1 ≤ 12 := by omega
  have hlx := fun k (hk : k < m + 1) W => raCmp_q x (qAt qs k).1 hxf (co_fits (hg.cx k (by omega))) W
  have hly := fun k (hk : k < m + 1) W => raCmp_q (qAt qs k).1 y (co_fits (hg.cx k (by omega))) hyf W
  obtain ⟨xn, hxn⟩ : ∃ r, r = x.num := ⟨_, rfl⟩
  obtain ⟨xd, hxd⟩ : ∃ r, r = (x.den : Int) := ⟨_, rfl⟩
  obtain ⟨yn, hyn⟩ : ∃ r, r = y.num := ⟨_, rfl⟩
  obtain ⟨yd, hyd⟩ : ∃ r, r = (y.den : Int) := ⟨_, rfl⟩
  rw [← hxn, ← hxd] at hva hlx
  rw [← hyn, ← hyd] at hvb hly
  rw [← hxn, ← hxd, ← hyn, ← hyd]
  obtain ⟨un, hun⟩ : ∃ r, r = u.num := ⟨_, rfl⟩
  obtain ⟨ud, hud⟩ : ∃ r, r = (u.den : Int) := ⟨_, rfl⟩
  obtain ⟨vn, hvn⟩ : ∃ r, r = v.num := ⟨_, rfl⟩
  obtain ⟨vd, hvd⟩ : ∃ r, r = (v.den : Int) := ⟨_, rfl⟩
  rw [← hun, ← hud] at hva
  rw [← hvn, ← hvd] at hvb
  have hst : ∀ W : World, (W.alloc (.cells #[.int .i64 vn, .int .i64 vd] 26)).ownsRow W.heap.size 26 2 (.slice (some ⟨W.heap.size, 0, none⟩) 1 1) (1 + (innK qs x y 0).length) (frcs ((v :: innK qs x y 0).map qf)) := by
    intro W
    rw [hvn, hvd]
    exact World.ownsRow_lit W _ 1 (Nat.le_refl _) (by unfold maxLen; omega) rfl
  have HST := hide hst
  have HUN := Lib.hid (And.intro hun hud)
  clear hU hV hv hxn hxd hyn hyd hun hud hvn hvd hst
  have HVA := hide hva; have HVB := hide hvb; have HLX := hide hlx; have HLY := hide hly; clear hva hvb hlx hly
  have HA := hide ha; clear ha
  have HQ := Lib.hid hlen; clear hlen
  go_enter Try.func45, Try.ntmps45
  go_wp2_with (go_at_call 84; first | (have _t := hbw1; clear _t; (refine ((unhide HVB) _ (own_below (unhide HA) ?pb)).mono ?_); (case pb => exact (by repeat (first | with_reducible exact Below.refl _ _ | with_reducible assumption | (with_reducible refine Below.trans ?_ (Below.mono (by assumption) (by first | omega | (simp <;> omega)))) | with_reducible apply Below.drew | with_reducible apply below_drewN | (with_reducible refine Below.alloc ?_ (by first | omega | (simp <;> omega)) _) | (with_reducible refine Below.setCell ?_ (by first | omega | (simp <;> omega)) _)))); rintro e w2 ⟨rfl, hbw2⟩; (skip; (try ((have kw2w0 := (bnew hbw2) (w.heap.size) ?pf); (case pf => (first | omega | (simp; done) | (simp; omega))); obtain ⟨kcw2w0, kfw2w0, klw2w0⟩ := kw2w0)); (try ((have kw2w1 := (bnew hbw2) (w.heap.size + 1) ?pf); (case pf => (first | omega | (simp; done) | (simp; omega))); obtain ⟨kcw2w1, kfw2w1, klw2w1⟩ := kw2w1)); (try ((have kw2w2 := (bnew hbw2) (w.heap.size + 1 + 1) ?pf); (case pf => (first | omega | (simp; done) | (simp; omega))); obtain ⟨kcw2w2, kfw2w2, klw2w2⟩ := kw2w2)); (try ((have kw2w3 := (bnew hbw2) (w.heap.size + 1 + 1 + 1) ?pf); (case pf => (first | omega | (simp; done) | (simp; omega))); obtain ⟨kcw2w3, kfw2w3, klw2w3⟩ := kw2w3)); (try ((have kw2w10 := (bnew hbw2) (w1.heap.size) ?pf); (case pf => (first | omega | (simp; done) | (simp; omega))); obtain ⟨kcw2w10, kfw2w10, klw2w10⟩ := kw2w10)))) | ((refine ((unhide HVA) _ (own_below (unhide HA) ?pb)).mono ?_); (case pb => exact (by repeat (first | with_reducible exact Below.refl _ _ | with_reducible assumption | (with_reducible refine Below.trans ?_ (Below.mono (by assumption) (by first | omega | (simp <;> omega)))) | with_reducible apply Below.drew | with_reducible apply below_drewN | (with_reducible refine Below.alloc ?_ (by first | omega | (simp <;> omega)) _) | (with_reducible refine Below.setCell ?_ (by first | omega | (simp <;> omega)) _)))); rintro e w1 ⟨rfl, hbw1⟩; (skip; (try ((have kw1w0 := (bnew hbw1) (w.heap.size) ?pf); (case pf => (first | omega | (simp; done) | (simp; omega))); obtain ⟨kcw1w0, kfw1w0, klw1w0⟩ := kw1w0)); (try ((have kw1w1 := (bnew hbw1) (w.heap.size + 1) ?pf); (case pf => (first | omega | (simp; done) | (simp; omega))); obtain ⟨kcw1w1, kfw1w1, klw1w1⟩ := kw1w1)); (try ((have kw1w2 := (bnew hbw1) (w.heap.size + 1 + 1) ?pf); (case pf => (first | omega | (simp; done) | (simp; omega))); obtain ⟨kcw1w2, kfw1w2, klw1w2⟩ := kw1w2)); (try ((have kw1w3 := (bnew hbw1) (w.heap.size + 1 + 1 + 1) ?pf); (case pf => (first | omega | (simp; done) | (simp; omega))); obtain ⟨kcw1w3, kfw1w3, klw1w3⟩ := kw1w3))); have hz1 := hbw1.size; simp at hz1))
  have x0 : ((w2.alloc (.cells #[.int .i64 vn, .int .i64 vd] 26)).alloc (.cells #[.int .i64 un, .int .i64 ud] 26)).cell? ⟨w.heap.size, 0, none⟩ = some (.int .i64 xn) := by simp [go_sem, *]
  have x1 : ((w2.alloc (.cells #[.int .i64 vn, .int .i64 vd] 26)).alloc (.cells #[.int .i64 un, .int .i64 ud] 26)).cell? ⟨w.heap.size, 1, none⟩ = some (.int .i64 xd) := by simp [go_sem, *]
  have y0 : ((w2.alloc (.cells #[.int .i64 vn, .int .i64 vd] 26)).alloc (.cells #[.int .i64 un, .int .i64 ud] 26)).cell? ⟨w.heap.size + 1, 0, none⟩ = some (.int .i64 yn) := by simp [go_sem, *]
  have y1 : ((w2.alloc (.cells #[.int .i64 vn, .int .i64 vd] 26)).alloc (.cells #[.int .i64 un, .int .i64 ud] 26)).cell? ⟨w.heap.size + 1, 1, none⟩ = some (.int .i64 yd) := by simp [go_sem, *]
  have p0 : ((w2.alloc (.cells #[.int .i64 vn, .int .i64 vd] 26)).alloc (.cells #[.int .i64 un, .int .i64 ud] 26)).cell? ⟨w.heap.size + 1 + 1, 0, none⟩ = some (.int .i64 0) := by simp [go_sem, *]
  have p1 : ((w2.alloc (.cells #[.int .i64 vn, .int .i64 vd] 26)).alloc (.cells #[.int .i64 un, .int .i64 ud] 26)).cell? ⟨w.heap.size + 1 + 1, 1, none⟩ = some (.int .i64 0) := by simp [go_sem, *]
  have pf : ∀ o, ((w2.alloc (.cells #[.int .i64 vn, .int .i64 vd] 26)).alloc (.cells #[.int .i64 un, .int .i64 ud] 26)).frozen? ⟨w.heap.size + 1 + 1, o, none⟩ = false := fun o => by simp [go_sem, *]
  have t0 : ((w2.alloc (.cells #[.int .i64 vn, .int .i64 vd] 26)).alloc (.cells #[.int .i64 un, .int .i64 ud] 26)).cell? ⟨w.heap.size + 1 + 1 + 1, 0, none⟩ = some (.int .i64 0) := by simp [go_sem, *]
  have t1 : ((w2.alloc (.cells #[.int .i64 vn, .int .i64 vd] 26)).alloc (.cells #[.int .i64 un, .int .i64 ud] 26)).cell? ⟨w.heap.size + 1 + 1 + 1, 1, none⟩ = some (.int .i64 0) := by simp [go_sem, *]
  have tf : ∀ o, ((w2.alloc (.cells #[.int .i64 vn, .int .i64 vd] 26)).alloc (.cells #[.int .i64 un, .int .i64 ud] 26)).frozen? ⟨w.heap.size + 1 + 1 + 1, o, none⟩ = false := fun o => by simp [go_sem, *]
  have l0 : ((w2.alloc (.cells #[.int .i64 vn, .int .i64 vd] 26)).alloc (.cells #[.int .i64 un, .int .i64 ud] 26)).cell? ⟨w1.heap.size, 0, none⟩ = some (.int .i64 un) := by simp [go_sem, *]
  have l1 : ((w2.alloc (.cells #[.int .i64 vn, .int .i64 vd] 26)).alloc (.cells #[.int .i64 un, .int .i64 ud] 26)).cell? ⟨w1.heap.size, 1, none⟩ = some (.int .i64 ud) := by simp [go_sem, *]
  have lf : ∀ o, ((w2.alloc (.cells #[.int .i64 vn, .int .i64 vd] 26)).alloc (.cells #[.int .i64 un, .int .i64 ud] 26)).frozen? ⟨w1.heap.size, o, none⟩ = false := fun o => by simp [go_sem, *]
  have h0 : ((w2.alloc (.cells #[.int .i64 vn, .int .i64 vd] 26)).alloc (.cells #[.int .i64 un, .int .i64 ud] 26)).cell? ⟨w2.heap.size + 1, 0, none⟩ = some (.int .i64 un) := by simp [go_sem, *]
  have h1 : ((w2.alloc (.cells #[.int .i64 vn, .int .i64 vd] 26)).alloc (.cells #[.int .i64 un, .int .i64 ud] 26)).cell? ⟨w2.heap.size + 1, 1, none⟩ = some (.int .i64 ud) := by simp [go_sem, *]
  have hf : ∀ o, ((w2.alloc (.cells #[.int .i64 vn, .int .i64 vd] 26)).alloc (.cells #[.int .i64 un, .int .i64 ud] 26)).frozen? ⟨w2.heap.size + 1, o, none⟩ = false := fun o => by simp [go_sem, *]
  have hsz3 : ((w2.alloc (.cells #[.int .i64 vn, .int .i64 vd] 26)).alloc (.cells #[.int .i64 un, .int .i64 ud] 26)).heap.size = w2.heap.size + 1 + 1 := by simp
  have hbA : Below w.heap.size w ((w2.alloc (.cells #[.int .i64 vn, .int .i64 vd] 26)).alloc (.cells #[.int .i64 un, .int .i64 ud] 26)) := (by repeat (first | with_reducible exact Below.refl _ _ | with_reducible assumption | (with_reducible refine Below.trans ?_ (Below.mono (by assumption) (by first | omega | (simp <;> omega)))) | with_reducible apply Below.drew | with_reducible apply below_drewN | (with_reducible refine Below.alloc ?_ (by first | omega | (simp <;> omega)) _) | (with_reducible refine Below.setCell ?_ (by first | omega | (simp <;> omega)) _)))
  have hL2 : w1.heap.size < w2.heap.size := klw2w10
  have hz13 : w.heap.size + 1 + 1 + 1 < w1.heap.size := klw1w3
  rw [← hsz3]
  generalize ((w2.alloc (.cells #[.int .i64 vn, .int .i64 vd] 26)).alloc (.cells #[.int .i64 un, .int .i64 ud] 26)) = w3 at *
  obtain ⟨L, hL⟩ : ∃ L, L = w1.heap.size := ⟨_, rfl⟩
  obtain ⟨K, hK⟩ : ∃ K, K = w2.heap.size + 1 := ⟨_, rfl⟩
  rw [← hL] at l0 l1 hL2 hz13 ⊢
  rw [← hK] at h0 h1 ⊢
  have lf' : ∀ o, w3.frozen? ⟨L, o, none⟩ = false := fun o => by rw [hL]; exact lf o
  have hf' : ∀ o, w3.frozen? ⟨K, o, none⟩ = false := fun o => by rw [hK]; exact hf o
  have hLK : L < K := by omega
  have hK3 : K < w3.heap.size := by omega
  have hL3 : L < w3.heap.size := by omega
  have hz3 : w.heap.size + 1 + 1 + 1 < w3.heap.size := by omega
  have hgz : g < w3.heap.size := by omega
  have HA3 := hide (own_below (unhide HA) hbA)
  have HBA := hide hbA
  clear hbA hsz3 hL2 lf hf hbw1 hbw2 hz1 HVA HVB HA hL hK
  clear kcw1w0 kfw1w0 klw1w0 kcw1w1 kfw1w1 klw1w1 kcw1w2 kfw1w2 klw1w2 kcw1w3 kfw1w3 klw1w3 kcw2w0 kfw2w0 klw2w0 kcw2w1 kfw2w1 klw2w1 kcw2w2 kfw2w2 klw2w2 kcw2w3 kfw2w3 klw2w3 kcw2w10 kfw2w10 klw2w10
  go_loopw [14, 44] (fun vv i wr => ∃ (k : Nat) (u' : Value), i = .int .i64 k ∧ u' = vv ∧ k ≤ m + 1 ∧ wr.ownsRow w3.heap.size 26 2 u' (1 + (innK qs x y k).length) (frcs ((v :: innK qs x y k).map qf)) ∧ Below w3.heap.size w3 wr) (fun _ i _ => m + 1 - (intOf i).toNat)
  case atStart => exact ⟨0, _, rfl, rfl, by omega, (unhide HST) w3, (by repeat (first | with_reducible exact Below.refl _ _ | with_reducible assumption | (with_reducible refine Below.trans ?_ (Below.mono (by assumption) (by first | omega | (simp <;> omega)))) | with_reducible apply Below.drew | with_reducible apply below_drewN | (with_reducible refine Below.alloc ?_ (by first | omega | (simp <;> omega)) _) | (with_reducible refine Below.setCell ?_ (by first | omega | (simp <;> omega)) _)))⟩
  case round =>
    obtain ⟨k, u', rfl, rfl, hk, hown, hbwr⟩ := hrel
    clear HST
    (skip; (try ((have kwrgX0 := (bnew hbwr) (g) ?pf); (case pf => (first | omega | (simp; done) | (simp; omega))); obtain ⟨kcwrgX0, kfwrgX0, klwrgX0⟩ := kwrgX0)); (try ((have kwrw0 := (bnew hbwr) (w.heap.size) ?pf); (case pf => (first | omega | (simp; done) | (simp; omega))); obtain ⟨kcwrw0, kfwrw0, klwrw0⟩ := kwrw0)); (try ((have kwrw1 := (bnew hbwr) (w.heap.size + 1) ?pf); (case pf => (first | omega | (simp; done) | (simp; omega))); obtain ⟨kcwrw1, kfwrw1, klwrw1⟩ := kwrw1)); (try ((have kwrw2 := (bnew hbwr) (w.heap.size + 1 + 1) ?pf); (case pf => (first | omega | (simp; done) | (simp; omega))); obtain ⟨kcwrw2, kfwrw2, klwrw2⟩ := kwrw2)); (try ((have kwrw3 := (bnew hbwr) (w.heap.size + 1 + 1 + 1) ?pf); (case pf => (first | omega | (simp; done) | (simp; omega))); obtain ⟨kcwrw3, kfwrw3, klwrw3⟩ := kwrw3)); (try ((have kwrLX0 := (bnew hbwr) (L) ?pf); (case pf => (first | omega | (simp; done) | (simp; omega))); obtain ⟨kcwrLX0, kfwrLX0, klwrLX0⟩ := kwrLX0)); (try ((have kwrKX0 := (bnew hbwr) (K) ?pf); (case pf => (first | omega | (simp; done) | (simp; omega))); obtain ⟨kcwrKX0, kfwrKX0, klwrKX0⟩ := kwrKX0)))
    have hzwr := hbwr.size
    have x0' := (kcwrw0 0).trans x0
    have x1' := (kcwrw0 1).trans x1
    have y0' := (kcwrw1 0).trans y0
    have y1' := (kcwrw1 1).trans y1
    have p0' := (kcwrw2 0).trans p0
    have p1' := (kcwrw2 1).trans p1
    have pf' := fun o => (kfwrw2 o).trans (pf o)
    have t0' := (kcwrw3 0).trans t0
    have t1' := (kcwrw3 1).trans t1
    have tf' := fun o => (kfwrw3 o).trans (tf o)
    have l0' := (kcwrLX0 0).trans l0
    have l1' := (kcwrLX0 1).trans l1
    have lf'' := fun o => (kfwrLX0 o).trans (lf' o)
    have h0' := (kcwrKX0 0).trans h0
    have h1' := (kcwrKX0 1).trans h1
    have hf'' := fun o => (kfwrKX0 o).trans (hf' o)
    have hsl := innK_len qs x y k
    have hsl2 : 1 + (innK qs x y k).length ≤ 13 := by omega
    clear kcwrw0 kfwrw0 kcwrw1 kfwrw1 kcwrw2 kfwrw2 kcwrw3 kfwrw3 kcwrgX0 kfwrgX0 kcwrLX0 kfwrLX0 kcwrKX0 kfwrKX0 x0 x1 y0 y1 p0 p1 pf t0 t1 tf l0 l1 lf' h0 h1 hf'
    by_cases hlt : k < m + 1
    · obtain ⟨k0, k1, k2, k3⟩ := q_cells (own_below (unhide HA3) hbwr) (k := k) hlt
      have hvB : ∀ j, u'.ownBlock = some j → w3.heap.size ≤ j := fun j e => (hown.lt j e).1
      have hl1 := (unhide HLX) k hlt
      have hl2 := (unhide HLY) k hlt
      have HOW := hide hown
      have HV := hide hvB
      have HB := hide hbwr
      clear hown hvB hbwr p0' p1' pf' t0' t1' tf' l0' l1' lf'' h0' h1' hf''
      by_cases hc1 : x < (qAt qs k).1
      · have hz1 : decide (cq x (qAt qs k).1 < 0) = true := decide_eq_true (cq_lt.2 hc1)
        by_cases hc2 : (qAt qs k).1 < y
        · have hz2 : decide (cq (qAt qs k).1 y < 0) = true := decide_eq_true (cq_lt.2 hc2)
          have hin : innK qs x y (k + 1) = innK qs x y k ++ [(qAt qs k).2] := by simp only [innK, if_pos (And.intro hc1 hc2)]
          have hn1 : 1 + (innK qs x y (k + 1)).length = 1 + (innK qs x y k).length + 1 := by rw [hin]; simp; omega
          have hn2 : frcs ((v :: innK qs x y (k + 1)).map qf) = frcs ((v :: innK qs x y k).map qf) ++ [.int .i64 (qAt qs k).2.num, .int .i64 (qAt qs k).2.den] := by
            rw [hin, ← List.cons_append, frcs2_snoc]
          have HL1 := Lib.hid hn1; have HN := Lib.hid hn2
          clear hn1 hn2 hin hc1 hc2
          generalize cq x (qAt qs k).1 = za at *
          generalize cq (qAt qs k).1 y = zb at *
          generalize (qAt qs k).1.num = f1 at *
          generalize ((qAt qs k).1.den : Int) = f2 at *
          generalize (qAt qs k).2.num = f3 at *
          generalize ((qAt qs k).2.den : Int) = f4 at *
          have H1 := hide hl1; have H2 := hide hl2; clear hl1 hl2
          go_wp2_with (first | (go_at_call 74; (with_reducible refine ((unhide H1) _).mono ?_); rintro e w4 ⟨rfl, hbw4⟩; obtain ⟨hcw4, hfw4⟩ := bcell hbw4; have hzw4 := hbw4.size; (try simp at hzw4); (try ((have kw4w0 := (bnew hbw4) (w.heap.size) ?pf); (case pf => (first | omega | (simp; done) | (simp; omega))); obtain ⟨kcw4w0, kfw4w0, klw4w0⟩ := kw4w0)); (try ((have kw4w1 := (bnew hbw4) (w.heap.size + 1) ?pf); (case pf => (first | omega | (simp; done) | (simp; omega))); obtain ⟨kcw4w1, kfw4w1, klw4w1⟩ := kw4w1)); (try ((have kw4wr0 := (bnew hbw4) (wr.heap.size) ?pf); (case pf => (first | omega | (simp; done) | (simp; omega))); obtain ⟨kcw4wr0, kfw4wr0, klw4wr0⟩ := kw4wr0))) | (go_at_call 74; have _t := hbw4; clear _t; (with_reducible refine ((unhide H2) _).mono ?_); rintro e w5 ⟨rfl, hbw5⟩; obtain ⟨hcw5, hfw5⟩ := bcell hbw5; have hzw5 := hbw5.size; (try simp at hzw5); (try ((have kw5w0 := (bnew hbw5) (w.heap.size) ?pf); (case pf => (first | omega | (simp; done) | (simp; omega))); obtain ⟨kcw5w0, kfw5w0, klw5w0⟩ := kw5w0)); (try ((have kw5w1 := (bnew hbw5) (w.heap.size + 1) ?pf); (case pf => (first | omega | (simp; done) | (simp; omega))); obtain ⟨kcw5w1, kfw5w1, klw5w1⟩ := kw5w1)); (try ((have kw5wr0 := (bnew hbw5) (wr.heap.size) ?pf); (case pf => (first | omega | (simp; done) | (simp; omega))); obtain ⟨kcw5wr0, kfw5wr0, klw5wr0⟩ := kw5wr0))) | (at_builtin; refine wpList_append_lies _ rfl _ _ _ rfl w3.heap.size 26 i0 _ 2 16 Try.underlying51 hi0 hz0 hz1' hz2' rfl (by omega) u' _ _ rfl (World.ownsRow.alloc (own_below (unhide HOW) ?pb) _) ⟨w5.heap.size, 0, none⟩ 1 1 [.int .i64 f3, .int .i64 f4] rfl rfl (World.news_of_block (cs := #[.int .i64 f3, .int .i64 f4]) (t := 26) (fr := (0, 0)) (heap_alloc_new w5 _)) (by simp [Value.oneCell']) (by omega) (by unfold maxLen; omega) (by omega) ?pc (w5.heap.size + 1) (by simp) ?_; (case pb => exact (by repeat (first | with_reducible exact Below.refl _ _ | with_reducible assumption | (with_reducible refine Below.trans ?_ (Below.mono (by assumption) (by first | omega | (simp <;> omega)))) | with_reducible apply Below.drew | with_reducible apply below_drewN | (with_reducible refine Below.alloc ?_ (by first | omega | (simp <;> omega)) _) | (with_reducible refine Below.setCell ?_ (by first | omega | (simp <;> omega)) _)))); (case pc => (simp; omega)); intro gg cap w6 hown6 hgrow hat hlt6))
          have hb := unhide HB
          rw [← HN.out, ← HL1.out] at hown6
          have hby : Below wr.heap.size wr (w5.alloc (.cells #[.int .i64 f3, .int .i64 f4] 26)) := (by repeat (first | with_reducible exact Below.refl _ _ | with_reducible assumption | (with_reducible refine Below.trans ?_ (Below.mono (by assumption) (by first | omega | (simp <;> omega)))) | with_reducible apply Below.drew | with_reducible apply below_drewN | (with_reducible refine Below.alloc ?_ (by first | omega | (simp <;> omega)) _) | (with_reducible refine Below.setCell ?_ (by first | omega | (simp <;> omega)) _)))
          have hbz : Below w3.heap.size w3 w6 := (hb.trans (hby.mono hb.size)).grown hgrow (by have := hby.size; omega) (unhide HV)
          have hn1 := HL1.out
          have HO6 := hide hown6
          have HBZ := hide hbz
          clear hown6 hby hgrow hb hbz
          go_wp2_with fail
          go_roundw
          case rel => exact ⟨k + 1, _, by go_num, by rw [hn1], by omega, unhide HO6, unhide HBZ⟩
          case measure => simp [intOf]; omega
        · have hz2 : decide (cq (qAt qs k).1 y < 0) = false := decide_eq_false (fun h => hc2 (cq_lt.1 h))
          have hin : innK qs x y (k + 1) = innK qs x y k := by simp only [innK]; rw [if_neg (fun h => hc2 h.2)]; simp
          have HIN := Lib.hid hin
          clear hin hc1 hc2
          generalize (qAt qs k).1.num = f1 at *
          generalize ((qAt qs k).1.den : Int) = f2 at *
          generalize (qAt qs k).2.num = f3 at *
          generalize ((qAt qs k).2.den : Int) = f4 at *
          generalize cq x (qAt qs k).1 = za at *
          generalize cq (qAt qs k).1 y = zb at *
          have H1 := hide hl1; have H2 := hide hl2; clear hl1 hl2
          go_wp2_with (first | (go_at_call 74; (with_reducible refine ((unhide H1) _).mono ?_); rintro e w4 ⟨rfl, hbw4⟩; obtain ⟨hcw4, hfw4⟩ := bcell hbw4; have hzw4 := hbw4.size; (try simp at hzw4); (try ((have kw4w0 := (bnew hbw4) (w.heap.size) ?pf); (case pf => (first | omega | (simp; done) | (simp; omega))); obtain ⟨kcw4w0, kfw4w0, klw4w0⟩ := kw4w0)); (try ((have kw4w1 := (bnew hbw4) (w.heap.size + 1) ?pf); (case pf => (first | omega | (simp; done) | (simp; omega))); obtain ⟨kcw4w1, kfw4w1, klw4w1⟩ := kw4w1)); (try ((have kw4wr0 := (bnew hbw4) (wr.heap.size) ?pf); (case pf => (first | omega | (simp; done) | (simp; omega))); obtain ⟨kcw4wr0, kfw4wr0, klw4wr0⟩ := kw4wr0))) | (go_at_call 74; have _t := hbw4; clear _t; (with_reducible refine ((unhide H2) _).mono ?_); rintro e w5 ⟨rfl, hbw5⟩; obtain ⟨hcw5, hfw5⟩ := bcell hbw5; have hzw5 := hbw5.size; (try simp at hzw5); (try ((have kw5w0 := (bnew hbw5) (w.heap.size) ?pf); (case pf => (first | omega | (simp; done) | (simp; omega))); obtain ⟨kcw5w0, kfw5w0, klw5w0⟩ := kw5w0)); (try ((have kw5w1 := (bnew hbw5) (w.heap.size + 1) ?pf); (case pf => (first | omega | (simp; done) | (simp; omega))); obtain ⟨kcw5w1, kfw5w1, klw5w1⟩ := kw5w1)); (try ((have kw5wr0 := (bnew hbw5) (wr.heap.size) ?pf); (case pf => (first | omega | (simp; done) | (simp; omega))); obtain ⟨kcw5wr0, kfw5wr0, klw5wr0⟩ := kw5wr0))))
          have hb := unhide HB
          have hby : Below wr.heap.size wr w5 := (by repeat (first | with_reducible exact Below.refl _ _ | with_reducible assumption | (with_reducible refine Below.trans ?_ (Below.mono (by assumption) (by first | omega | (simp <;> omega)))) | with_reducible apply Below.drew | with_reducible apply below_drewN | (with_reducible refine Below.alloc ?_ (by first | omega | (simp <;> omega)) _) | (with_reducible refine Below.setCell ?_ (by first | omega | (simp <;> omega)) _)))
          have hbz : Below w3.heap.size w3 w5 := hb.trans (hby.mono hb.size)
          have HO6 := hide (own_below (unhide HOW) hby)
          rw [← HIN.out] at HO6
          have HBZ := hide hbz
          clear hby hb hbz
          go_wp2_with fail
          go_roundw
          case rel => exact ⟨k + 1, _, by go_num, rfl, by omega, unhide HO6, unhide HBZ⟩
          case measure => simp [intOf]; omega
      · have hz1 : decide (cq x (qAt qs k).1 < 0) = false := decide_eq_false (fun h => hc1 (cq_lt.1 h))
        have hin : innK qs x y (k + 1) = innK qs x y k := by simp only [innK]; rw [if_neg (fun h => hc1 h.1)]; simp
        have HIN := Lib.hid hin
        clear hin hc1
        generalize (qAt qs k).1.num = f1 at *
        generalize ((qAt qs k).1.den : Int) = f2 at *
        generalize (qAt qs k).2.num = f3 at *
        generalize ((qAt qs k).2.den : Int) = f4 at *
        generalize cq x (qAt qs k).1 = za at *
        have H1 := hide hl1; clear hl1 hl2
        go_wp2_with (first | (go_at_call 74; (with_reducible refine ((unhide H1) _).mono ?_); rintro e w4 ⟨rfl, hbw4⟩; obtain ⟨hcw4, hfw4⟩ := bcell hbw4; have hzw4 := hbw4.size; (try simp at hzw4); (try ((have kw4w0 := (bnew hbw4) (w.heap.size) ?pf); (case pf => (first | omega | (simp; done) | (simp; omega))); obtain ⟨kcw4w0, kfw4w0, klw4w0⟩ := kw4w0)); (try ((have kw4w1 := (bnew hbw4) (w.heap.size + 1) ?pf); (case pf => (first | omega | (simp; done) | (simp; omega))); obtain ⟨kcw4w1, kfw4w1, klw4w1⟩ := kw4w1)); (try ((have kw4wr0 := (bnew hbw4) (wr.heap.size) ?pf); (case pf => (first | omega | (simp; done) | (simp; omega))); obtain ⟨kcw4wr0, kfw4wr0, klw4wr0⟩ := kw4wr0))))
        have hb := unhide HB
        have hby : Below wr.heap.size wr w4 := (by repeat (first | with_reducible exact Below.refl _ _ | with_reducible assumption | (with_reducible refine Below.trans ?_ (Below.mono (by assumption) (by first | omega | (simp <;> omega)))) | with_reducible apply Below.drew | with_reducible apply below_drewN | (with_reducible refine Below.alloc ?_ (by first | omega | (simp <;> omega)) _) | (with_reducible refine Below.setCell ?_ (by first | omega | (simp <;> omega)) _)))
        have hbz : Below w3.heap.size w3 w4 := hb.trans (hby.mono hb.size)
        have HO6 := hide (own_below (unhide HOW) hby)
        rw [← HIN.out] at HO6
        have HBZ := hide hbz
        clear hby hb hbz
        go_wp2_with fail
        go_roundw
        case rel => exact ⟨k + 1, _, by go_num, rfl, by omega, unhide HO6, unhide HBZ⟩
        case measure => simp [intOf]; omega
    · have hkm : k = m + 1 := by omega
      rw [hkm] at hown hsl hsl2
      clear hkm
      have hN : 1 + (innK qs x y (m + 1)).length = (v :: innK qs x y (m + 1)).length := by simp; omega
      have hf : ∀ z ∈ v :: innK qs x y (m + 1), fits z = true := by
        intro z hz
        rw [List.mem_cons] at hz
        rcases hz with rfl | hz
        · exact hvf
        · exact innK_fits hg x y (m + 1) (by rw [HQ.out]; omega) z hz
      obtain ⟨l, hl⟩ : ∃ l, l = v :: innK qs x y (m + 1) := ⟨_, rfl⟩
      rw [← hl] at hown hN hf
      have HLL := Lib.hid hl
      clear hl
      obtain ⟨N, hN'⟩ : ∃ N, N = 1 + (innK qs x y (m + 1)).length := ⟨_, rfl⟩
      rw [← hN'] at hown hN hsl2
      clear hN'
      obtain ⟨B, d, rfl⟩ := own_slice hown
      have hN12 : N ≤ 13 := by omega
      have HNN := Lib.hid hN
      clear hN
      rw [HUN.out.1] at l0' h0'
      rw [HUN.out.2] at l1' h1'
      have hT : Two w wr L K w3.heap.size N (.slice B N d) (frcs (l.map qf)) u u := ⟨l0', l1', lf'', h0', h1', hf'', hown, p0', p1', pf', t0', t1', tf', (unhide HBA).trans (hbwr.mono (unhide HBA).size), hz13, hLK, hK3, hbwr.size⟩
      have HT := hide hT
      clear hT hown l0' l1' lf'' h0' h1' hf'' p0' p1' pf' t0' t1' tf' x0' x1' y0' y1' hbwr HLX HLY
      go_wp2_with fail
      go_loopw [68] (fun i wr => ∃ k : Nat, i = .int .i64 k ∧ k ≤ N ∧ Two w wr L K w3.heap.size N (.slice B N d) (frcs (l.map qf)) (minR u (l.take k)) (maxR u (l.take k))) (fun i _ => N - (intOf i).toNat)
      case atStart => exact ⟨0, rfl, by omega, unhide HT⟩
      case round =>
        obtain ⟨k, rfl, hk, hT⟩ := hrel
        clear HT
        obtain ⟨c0, c1, cf, d0, d1, df, row, q0, q1, qqf, r0, r1, rrf, hbz, z1, z2, z3, z4⟩ := hT
        have hT : Two w wr L K w3.heap.size N (.slice B N d) (frcs (l.map qf)) (minR u (l.take k)) (maxR u (l.take k)) := ⟨c0, c1, cf, d0, d1, df, row, q0, q1, qqf, r0, r1, rrf, hbz, z1, z2, z3, z4⟩
        have hLr : L < wr.heap.size := by omega
        have hKr : K < wr.heap.size := by omega
        by_cases hlt : k < N
        · have hkl : k < l.length := by have := HNN.out; omega
          obtain ⟨g', rfl, hg', _, e0, e1⟩ := frs_cells row hlt (show fAt (l.map qf) k = qf (l.getD k 0) from fAt_map l k hkl)
          have hM1 : minR u (l.take (k + 1)) = if l.getD k 0 < minR u (l.take k) then l.getD k 0 else minR u (l.take k) := by rw [take_snoc' hkl, minR_snoc]
          have hM2 : maxR u (l.take (k + 1)) = if maxR u (l.take k) < l.getD k 0 then l.getD k 0 else maxR u (l.take k) := by rw [take_snoc' hkl, maxR_snoc]
          have hyf' : fits (l.getD k 0) = true := hf _ (mem_getD hkl)
          have hlf : fits (minR u (l.take k)) = true := minR_fits huf (fun y hy => hf y (List.mem_of_mem_take hy))
          have hhf : fits (maxR u (l.take k)) = true := maxR_fits huf (fun y hy => hf y (List.mem_of_mem_take hy))
          have HM1 := Lib.hid hM1; have HM2 := Lib.hid hM2
          have HT := hide hT
          clear hM1 hM2 hT row q0 q1 qqf r0 r1 rrf hbz hf
          change wr.cell? ⟨g', k * 2, none⟩ = some (.int .i64 (l.getD k 0).num) at e0
          change wr.cell? ⟨g', k * 2 + 1, none⟩ = some (.int .i64 (l.getD k 0).den) at e1
          generalize minR u (l.take k) = lo at *
          generalize maxR u (l.take k) = hi at *
          generalize l.getD k 0 = yy at *
          have h1 := fun W => raCmp_q yy lo hyf' hlf W
          have h2 := fun W => raCmp_q hi yy hhf hyf' W
          clear hyf' hlf hhf
          by_cases hc1 : yy < lo
          · have hz1 : decide (cq yy lo < 0) = true := decide_eq_true (cq_lt.2 hc1)
            rw [if_pos hc1] at HM1
            by_cases hc2 : hi < yy
            · have hz2 : decide (cq hi yy < 0) = true := decide_eq_true (cq_lt.2 hc2)
              rw [if_pos hc2] at HM2
              clear hc1 hc2
              obtain ⟨v1, hv1⟩ : ∃ r, r = yy.num := ⟨_, rfl⟩
              obtain ⟨v2, hv2⟩ : ∃ r, r = (yy.den : Int) := ⟨_, rfl⟩
              rw [← hv1, ← hv2] at h1 h2
              rw [← hv1] at e0
              rw [← hv2] at e1
              have HSL := hide (fun (W : World) (hW : Two w W L K w3.heap.size N (.slice (some ⟨g', 0, none⟩) N d) (frcs (l.map qf)) lo hi) => hW.setL yy)
              rw [← hv1, ← hv2] at HSL
              have HSK := hide (fun (W : World) (hW : Two w W L K w3.heap.size N (.slice (some ⟨g', 0, none⟩) N d) (frcs (l.map qf)) yy hi) => hW.setK yy)
              rw [← hv1, ← hv2] at HSK
              have H1 := hide h1; have H2 := hide h2; clear h1 h2 hv1 hv2
              generalize cq yy lo = za at *
              generalize cq hi yy = zb at *
              obtain ⟨a1, ha1⟩ : ∃ r, r = lo.num := ⟨_, rfl⟩
              obtain ⟨a2, ha2⟩ : ∃ r, r = (lo.den : Int) := ⟨_, rfl⟩
              obtain ⟨b1, hb1⟩ : ∃ r, r = hi.num := ⟨_, rfl⟩
              obtain ⟨b2, hb2⟩ : ∃ r, r = (hi.den : Int) := ⟨_, rfl⟩
              rw [← ha1] at c0 H1
              rw [← ha2] at c1 H1
              rw [← hb1] at d0 H2
              rw [← hb2] at d1 H2
              clear ha1 ha2 hb1 hb2
              go_wp2_with (first | (go_at_call 74; (with_reducible refine ((unhide H1) _).mono ?_); rintro e w4 ⟨rfl, hbw4⟩; obtain ⟨hcw4, hfw4⟩ := bcell hbw4; have hzw4 := hbw4.size; (try simp at hzw4); (try ((have kw4LX0 := (bnew hbw4) (L) ?pf); (case pf => (first | omega | (simp; done) | (simp; omega))); obtain ⟨kcw4LX0, kfw4LX0, klw4LX0⟩ := kw4LX0)); (try ((have kw4KX0 := (bnew hbw4) (K) ?pf); (case pf => (first | omega | (simp; done) | (simp; omega))); obtain ⟨kcw4KX0, kfw4KX0, klw4KX0⟩ := kw4KX0)); (try ((have kw4wr0 := (bnew hbw4) (wr.heap.size) ?pf); (case pf => (first | omega | (simp; done) | (simp; omega))); obtain ⟨kcw4wr0, kfw4wr0, klw4wr0⟩ := kw4wr0))) | (go_at_call 74; have _t := hbw4; clear _t; (with_reducible refine ((unhide H2) _).mono ?_); rintro e w5 ⟨rfl, hbw5⟩; obtain ⟨hcw5, hfw5⟩ := bcell hbw5; have hzw5 := hbw5.size; (try simp at hzw5); (try ((have kw5LX0 := (bnew hbw5) (L) ?pf); (case pf => (first | omega | (simp; done) | (simp; omega))); obtain ⟨kcw5LX0, kfw5LX0, klw5LX0⟩ := kw5LX0)); (try ((have kw5KX0 := (bnew hbw5) (K) ?pf); (case pf => (first | omega | (simp; done) | (simp; omega))); obtain ⟨kcw5KX0, kfw5KX0, klw5KX0⟩ := kw5KX0)); (try ((have kw5wr0 := (bnew hbw5) (wr.heap.size) ?pf); (case pf => (first | omega | (simp; done) | (simp; omega))); obtain ⟨kcw5wr0, kfw5wr0, klw5wr0⟩ := kw5wr0))))
              have T1 := (unhide HT).keep (show Below wr.heap.size wr w4 from (by repeat (first | with_reducible exact Below.refl _ _ | with_reducible assumption | (with_reducible refine Below.trans ?_ (Below.mono (by assumption) (by first | omega | (simp <;> omega)))) | with_reducible apply Below.drew | with_reducible apply below_drewN | (with_reducible refine Below.alloc ?_ (by first | omega | (simp <;> omega)) _) | (with_reducible refine Below.setCell ?_ (by first | omega | (simp <;> omega)) _))))
              have T2 := (unhide HSL) _ T1
              have T3 := T2.keep hbw5
              have T4 := (unhide HSK) _ T3
              have HT4 := hide T4
              clear T1 T2 T3 T4
              go_roundw
              case rel => exact ⟨k + 1, by go_num, by omega, by rw [HM1.out, HM2.out]; exact unhide HT4⟩
              case measure => simp [intOf]; omega
            · have hz2 : decide (cq hi yy < 0) = false := decide_eq_false (fun h => hc2 (cq_lt.1 h))
              rw [if_neg hc2] at HM2
              clear hc1 hc2
              obtain ⟨v1, hv1⟩ : ∃ r, r = yy.num := ⟨_, rfl⟩
              obtain ⟨v2, hv2⟩ : ∃ r, r = (yy.den : Int) := ⟨_, rfl⟩
              rw [← hv1, ← hv2] at h1 h2
              rw [← hv1] at e0
              rw [← hv2] at e1
              have HSL := hide (fun (W : World) (hW : Two w W L K w3.heap.size N (.slice (some ⟨g', 0, none⟩) N d) (frcs (l.map qf)) lo hi) => hW.setL yy)
              rw [← hv1, ← hv2] at HSL
              have H1 := hide h1; have H2 := hide h2; clear h1 h2 hv1 hv2
              generalize cq yy lo = za at *
              generalize cq hi yy = zb at *
              obtain ⟨a1, ha1⟩ : ∃ r, r = lo.num := ⟨_, rfl⟩
              obtain ⟨a2, ha2⟩ : ∃ r, r = (lo.den : Int) := ⟨_, rfl⟩
              obtain ⟨b1, hb1⟩ : ∃ r, r = hi.num := ⟨_, rfl⟩
              obtain ⟨b2, hb2⟩ : ∃ r, r = (hi.den : Int) := ⟨_, rfl⟩
              rw [← ha1] at c0 H1
              rw [← ha2] at c1 H1
              rw [← hb1] at d0 H2
              rw [← hb2] at d1 H2
              clear ha1 ha2 hb1 hb2
              go_wp2_with (first | (go_at_call 74; (with_reducible refine ((unhide H1) _).mono ?_); rintro e w4 ⟨rfl, hbw4⟩; obtain ⟨hcw4, hfw4⟩ := bcell hbw4; have hzw4 := hbw4.size; (try simp at hzw4); (try ((have kw4LX0 := (bnew hbw4) (L) ?pf); (case pf => (first | omega | (simp; done) | (simp; omega))); obtain ⟨kcw4LX0, kfw4LX0, klw4LX0⟩ := kw4LX0)); (try ((have kw4KX0 := (bnew hbw4) (K) ?pf); (case pf => (first | omega | (simp; done) | (simp; omega))); obtain ⟨kcw4KX0, kfw4KX0, klw4KX0⟩ := kw4KX0)); (try ((have kw4wr0 := (bnew hbw4) (wr.heap.size) ?pf); (case pf => (first | omega | (simp; done) | (simp; omega))); obtain ⟨kcw4wr0, kfw4wr0, klw4wr0⟩ := kw4wr0))) | (go_at_call 74; have _t := hbw4; clear _t; (with_reducible refine ((unhide H2) _).mono ?_); rintro e w5 ⟨rfl, hbw5⟩; obtain ⟨hcw5, hfw5⟩ := bcell hbw5; have hzw5 := hbw5.size; (try simp at hzw5); (try ((have kw5LX0 := (bnew hbw5) (L) ?pf); (case pf => (first | omega | (simp; done) | (simp; omega))); obtain ⟨kcw5LX0, kfw5LX0, klw5LX0⟩ := kw5LX0)); (try ((have kw5KX0 := (bnew hbw5) (K) ?pf); (case pf => (first | omega | (simp; done) | (simp; omega))); obtain ⟨kcw5KX0, kfw5KX0, klw5KX0⟩ := kw5KX0)); (try ((have kw5wr0 := (bnew hbw5) (wr.heap.size) ?pf); (case pf => (first | omega | (simp; done) | (simp; omega))); obtain ⟨kcw5wr0, kfw5wr0, klw5wr0⟩ := kw5wr0))))
              have T1 := (unhide HT).keep (show Below wr.heap.size wr w4 from (by repeat (first | with_reducible exact Below.refl _ _ | with_reducible assumption | (with_reducible refine Below.trans ?_ (Below.mono (by assumption) (by first | omega | (simp <;> omega)))) | with_reducible apply Below.drew | with_reducible apply below_drewN | (with_reducible refine Below.alloc ?_ (by first | omega | (simp <;> omega)) _) | (with_reducible refine Below.setCell ?_ (by first | omega | (simp <;> omega)) _))))
              have T2 := (unhide HSL) _ T1
              have T3 := T2.keep hbw5
              have T4 := T3
              have HT4 := hide T4
              clear T1 T2 T3 T4
              go_roundw
              case rel => exact ⟨k + 1, by go_num, by omega, by rw [HM1.out, HM2.out]; exact unhide HT4⟩
              case measure => simp [intOf]; omega
          · have hz1 : decide (cq yy lo < 0) = false := decide_eq_false (fun h => hc1 (cq_lt.1 h))
            rw [if_neg hc1] at HM1
            by_cases hc2 : hi < yy
            · have hz2 : decide (cq hi yy < 0) = true := decide_eq_true (cq_lt.2 hc2)
              rw [if_pos hc2] at HM2
              clear hc1 hc2
              obtain ⟨v1, hv1⟩ : ∃ r, r = yy.num := ⟨_, rfl⟩
              obtain ⟨v2, hv2⟩ : ∃ r, r = (yy.den : Int) := ⟨_, rfl⟩
              rw [← hv1, ← hv2] at h1 h2
              rw [← hv1] at e0
              rw [← hv2] at e1
              have HSK := hide (fun (W : World) (hW : Two w W L K w3.heap.size N (.slice (some ⟨g', 0, none⟩) N d) (frcs (l.map qf)) lo hi) => hW.setK yy)
              rw [← hv1, ← hv2] at HSK
              have H1 := hide h1; have H2 := hide h2; clear h1 h2 hv1 hv2
              generalize cq yy lo = za at *
              generalize cq hi yy = zb at *
              obtain ⟨a1, ha1⟩ : ∃ r, r = lo.num := ⟨_, rfl⟩
              obtain ⟨a2, ha2⟩ : ∃ r, r = (lo.den : Int) := ⟨_, rfl⟩
              obtain ⟨b1, hb1⟩ : ∃ r, r = hi.num := ⟨_, rfl⟩
              obtain ⟨b2, hb2⟩ : ∃ r, r = (hi.den : Int) := ⟨_, rfl⟩
              rw [← ha1] at c0 H1
              rw [← ha2] at c1 H1
              rw [← hb1] at d0 H2
              rw [← hb2] at d1 H2
              clear ha1 ha2 hb1 hb2
              go_wp2_with (first | (go_at_call 74; (with_reducible refine ((unhide H1) _).mono ?_); rintro e w4 ⟨rfl, hbw4⟩; obtain ⟨hcw4, hfw4⟩ := bcell hbw4; have hzw4 := hbw4.size; (try simp at hzw4); (try ((have kw4LX0 := (bnew hbw4) (L) ?pf); (case pf => (first | omega | (simp; done) | (simp; omega))); obtain ⟨kcw4LX0, kfw4LX0, klw4LX0⟩ := kw4LX0)); (try ((have kw4KX0 := (bnew hbw4) (K) ?pf); (case pf => (first | omega | (simp; done) | (simp; omega))); obtain ⟨kcw4KX0, kfw4KX0, klw4KX0⟩ := kw4KX0)); (try ((have kw4wr0 := (bnew hbw4) (wr.heap.size) ?pf); (case pf => (first | omega | (simp; done) | (simp; omega))); obtain ⟨kcw4wr0, kfw4wr0, klw4wr0⟩ := kw4wr0))) | (go_at_call 74; have _t := hbw4; clear _t; (with_reducible refine ((unhide H2) _).mono ?_); rintro e w5 ⟨rfl, hbw5⟩; obtain ⟨hcw5, hfw5⟩ := bcell hbw5; have hzw5 := hbw5.size; (try simp at hzw5); (try ((have kw5LX0 := (bnew hbw5) (L) ?pf); (case pf => (first | omega | (simp; done) | (simp; omega))); obtain ⟨kcw5LX0, kfw5LX0, klw5LX0⟩ := kw5LX0)); (try ((have kw5KX0 := (bnew hbw5) (K) ?pf); (case pf => (first | omega | (simp; done) | (simp; omega))); obtain ⟨kcw5KX0, kfw5KX0, klw5KX0⟩ := kw5KX0)); (try ((have kw5wr0 := (bnew hbw5) (wr.heap.size) ?pf); (case pf => (first | omega | (simp; done) | (simp; omega))); obtain ⟨kcw5wr0, kfw5wr0, klw5wr0⟩ := kw5wr0))))
              have T1 := (unhide HT).keep (show Below wr.heap.size wr w4 from (by repeat (first | with_reducible exact Below.refl _ _ | with_reducible assumption | (with_reducible refine Below.trans ?_ (Below.mono (by assumption) (by first | omega | (simp <;> omega)))) | with_reducible apply Below.drew | with_reducible apply below_drewN | (with_reducible refine Below.alloc ?_ (by first | omega | (simp <;> omega)) _) | (with_reducible refine Below.setCell ?_ (by first | omega | (simp <;> omega)) _))))
              have T2 := T1
              have T3 := T2.keep hbw5
              have T4 := (unhide HSK) _ T3
              have HT4 := hide T4
              clear T1 T2 T3 T4
              go_roundw
              case rel => exact ⟨k + 1, by go_num, by omega, by rw [HM1.out, HM2.out]; exact unhide HT4⟩
              case measure => simp [intOf]; omega
            · have hz2 : decide (cq hi yy < 0) = false := decide_eq_false (fun h => hc2 (cq_lt.1 h))
              rw [if_neg hc2] at HM2
              clear hc1 hc2
              obtain ⟨v1, hv1⟩ : ∃ r, r = yy.num := ⟨_, rfl⟩
              obtain ⟨v2, hv2⟩ : ∃ r, r = (yy.den : Int) := ⟨_, rfl⟩
              rw [← hv1, ← hv2] at h1 h2
              rw [← hv1] at e0
              rw [← hv2] at e1
              have H1 := hide h1; have H2 := hide h2; clear h1 h2 hv1 hv2
              generalize cq yy lo = za at *
              generalize cq hi yy = zb at *
              obtain ⟨a1, ha1⟩ : ∃ r, r = lo.num := ⟨_, rfl⟩
              obtain ⟨a2, ha2⟩ : ∃ r, r = (lo.den : Int) := ⟨_, rfl⟩
              obtain ⟨b1, hb1⟩ : ∃ r, r = hi.num := ⟨_, rfl⟩
              obtain ⟨b2, hb2⟩ : ∃ r, r = (hi.den : Int) := ⟨_, rfl⟩
              rw [← ha1] at c0 H1
              rw [← ha2] at c1 H1
              rw [← hb1] at d0 H2
              rw [← hb2] at d1 H2
              clear ha1 ha2 hb1 hb2
              go_wp2_with (first | (go_at_call 74; (with_reducible refine ((unhide H1) _).mono ?_); rintro e w4 ⟨rfl, hbw4⟩; obtain ⟨hcw4, hfw4⟩ := bcell hbw4; have hzw4 := hbw4.size; (try simp at hzw4); (try ((have kw4LX0 := (bnew hbw4) (L) ?pf); (case pf => (first | omega | (simp; done) | (simp; omega))); obtain ⟨kcw4LX0, kfw4LX0, klw4LX0⟩ := kw4LX0)); (try ((have kw4KX0 := (bnew hbw4) (K) ?pf); (case pf => (first | omega | (simp; done) | (simp; omega))); obtain ⟨kcw4KX0, kfw4KX0, klw4KX0⟩ := kw4KX0)); (try ((have kw4wr0 := (bnew hbw4) (wr.heap.size) ?pf); (case pf => (first | omega | (simp; done) | (simp; omega))); obtain ⟨kcw4wr0, kfw4wr0, klw4wr0⟩ := kw4wr0))) | (go_at_call 74; have _t := hbw4; clear _t; (with_reducible refine ((unhide H2) _).mono ?_); rintro e w5 ⟨rfl, hbw5⟩; obtain ⟨hcw5, hfw5⟩ := bcell hbw5; have hzw5 := hbw5.size; (try simp at hzw5); (try ((have kw5LX0 := (bnew hbw5) (L) ?pf); (case pf => (first | omega | (simp; done) | (simp; omega))); obtain ⟨kcw5LX0, kfw5LX0, klw5LX0⟩ := kw5LX0)); (try ((have kw5KX0 := (bnew hbw5) (K) ?pf); (case pf => (first | omega | (simp; done) | (simp; omega))); obtain ⟨kcw5KX0, kfw5KX0, klw5KX0⟩ := kw5KX0)); (try ((have kw5wr0 := (bnew hbw5) (wr.heap.size) ?pf); (case pf => (first | omega | (simp; done) | (simp; omega))); obtain ⟨kcw5wr0, kfw5wr0, klw5wr0⟩ := kw5wr0))))
              have T1 := (unhide HT).keep (show Below wr.heap.size wr w4 from (by repeat (first | with_reducible exact Below.refl _ _ | with_reducible assumption | (with_reducible refine Below.trans ?_ (Below.mono (by assumption) (by first | omega | (simp <;> omega)))) | with_reducible apply Below.drew | with_reducible apply below_drewN | (with_reducible refine Below.alloc ?_ (by first | omega | (simp <;> omega)) _) | (with_reducible refine Below.setCell ?_ (by first | omega | (simp <;> omega)) _))))
              have T2 := T1
              have T3 := T2.keep hbw5
              have T4 := T3
              have HT4 := hide T4
              clear T1 T2 T3 T4
              go_roundw
              case rel => exact ⟨k + 1, by go_num, by omega, by rw [HM1.out, HM2.out]; exact unhide HT4⟩
              case measure => simp [intOf]; omega
        · obtain rfl : k = N := by omega
          rw [show l.take k = l from by rw [HNN.out, List.take_length]] at c0 c1 d0 d1
          have HBZ := hide hbz
          clear hT hbz cf df row
          go_wp2_with fail
          go_region
          all_goals
            go_wp2_with fail
            have hb := unhide HBZ
            exact bodyPost_ret (v := .tuple #[.agg #[.int .i64 ((minR u l).num), .int .i64 ((minR u l).den)], .agg #[.int .i64 ((maxR u l).num), .int .i64 ((maxR u l).den)], .bool true]) (by simp [results, Try.results45, go_sem, *]) rfl ⟨by rw [HLL.out], (by repeat (first | with_reducible exact Below.refl _ _ | with_reducible assumption | (with_reducible refine Below.trans ?_ (Below.mono (by assumption) (by first | omega | (simp <;> omega)))) | with_reducible apply Below.drew | with_reducible apply below_drewN | (with_reducible refine Below.alloc ?_ (by first | omega | (simp <;> omega)) _) | (with_reducible refine Below.setCell ?_ (by first | omega | (simp <;> omega)) _)))⟩
end Go.Proofs.Ytmkejopkmdcfeab

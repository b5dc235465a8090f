/-
  Chapter 2: ImageOf of the program.
-/
import Derived.Test.YtmkejopkmdcfeabIma
namespace Go.Proofs.Ytmkejopkmdcfeab
open Go.RowKit Rm

/-- The least and the greatest value of a map between two fractions. -/
def imgO (ps : List Pt) (a b p q : Int) : Option (Rat × Rat) :=
  match valO ps a b, valO ps p q with
  | some u, some v =>
    if cmpI (a * q) (p * b) ≤ 0 then some (minR u (v :: innK (dec ps) (Rat.divInt a b) (Rat.divInt p q) ps.length), maxR u (v :: innK (dec ps) (Rat.divInt a b) (Rat.divInt p q) ps.length)) else none
  | _, _ => none
/-- How such an answer is handed back. -/
def imgV (o : Option (Rat × Rat)) : Value := .tuple #[.agg #[.int .i64 (oN (o.map (·.1))), .int .i64 (oD (o.map (·.1)))], .agg #[.int .i64 (oN (o.map (·.2))), .int .i64 (oD (o.map (·.2)))], .bool o.isSome]
theorem imgV_none : imgV none = .tuple #[.agg #[.int .i64 (0), .int .i64 (0)], .agg #[.int .i64 (0), .int .i64 (0)], .bool false] := rfl
theorem imgV_some (u v : Rat) : imgV (some (u, v)) = .tuple #[.agg #[.int .i64 (u.num), .int .i64 (u.den)], .agg #[.int .i64 (v.num), .int .i64 (v.den)], .bool true] := rfl
theorem valO_some {ps : List Pt} {a b : Int} {u : Rat} (h : valO ps a b = some u) : mapB ps = true ∧ uB a b = true := by
  rcases hu : uB a b with _ | _
  · rw [valO_no (.inl hu)] at h; cases h
  · rcases hm : mapB ps with _ | _
    · rw [valO_no (.inr hm)] at h; cases h
    · exact ⟨rfl, rfl⟩
theorem onR_isR (p q : QP) (x : Rat) : isR (onR p q x) := isR_oadd _ _
theorem vAt_isR : ∀ (qs : List QP) (x : Rat), isR (vAt qs x)
  | [], _ => isR_none
  | [_], _ => isR_none
  | [p, q], x => onR_isR p q x
  | p :: q :: r :: l, x => by
    unfold vAt
    split
    · exact vAt_isR (q :: r :: l) x
    · exact onR_isR p q x
theorem frcs2_snoc (l : List Rat) (y : Rat) : frcs ((l ++ [y]).map qf) = frcs (l.map qf) ++ [.int .i64 y.num, .int .i64 y.den] := by
  rw [List.map_append, ← frcs_snoc]; rfl
theorem innK_fits {qs : List QP} (hg : GMap qs) (x y : Rat) : ∀ k, k ≤ qs.length → ∀ z ∈ innK qs x y k, fits z = true
  | 0, _, z, hz => by simp [innK] at hz
  | k + 1, hk, z, hz => by
    simp only [innK, List.mem_append] at hz
    rcases hz with hz | hz
    · exact innK_fits hg x y k (by omega) z hz
    · split at hz
      · rw [List.mem_singleton] at hz
        subst hz
        exact co_fits (hg.cy k (by omega))
      · simp at hz

theorem minFunc_n (A : Option Addr) (n c base : Nat) (a : Rat) (l : List Rat) (w : World) (h : n = l.length + 1) (ha : w.ownsRow base 26 2 (.slice A n c) n (frcs ((a :: l).map qf))) (hn : l.length ≤ 100) (hf : ∀ y ∈ a :: l, fits y = true) :
    Calls Try.prog 48 #[.slice A n c, .func (.func 47) #[] #[]] w fun e w' => e = .returned (.agg #[.int .i64 ((minR a l).num), .int .i64 ((minR a l).den)]) ∧ Below w.heap.size w w' := by
  subst h
  exact minFunc_any A c base a l w ha hn hf
theorem maxFunc_n (A : Option Addr) (n c base : Nat) (a : Rat) (l : List Rat) (w : World) (h : n = l.length + 1) (ha : w.ownsRow base 26 2 (.slice A n c) n (frcs ((a :: l).map qf))) (hn : l.length ≤ 100) (hf : ∀ y ∈ a :: l, fits y = true) :
    Calls Try.prog 49 #[.slice A n c, .func (.func 47) #[] #[]] w fun e w' => e = .returned (.agg #[.int .i64 ((maxR a l).num), .int .i64 ((maxR a l).den)]) ∧ Below w.heap.size w w' := by
  subst h
  exact maxFunc_any A c base a l w ha hn hf
set_option maxRecDepth 100000 in
set_option maxHeartbeats 3200000 in
theorem iImageOf_any (A : Option Addr) (n c base : Nat) (ps : List Pt) (a b p q : Int) (w : World) (ha : w.ownsRow base 70 4 (.slice A n c) n (ptcs ps)) (hn : n ≤ 1048576) :
    Calls Try.prog 12 #[.slice A n c, .agg #[.int .i64 (a), .int .i64 (b)], .agg #[.int .i64 (p), .int .i64 (q)]] w fun e w' => e = .returned (imgV (imgO ps a b p q)) ∧ Below w.heap.size w w' := by
  have hva := fun W hW => iValueAt_any A n c base ps a b W hW hn
  have hvb := fun W hW => iValueAt_any A n c base ps p q W hW hn
  rcases hU : valO ps a b with _ | u
  · have e : imgO ps a b p q = none := by unfold imgO; rw [hU]
    rw [e, imgV_none]
    rw [hU] at hva
    simp only [oN_none, oD_none, Option.isSome_none] at hva
    have HVA := hide hva; clear hva hvb hU e
    have HA := hide ha; clear ha
    go_enter Try.func12, Try.ntmps12
    go_wp2_with (go_at_call 43; (with_reducible refine ((unhide HVA) _ (own_below (unhide HA) ?pb)).mono ?_); (case pb => exact (by repeat (first | with_reducible exact Below.refl _ _ | with_reducible assumption | (with_reducible refine Below.trans ?_ (Below.mono (by assumption) (by first | omega | (simp <;> omega)))) | with_reducible apply Below.drew | with_reducible apply below_drewN | (with_reducible refine Below.alloc ?_ (by first | omega | (simp <;> omega)) _) | (with_reducible refine Below.setCell ?_ (by first | omega | (simp <;> omega)) _)))); rintro e w1 ⟨rfl, hbw1⟩; (skip; (try ((have kw1w0 := (bnew hbw1) (w.heap.size) ?pf); (case pf => (first | omega | (simp; done) | (simp; omega))); obtain ⟨kcw1w0, kfw1w0, klw1w0⟩ := kw1w0)); (try ((have kw1w1 := (bnew hbw1) (w.heap.size + 1) ?pf); (case pf => (first | omega | (simp; done) | (simp; omega))); obtain ⟨kcw1w1, kfw1w1, klw1w1⟩ := kw1w1)); (try ((have kw1w2 := (bnew hbw1) (w.heap.size + 1 + 1) ?pf); (case pf => (first | omega | (simp; done) | (simp; omega))); obtain ⟨kcw1w2, kfw1w2, klw1w2⟩ := kw1w2)); (try ((have kw1w3 := (bnew hbw1) (w.heap.size + 1 + 1 + 1) ?pf); (case pf => (first | omega | (simp; done) | (simp; omega))); obtain ⟨kcw1w3, kfw1w3, klw1w3⟩ := kw1w3))))
    exact bodyPost_ret (v := .tuple #[.agg #[.int .i64 (0), .int .i64 (0)], .agg #[.int .i64 (0), .int .i64 (0)], .bool false]) (by simp [results, Try.results12, go_sem, *]) rfl ⟨rfl, (by repeat (first | with_reducible exact Below.refl _ _ | with_reducible assumption | (with_reducible refine Below.trans ?_ (Below.mono (by assumption) (by first | omega | (simp <;> omega)))) | with_reducible apply Below.drew | with_reducible apply below_drewN | (with_reducible refine Below.alloc ?_ (by first | omega | (simp <;> omega)) _) | (with_reducible refine Below.setCell ?_ (by first | omega | (simp <;> omega)) _)))⟩
  · rw [hU] at hva
    simp only [oN_some, oD_some, Option.isSome_some] at hva
    rcases hV : valO ps p q with _ | v
    · have e : imgO ps a b p q = none := by unfold imgO; rw [hU, hV]
      rw [e, imgV_none]
      rw [hV] at hvb
      simp only [oN_none, oD_none, Option.isSome_none] at hvb
      have HVA := hide hva; have HVB := hide hvb; clear hva hvb hU hV e
      have HA := hide ha; clear ha
      go_enter Try.func12, Try.ntmps12
      go_wp2_with (go_at_call 43; first | (have _t := hbw1; clear _t; (refine ((unhide HVB) _ (own_below (unhide HA) ?pb)).mono ?_); (case pb => exact (by repeat (first | with_reducible exact Below.refl _ _ | with_reducible assumption | (with_reducible refine Below.trans ?_ (Below.mono (by assumption) (by first | omega | (simp <;> omega)))) | with_reducible apply Below.drew | with_reducible apply below_drewN | (with_reducible refine Below.alloc ?_ (by first | omega | (simp <;> omega)) _) | (with_reducible refine Below.setCell ?_ (by first | omega | (simp <;> omega)) _)))); rintro e w2 ⟨rfl, hbw2⟩; (skip; (try ((have kw2w0 := (bnew hbw2) (w.heap.size) ?pf); (case pf => (first | omega | (simp; done) | (simp; omega))); obtain ⟨kcw2w0, kfw2w0, klw2w0⟩ := kw2w0)); (try ((have kw2w1 := (bnew hbw2) (w.heap.size + 1) ?pf); (case pf => (first | omega | (simp; done) | (simp; omega))); obtain ⟨kcw2w1, kfw2w1, klw2w1⟩ := kw2w1)); (try ((have kw2w2 := (bnew hbw2) (w.heap.size + 1 + 1) ?pf); (case pf => (first | omega | (simp; done) | (simp; omega))); obtain ⟨kcw2w2, kfw2w2, klw2w2⟩ := kw2w2)); (try ((have kw2w3 := (bnew hbw2) (w.heap.size + 1 + 1 + 1) ?pf); (case pf => (first | omega | (simp; done) | (simp; omega))); obtain ⟨kcw2w3, kfw2w3, klw2w3⟩ := kw2w3)); (try ((have kw2w10 := (bnew hbw2) (w1.heap.size) ?pf); (case pf => (first | omega | (simp; done) | (simp; omega))); obtain ⟨kcw2w10, kfw2w10, klw2w10⟩ := kw2w10)))) | ((refine ((unhide HVA) _ (own_below (unhide HA) ?pb)).mono ?_); (case pb => exact (by repeat (first | with_reducible exact Below.refl _ _ | with_reducible assumption | (with_reducible refine Below.trans ?_ (Below.mono (by assumption) (by first | omega | (simp <;> omega)))) | with_reducible apply Below.drew | with_reducible apply below_drewN | (with_reducible refine Below.alloc ?_ (by first | omega | (simp <;> omega)) _) | (with_reducible refine Below.setCell ?_ (by first | omega | (simp <;> omega)) _)))); rintro e w1 ⟨rfl, hbw1⟩; (skip; (try ((have kw1w0 := (bnew hbw1) (w.heap.size) ?pf); (case pf => (first | omega | (simp; done) | (simp; omega))); obtain ⟨kcw1w0, kfw1w0, klw1w0⟩ := kw1w0)); (try ((have kw1w1 := (bnew hbw1) (w.heap.size + 1) ?pf); (case pf => (first | omega | (simp; done) | (simp; omega))); obtain ⟨kcw1w1, kfw1w1, klw1w1⟩ := kw1w1)); (try ((have kw1w2 := (bnew hbw1) (w.heap.size + 1 + 1) ?pf); (case pf => (first | omega | (simp; done) | (simp; omega))); obtain ⟨kcw1w2, kfw1w2, klw1w2⟩ := kw1w2)); (try ((have kw1w3 := (bnew hbw1) (w.heap.size + 1 + 1 + 1) ?pf); (case pf => (first | omega | (simp; done) | (simp; omega))); obtain ⟨kcw1w3, kfw1w3, klw1w3⟩ := kw1w3))); have hz1 := hbw1.size; simp at hz1))
      exact bodyPost_ret (v := .tuple #[.agg #[.int .i64 (0), .int .i64 (0)], .agg #[.int .i64 (0), .int .i64 (0)], .bool false]) (by simp [results, Try.results12, go_sem, *]) rfl ⟨rfl, (by repeat (first | with_reducible exact Below.refl _ _ | with_reducible assumption | (with_reducible refine Below.trans ?_ (Below.mono (by assumption) (by first | omega | (simp <;> omega)))) | with_reducible apply Below.drew | with_reducible apply below_drewN | (with_reducible refine Below.alloc ?_ (by first | omega | (simp <;> omega)) _) | (with_reducible refine Below.setCell ?_ (by first | omega | (simp <;> omega)) _)))⟩
    · rw [hV] at hvb
      simp only [oN_some, oD_some, Option.isSome_some] at hvb
      obtain ⟨hm, hua⟩ := valO_some hU
      obtain ⟨_, hub⟩ := valO_some hV
      obtain ⟨x, rfl, rfl, hxf, hx0, hx1⟩ := uB_rat hua
      obtain ⟨y, rfl, rfl, hyf, hy0, hy1⟩ := uB_rat hub
      have hord := fun W => orderOf_q x y hxf hyf W
      have hcq := cmpI_cq x y
      by_cases hle : cq x y ≤ 0
      · obtain ⟨g, m, qs, rfl, rfl, rfl, hg, hlen⟩ := own_form ha hm
        have huf : fits u = true := vAt_isR qs x u (by rw [← valO_eq hg hua]; exact hU)
        have hvf : fits v = true := vAt_isR qs y v (by rw [← valO_eq hg hub]; exact hV)
        have e : imgO (qs.map qp) x.num x.den y.num y.den = some (minR u (v :: innK qs x y (m + 1)), maxR u (v :: innK qs x y (m + 1))) := by
          unfold imgO; rw [hU, hV]
          simp only [hcq, if_pos hle, dec_qp, Rat.num_divInt_den, List.length_map, hlen]
        rw [e, imgV_some]
        have hz : decide (0 < cq x y) = false := decide_eq_false (by omega)
        obtain ⟨i0, hi0, hz0, hz1', hz2'⟩ := info_parts iRat
        obtain ⟨g', cap, hv, _, hgl⟩ := ha.form (by omega)
        obtain rfl : g = g' := by injection hv with h1; exact (Addr.mk.inj (Option.some.inj h1)).1
        have hhi := hg.hi
        have hlx := fun k (hk : k < m + 1) W => orderOf_q x (qAt qs k).1 hxf (co_fits (hg.cx k (by omega))) W
        have hly := fun k (hk : k < m + 1) W => orderOf_q (qAt qs k).1 y (co_fits (hg.cx k (by omega))) hyf W
        obtain ⟨xn, hxn⟩ : ∃ r, r = x.num := ⟨_, rfl⟩
        obtain ⟨xd, hxd⟩ : ∃ r, r = (x.den : Int) := ⟨_, rfl⟩
        obtain ⟨yn, hyn⟩ : ∃ r, r = y.num := ⟨_, rfl⟩
        obtain ⟨yd, hyd⟩ : ∃ r, r = (y.den : Int) := ⟨_, rfl⟩
        rw [← hxn, ← hxd] at hva hord hlx
        rw [← hyn, ← hyd] at hvb hord hly
        rw [← hxn, ← hxd, ← hyn, ← hyd]
        obtain ⟨un, hun⟩ : ∃ r, r = u.num := ⟨_, rfl⟩
        obtain ⟨ud, hud⟩ : ∃ r, r = (u.den : Int) := ⟨_, rfl⟩
        obtain ⟨vn, hvn⟩ : ∃ r, r = v.num := ⟨_, rfl⟩
        obtain ⟨vd, hvd⟩ : ∃ r, r = (v.den : Int) := ⟨_, rfl⟩
        rw [← hun, ← hud] at hva
        rw [← hvn, ← hvd] at hvb
        have hst : ∀ W : World, (W.alloc (.cells #[.int .i64 un, .int .i64 ud, .int .i64 vn, .int .i64 vd] 26)).ownsRow W.heap.size 26 2 (.slice (some ⟨W.heap.size, 0, none⟩) 2 2) (2 + (innK qs x y 0).length) (frcs ((u :: v :: innK qs x y 0).map qf)) := by
          intro W
          rw [hun, hud, hvn, hvd]
          exact World.ownsRow_lit W _ 2 (Nat.le_refl _) (by unfold maxLen; omega) rfl
        have HST := hide hst
        clear hcq e hU hV hua hub hx0 hx1 hy0 hy1 hle hv hxn hxd hyn hyd hun hud hvn hvd hst hm
        generalize cq x y = z at *
        have HVA := hide hva; have HVB := hide hvb; have HO := hide hord; have HLX := hide hlx; have HLY := hide hly; clear hva hvb hord hlx hly
        have HA := hide ha; clear ha
        have HQ := Lib.hid hlen; clear hlen
        go_enter Try.func12, Try.ntmps12
        go_wp2_with (first | (go_at_call 47; (with_reducible refine ((unhide HO) _).mono ?_); rintro e w3 ⟨rfl, hbw3⟩; obtain ⟨hcw3, hfw3⟩ := bcell hbw3; have hzw3 := hbw3.size; (try simp at hzw3); (try ((have kw3w0 := (bnew hbw3) (w.heap.size) ?pf); (case pf => (first | omega | (simp; done) | (simp; omega))); obtain ⟨kcw3w0, kfw3w0, klw3w0⟩ := kw3w0)); (try ((have kw3w1 := (bnew hbw3) (w.heap.size + 1) ?pf); (case pf => (first | omega | (simp; done) | (simp; omega))); obtain ⟨kcw3w1, kfw3w1, klw3w1⟩ := kw3w1)); (try ((have kw3w2 := (bnew hbw3) (w.heap.size + 1 + 1) ?pf); (case pf => (first | omega | (simp; done) | (simp; omega))); obtain ⟨kcw3w2, kfw3w2, klw3w2⟩ := kw3w2)); (try ((have kw3w3 := (bnew hbw3) (w.heap.size + 1 + 1 + 1) ?pf); (case pf => (first | omega | (simp; done) | (simp; omega))); obtain ⟨kcw3w3, kfw3w3, klw3w3⟩ := kw3w3)); (try ((have kw3w10 := (bnew hbw3) (w1.heap.size) ?pf); (case pf => (first | omega | (simp; done) | (simp; omega))); obtain ⟨kcw3w10, kfw3w10, klw3w10⟩ := kw3w10)); (try ((have kw3w20 := (bnew hbw3) (w2.heap.size) ?pf); (case pf => (first | omega | (simp; done) | (simp; omega))); obtain ⟨kcw3w20, kfw3w20, klw3w20⟩ := kw3w20))) | (go_at_call 43; first | (have _t := hbw1; clear _t; (refine ((unhide HVB) _ (own_below (unhide HA) ?pb)).mono ?_); (case pb => exact (by repeat (first | with_reducible exact Below.refl _ _ | with_reducible assumption | (with_reducible refine Below.trans ?_ (Below.mono (by assumption) (by first | omega | (simp <;> omega)))) | with_reducible apply Below.drew | with_reducible apply below_drewN | (with_reducible refine Below.alloc ?_ (by first | omega | (simp <;> omega)) _) | (with_reducible refine Below.setCell ?_ (by first | omega | (simp <;> omega)) _)))); rintro e w2 ⟨rfl, hbw2⟩; (skip; (try ((have kw2w0 := (bnew hbw2) (w.heap.size) ?pf); (case pf => (first | omega | (simp; done) | (simp; omega))); obtain ⟨kcw2w0, kfw2w0, klw2w0⟩ := kw2w0)); (try ((have kw2w1 := (bnew hbw2) (w.heap.size + 1) ?pf); (case pf => (first | omega | (simp; done) | (simp; omega))); obtain ⟨kcw2w1, kfw2w1, klw2w1⟩ := kw2w1)); (try ((have kw2w2 := (bnew hbw2) (w.heap.size + 1 + 1) ?pf); (case pf => (first | omega | (simp; done) | (simp; omega))); obtain ⟨kcw2w2, kfw2w2, klw2w2⟩ := kw2w2)); (try ((have kw2w3 := (bnew hbw2) (w.heap.size + 1 + 1 + 1) ?pf); (case pf => (first | omega | (simp; done) | (simp; omega))); obtain ⟨kcw2w3, kfw2w3, klw2w3⟩ := kw2w3)); (try ((have kw2w10 := (bnew hbw2) (w1.heap.size) ?pf); (case pf => (first | omega | (simp; done) | (simp; omega))); obtain ⟨kcw2w10, kfw2w10, klw2w10⟩ := kw2w10)))) | ((refine ((unhide HVA) _ (own_below (unhide HA) ?pb)).mono ?_); (case pb => exact (by repeat (first | with_reducible exact Below.refl _ _ | with_reducible assumption | (with_reducible refine Below.trans ?_ (Below.mono (by assumption) (by first | omega | (simp <;> omega)))) | with_reducible apply Below.drew | with_reducible apply below_drewN | (with_reducible refine Below.alloc ?_ (by first | omega | (simp <;> omega)) _) | (with_reducible refine Below.setCell ?_ (by first | omega | (simp <;> omega)) _)))); rintro e w1 ⟨rfl, hbw1⟩; (skip; (try ((have kw1w0 := (bnew hbw1) (w.heap.size) ?pf); (case pf => (first | omega | (simp; done) | (simp; omega))); obtain ⟨kcw1w0, kfw1w0, klw1w0⟩ := kw1w0)); (try ((have kw1w1 := (bnew hbw1) (w.heap.size + 1) ?pf); (case pf => (first | omega | (simp; done) | (simp; omega))); obtain ⟨kcw1w1, kfw1w1, klw1w1⟩ := kw1w1)); (try ((have kw1w2 := (bnew hbw1) (w.heap.size + 1 + 1) ?pf); (case pf => (first | omega | (simp; done) | (simp; omega))); obtain ⟨kcw1w2, kfw1w2, klw1w2⟩ := kw1w2)); (try ((have kw1w3 := (bnew hbw1) (w.heap.size + 1 + 1 + 1) ?pf); (case pf => (first | omega | (simp; done) | (simp; omega))); obtain ⟨kcw1w3, kfw1w3, klw1w3⟩ := kw1w3))); have hz1 := hbw1.size; simp at hz1)))
        have x0 : w3.cell? ⟨w.heap.size, 0, none⟩ = some (.int .i64 xn) := by simp [go_sem, *]
        have x1 : w3.cell? ⟨w.heap.size, 1, none⟩ = some (.int .i64 xd) := by simp [go_sem, *]
        have y0 : w3.cell? ⟨w.heap.size + 1, 0, none⟩ = some (.int .i64 yn) := by simp [go_sem, *]
        have y1 : w3.cell? ⟨w.heap.size + 1, 1, none⟩ = some (.int .i64 yd) := by simp [go_sem, *]
        have p0 : w3.cell? ⟨w.heap.size + 1 + 1, 0, none⟩ = some (.int .i64 0) := by simp [go_sem, *]
        have p1 : w3.cell? ⟨w.heap.size + 1 + 1, 1, none⟩ = some (.int .i64 0) := by simp [go_sem, *]
        have pf : ∀ o, w3.frozen? ⟨w.heap.size + 1 + 1, o, none⟩ = false := fun o => by simp [go_sem, *]
        have t0 : w3.cell? ⟨w.heap.size + 1 + 1 + 1, 0, none⟩ = some (.int .i64 0) := by simp [go_sem, *]
        have t1 : w3.cell? ⟨w.heap.size + 1 + 1 + 1, 1, none⟩ = some (.int .i64 0) := by simp [go_sem, *]
        have tf : ∀ o, w3.frozen? ⟨w.heap.size + 1 + 1 + 1, o, none⟩ = false := fun o => by simp [go_sem, *]
        have hbA : Below w.heap.size w w3 := (by repeat (first | with_reducible exact Below.refl _ _ | with_reducible assumption | (with_reducible refine Below.trans ?_ (Below.mono (by assumption) (by first | omega | (simp <;> omega)))) | with_reducible apply Below.drew | with_reducible apply below_drewN | (with_reducible refine Below.alloc ?_ (by first | omega | (simp <;> omega)) _) | (with_reducible refine Below.setCell ?_ (by first | omega | (simp <;> omega)) _)))
        have hzA := hbA.size
        have hz3 : w.heap.size + 1 + 1 + 1 < w3.heap.size := klw3w3
        have hgz : g < w3.heap.size := by omega
        have HA3 := hide (own_below (unhide HA) hbA)
        have HBA := hide hbA
        clear hbA hbw1 hbw2 hbw3 hcw3 hfw3 hzw3 hz1 HVA HVB HO HA
        clear kcw1w0 kfw1w0 klw1w0 kcw1w1 kfw1w1 klw1w1 kcw1w2 kfw1w2 klw1w2 kcw1w3 kfw1w3 klw1w3 kcw2w0 kfw2w0 klw2w0 kcw2w1 kfw2w1 klw2w1 kcw2w2 kfw2w2 klw2w2 kcw2w3 kfw2w3 klw2w3 kcw2w10 kfw2w10 klw2w10 kcw3w0 kfw3w0 kcw3w1 kfw3w1 kcw3w2 kfw3w2 kcw3w3 kfw3w3 kcw3w10 kfw3w10 klw3w10 kcw3w20 kfw3w20 klw3w20
        go_loopw [12, 46] (fun vv i wr => ∃ (k : Nat) (u' : Value), i = .int .i64 k ∧ u' = vv ∧ k ≤ m + 1 ∧ wr.ownsRow w3.heap.size 26 2 u' (2 + (innK qs x y k).length) (frcs ((u :: v :: innK qs x y k).map qf)) ∧ Below w3.heap.size w3 wr) (fun _ i _ => m + 1 - (intOf i).toNat)
        case atStart => exact ⟨0, _, rfl, rfl, by omega, (unhide HST) w3, (by repeat (first | with_reducible exact Below.refl _ _ | with_reducible assumption | (with_reducible refine Below.trans ?_ (Below.mono (by assumption) (by first | omega | (simp <;> omega)))) | with_reducible apply Below.drew | with_reducible apply below_drewN | (with_reducible refine Below.alloc ?_ (by first | omega | (simp <;> omega)) _) | (with_reducible refine Below.setCell ?_ (by first | omega | (simp <;> omega)) _)))⟩
        case round =>
          obtain ⟨k, u', rfl, rfl, hk, hown, hbwr⟩ := hrel
          clear HST
          (skip; (try ((have kwrgX0 := (bnew hbwr) (g) ?pf); (case pf => (first | omega | (simp; done) | (simp; omega))); obtain ⟨kcwrgX0, kfwrgX0, klwrgX0⟩ := kwrgX0)); (try ((have kwrw0 := (bnew hbwr) (w.heap.size) ?pf); (case pf => (first | omega | (simp; done) | (simp; omega))); obtain ⟨kcwrw0, kfwrw0, klwrw0⟩ := kwrw0)); (try ((have kwrw1 := (bnew hbwr) (w.heap.size + 1) ?pf); (case pf => (first | omega | (simp; done) | (simp; omega))); obtain ⟨kcwrw1, kfwrw1, klwrw1⟩ := kwrw1)); (try ((have kwrw2 := (bnew hbwr) (w.heap.size + 1 + 1) ?pf); (case pf => (first | omega | (simp; done) | (simp; omega))); obtain ⟨kcwrw2, kfwrw2, klwrw2⟩ := kwrw2)); (try ((have kwrw3 := (bnew hbwr) (w.heap.size + 1 + 1 + 1) ?pf); (case pf => (first | omega | (simp; done) | (simp; omega))); obtain ⟨kcwrw3, kfwrw3, klwrw3⟩ := kwrw3)))
          have hzwr := hbwr.size
          have x0' := (kcwrw0 0).trans x0
          have x1' := (kcwrw0 1).trans x1
          have y0' := (kcwrw1 0).trans y0
          have y1' := (kcwrw1 1).trans y1
          have p0' := (kcwrw2 0).trans p0
          have p1' := (kcwrw2 1).trans p1
          have pf' := fun o => (kfwrw2 o).trans (pf o)
          have t0' := (kcwrw3 0).trans t0
          have t1' := (kcwrw3 1).trans t1
          have tf' := fun o => (kfwrw3 o).trans (tf o)
          have hsl := innK_len qs x y k
          clear kcwrw0 kfwrw0 kcwrw1 kfwrw1 kcwrw2 kfwrw2 kcwrw3 kfwrw3 kcwrgX0 kfwrgX0 x0 x1 y0 y1 p0 p1 pf t0 t1 tf
          by_cases hlt : k < m + 1
          · obtain ⟨k0, k1, k2, k3⟩ := q_cells (own_below (unhide HA3) hbwr) (k := k) hlt
            have hvB : ∀ j, u'.ownBlock = some j → w3.heap.size ≤ j := fun j e => (hown.lt j e).1
            have hl1 := (unhide HLX) k hlt
            have hl2 := (unhide HLY) k hlt
            have HOW := hide hown
            have HV := hide hvB
            have HB := hide hbwr
            clear hown hvB hbwr p0' p1' pf' t0' t1' tf'
            by_cases hc1 : x < (qAt qs k).1
            · have hz1 : decide (cq x (qAt qs k).1 < 0) = true := decide_eq_true (cq_lt.2 hc1)
              by_cases hc2 : (qAt qs k).1 < y
              · have hz2 : decide (cq (qAt qs k).1 y < 0) = true := decide_eq_true (cq_lt.2 hc2)
                have hin : innK qs x y (k + 1) = innK qs x y k ++ [(qAt qs k).2] := by simp only [innK, if_pos (And.intro hc1 hc2)]
                have hn1 : 2 + (innK qs x y (k + 1)).length = 2 + (innK qs x y k).length + 1 := by rw [hin]; simp; omega
                have hn2 : frcs ((u :: v :: innK qs x y (k + 1)).map qf) = frcs ((u :: v :: innK qs x y k).map qf) ++ [.int .i64 (qAt qs k).2.num, .int .i64 (qAt qs k).2.den] := by
                  rw [hin, ← List.cons_append, ← List.cons_append, frcs2_snoc]
                have HL1 := Lib.hid hn1; have HN := Lib.hid hn2
                clear hn1 hn2 hin hc1 hc2
                generalize cq x (qAt qs k).1 = za at *
                generalize cq (qAt qs k).1 y = zb at *
                generalize (qAt qs k).1.num = f1 at *
                generalize ((qAt qs k).1.den : Int) = f2 at *
                generalize (qAt qs k).2.num = f3 at *
                generalize ((qAt qs k).2.den : Int) = f4 at *
                have H1 := hide hl1; have H2 := hide hl2; clear hl1 hl2
                go_wp2_with (first | (go_at_call 47; (with_reducible refine ((unhide H1) _).mono ?_); rintro e w4 ⟨rfl, hbw4⟩; obtain ⟨hcw4, hfw4⟩ := bcell hbw4; have hzw4 := hbw4.size; (try simp at hzw4); (try ((have kw4w0 := (bnew hbw4) (w.heap.size) ?pf); (case pf => (first | omega | (simp; done) | (simp; omega))); obtain ⟨kcw4w0, kfw4w0, klw4w0⟩ := kw4w0)); (try ((have kw4w1 := (bnew hbw4) (w.heap.size + 1) ?pf); (case pf => (first | omega | (simp; done) | (simp; omega))); obtain ⟨kcw4w1, kfw4w1, klw4w1⟩ := kw4w1)); (try ((have kw4wr0 := (bnew hbw4) (wr.heap.size) ?pf); (case pf => (first | omega | (simp; done) | (simp; omega))); obtain ⟨kcw4wr0, kfw4wr0, klw4wr0⟩ := kw4wr0))) | (go_at_call 47; have _t := hbw4; clear _t; (with_reducible refine ((unhide H2) _).mono ?_); rintro e w5 ⟨rfl, hbw5⟩; obtain ⟨hcw5, hfw5⟩ := bcell hbw5; have hzw5 := hbw5.size; (try simp at hzw5); (try ((have kw5w0 := (bnew hbw5) (w.heap.size) ?pf); (case pf => (first | omega | (simp; done) | (simp; omega))); obtain ⟨kcw5w0, kfw5w0, klw5w0⟩ := kw5w0)); (try ((have kw5w1 := (bnew hbw5) (w.heap.size + 1) ?pf); (case pf => (first | omega | (simp; done) | (simp; omega))); obtain ⟨kcw5w1, kfw5w1, klw5w1⟩ := kw5w1)); (try ((have kw5wr0 := (bnew hbw5) (wr.heap.size) ?pf); (case pf => (first | omega | (simp; done) | (simp; omega))); obtain ⟨kcw5wr0, kfw5wr0, klw5wr0⟩ := kw5wr0))) | (at_builtin; refine wpList_append_lies _ rfl _ _ _ rfl w3.heap.size 26 i0 _ 2 16 Try.underlying51 hi0 hz0 hz1' hz2' rfl (by omega) u' _ _ rfl (World.ownsRow.alloc (own_below (unhide HOW) ?pb) _) ⟨w5.heap.size, 0, none⟩ 1 1 [.int .i64 f3, .int .i64 f4] rfl rfl (World.news_of_block (cs := #[.int .i64 f3, .int .i64 f4]) (t := 26) (fr := (0, 0)) (heap_alloc_new w5 _)) (by simp [Value.oneCell']) (by omega) (by unfold maxLen; omega) (by omega) ?pc (w5.heap.size + 1) (by simp) ?_; (case pb => exact (by repeat (first | with_reducible exact Below.refl _ _ | with_reducible assumption | (with_reducible refine Below.trans ?_ (Below.mono (by assumption) (by first | omega | (simp <;> omega)))) | with_reducible apply Below.drew | with_reducible apply below_drewN | (with_reducible refine Below.alloc ?_ (by first | omega | (simp <;> omega)) _) | (with_reducible refine Below.setCell ?_ (by first | omega | (simp <;> omega)) _)))); (case pc => (simp; omega)); intro gg cap w6 hown6 hgrow hat hlt6))
                have hb := unhide HB
                rw [← HN.out, ← HL1.out] at hown6
                have hby : Below wr.heap.size wr (w5.alloc (.cells #[.int .i64 f3, .int .i64 f4] 26)) := (by repeat (first | with_reducible exact Below.refl _ _ | with_reducible assumption | (with_reducible refine Below.trans ?_ (Below.mono (by assumption) (by first | omega | (simp <;> omega)))) | with_reducible apply Below.drew | with_reducible apply below_drewN | (with_reducible refine Below.alloc ?_ (by first | omega | (simp <;> omega)) _) | (with_reducible refine Below.setCell ?_ (by first | omega | (simp <;> omega)) _)))
                have hbz : Below w3.heap.size w3 w6 := (hb.trans (hby.mono hb.size)).grown hgrow (by have := hby.size; omega) (unhide HV)
                have hn1 := HL1.out
                have HO6 := hide hown6
                have HBZ := hide hbz
                clear hown6 hby hgrow hb hbz
                go_wp2_with fail
                go_roundw
                case rel => exact ⟨k + 1, _, by go_num, by rw [hn1], by omega, unhide HO6, unhide HBZ⟩
                case measure => simp [intOf]; omega
              · have hz2 : decide (cq (qAt qs k).1 y < 0) = false := decide_eq_false (fun h => hc2 (cq_lt.1 h))
                have hin : innK qs x y (k + 1) = innK qs x y k := by simp only [innK]; rw [if_neg (fun h => hc2 h.2)]; simp
                have HIN := Lib.hid hin
                clear hin hc1 hc2
                generalize (qAt qs k).1.num = f1 at *
                generalize ((qAt qs k).1.den : Int) = f2 at *
                generalize (qAt qs k).2.num = f3 at *
                generalize ((qAt qs k).2.den : Int) = f4 at *
                generalize cq x (qAt qs k).1 = za at *
                generalize cq (qAt qs k).1 y = zb at *
                have H1 := hide hl1; have H2 := hide hl2; clear hl1 hl2
                go_wp2_with (first | (go_at_call 47; (with_reducible refine ((unhide H1) _).mono ?_); rintro e w4 ⟨rfl, hbw4⟩; obtain ⟨hcw4, hfw4⟩ := bcell hbw4; have hzw4 := hbw4.size; (try simp at hzw4); (try ((have kw4w0 := (bnew hbw4) (w.heap.size) ?pf); (case pf => (first | omega | (simp; done) | (simp; omega))); obtain ⟨kcw4w0, kfw4w0, klw4w0⟩ := kw4w0)); (try ((have kw4w1 := (bnew hbw4) (w.heap.size + 1) ?pf); (case pf => (first | omega | (simp; done) | (simp; omega))); obtain ⟨kcw4w1, kfw4w1, klw4w1⟩ := kw4w1)); (try ((have kw4wr0 := (bnew hbw4) (wr.heap.size) ?pf); (case pf => (first | omega | (simp; done) | (simp; omega))); obtain ⟨kcw4wr0, kfw4wr0, klw4wr0⟩ := kw4wr0))) | (go_at_call 47; have _t := hbw4; clear _t; (with_reducible refine ((unhide H2) _).mono ?_); rintro e w5 ⟨rfl, hbw5⟩; obtain ⟨hcw5, hfw5⟩ := bcell hbw5; have hzw5 := hbw5.size; (try simp at hzw5); (try ((have kw5w0 := (bnew hbw5) (w.heap.size) ?pf); (case pf => (first | omega | (simp; done) | (simp; omega))); obtain ⟨kcw5w0, kfw5w0, klw5w0⟩ := kw5w0)); (try ((have kw5w1 := (bnew hbw5) (w.heap.size + 1) ?pf); (case pf => (first | omega | (simp; done) | (simp; omega))); obtain ⟨kcw5w1, kfw5w1, klw5w1⟩ := kw5w1)); (try ((have kw5wr0 := (bnew hbw5) (wr.heap.size) ?pf); (case pf => (first | omega | (simp; done) | (simp; omega))); obtain ⟨kcw5wr0, kfw5wr0, klw5wr0⟩ := kw5wr0))))
                have hb := unhide HB
                have hby : Below wr.heap.size wr w5 := (by repeat (first | with_reducible exact Below.refl _ _ | with_reducible assumption | (with_reducible refine Below.trans ?_ (Below.mono (by assumption) (by first | omega | (simp <;> omega)))) | with_reducible apply Below.drew | with_reducible apply below_drewN | (with_reducible refine Below.alloc ?_ (by first | omega | (simp <;> omega)) _) | (with_reducible refine Below.setCell ?_ (by first | omega | (simp <;> omega)) _)))
                have hbz : Below w3.heap.size w3 w5 := hb.trans (hby.mono hb.size)
                have HO6 := hide (own_below (unhide HOW) hby)
                rw [← HIN.out] at HO6
                have HBZ := hide hbz
                clear hby hb hbz
                go_wp2_with fail
                go_roundw
                case rel => exact ⟨k + 1, _, by go_num, rfl, by omega, unhide HO6, unhide HBZ⟩
                case measure => simp [intOf]; omega
            · have hz1 : decide (cq x (qAt qs k).1 < 0) = false := decide_eq_false (fun h => hc1 (cq_lt.1 h))
              have hin : innK qs x y (k + 1) = innK qs x y k := by simp only [innK]; rw [if_neg (fun h => hc1 h.1)]; simp
              have HIN := Lib.hid hin
              clear hin hc1
              generalize (qAt qs k).1.num = f1 at *
              generalize ((qAt qs k).1.den : Int) = f2 at *
              generalize (qAt qs k).2.num = f3 at *
              generalize ((qAt qs k).2.den : Int) = f4 at *
              generalize cq x (qAt qs k).1 = za at *
              have H1 := hide hl1; clear hl1 hl2
              go_wp2_with (first | (go_at_call 47; (with_reducible refine ((unhide H1) _).mono ?_); rintro e w4 ⟨rfl, hbw4⟩; obtain ⟨hcw4, hfw4⟩ := bcell hbw4; have hzw4 := hbw4.size; (try simp at hzw4); (try ((have kw4w0 := (bnew hbw4) (w.heap.size) ?pf); (case pf => (first | omega | (simp; done) | (simp; omega))); obtain ⟨kcw4w0, kfw4w0, klw4w0⟩ := kw4w0)); (try ((have kw4w1 := (bnew hbw4) (w.heap.size + 1) ?pf); (case pf => (first | omega | (simp; done) | (simp; omega))); obtain ⟨kcw4w1, kfw4w1, klw4w1⟩ := kw4w1)); (try ((have kw4wr0 := (bnew hbw4) (wr.heap.size) ?pf); (case pf => (first | omega | (simp; done) | (simp; omega))); obtain ⟨kcw4wr0, kfw4wr0, klw4wr0⟩ := kw4wr0))))
              have hb := unhide HB
              have hby : Below wr.heap.size wr w4 := (by repeat (first | with_reducible exact Below.refl _ _ | with_reducible assumption | (with_reducible refine Below.trans ?_ (Below.mono (by assumption) (by first | omega | (simp <;> omega)))) | with_reducible apply Below.drew | with_reducible apply below_drewN | (with_reducible refine Below.alloc ?_ (by first | omega | (simp <;> omega)) _) | (with_reducible refine Below.setCell ?_ (by first | omega | (simp <;> omega)) _)))
              have hbz : Below w3.heap.size w3 w4 := hb.trans (hby.mono hb.size)
              have HO6 := hide (own_below (unhide HOW) hby)
              rw [← HIN.out] at HO6
              have HBZ := hide hbz
              clear hby hb hbz
              go_wp2_with fail
              go_roundw
              case rel => exact ⟨k + 1, _, by go_num, rfl, by omega, unhide HO6, unhide HBZ⟩
              case measure => simp [intOf]; omega
          · obtain rfl : k = m + 1 := by omega
            have hf : ∀ z ∈ u :: v :: innK qs x y (m + 1), fits z = true := by
              intro z hz
              rw [List.mem_cons, List.mem_cons] at hz
              rcases hz with rfl | rfl | hz
              · exact huf
              · exact hvf
              · exact innK_fits hg x y (m + 1) (by rw [HQ.out]; omega) z hz
            have hlen2 : 2 + (innK qs x y (m + 1)).length = (v :: innK qs x y (m + 1)).length + 1 := by simp; omega
            have hl100 : (v :: innK qs x y (m + 1)).length ≤ 100 := by have := HQ.out; simp; omega
            have hmin := fun (B : Option Addr) (d : Nat) (W : World) hW => minFunc_n B (2 + (innK qs x y (m + 1)).length) d w3.heap.size u _ W hlen2 hW hl100 hf
            have hmax := fun (B : Option Addr) (d : Nat) (W : World) hW => maxFunc_n B (2 + (innK qs x y (m + 1)).length) d w3.heap.size u _ W hlen2 hW hl100 hf
            clear hf hlen2 hl100 huf hvf hsl HLX HLY
            generalize 2 + (innK qs x y (m + 1)).length = N at *
            obtain ⟨lo, hlo⟩ : ∃ r, r = minR u (v :: innK qs x y (m + 1)) := ⟨_, rfl⟩
            obtain ⟨hi, hhi'⟩ : ∃ r, r = maxR u (v :: innK qs x y (m + 1)) := ⟨_, rfl⟩
            rw [← hlo] at hmin
            rw [← hhi'] at hmax
            have HLO := Lib.hid hlo; have HHI := Lib.hid hhi'
            clear hlo hhi'
            generalize u :: v :: innK qs x y (m + 1) = all at *
            obtain ⟨B, d, rfl⟩ := own_slice hown
            have HMI := hide hmin; have HMA := hide hmax
            have HOW := hide hown
            have HB := hide hbwr
            clear hown hbwr hmin hmax x0' x1' y0' y1'
            go_wp2_with (first
              | (go_at_call 48; (refine ((unhide HMI) B d _ (unhide HOW)).mono ?_); rintro e w4 ⟨rfl, hbw4⟩; (skip; (try ((have kw4w0 := (bnew hbw4) (w.heap.size) ?pf); (case pf => (first | omega | (simp; done) | (simp; omega))); obtain ⟨kcw4w0, kfw4w0, klw4w0⟩ := kw4w0)); (try ((have kw4w1 := (bnew hbw4) (w.heap.size + 1) ?pf); (case pf => (first | omega | (simp; done) | (simp; omega))); obtain ⟨kcw4w1, kfw4w1, klw4w1⟩ := kw4w1)); (try ((have kw4w2 := (bnew hbw4) (w.heap.size + 1 + 1) ?pf); (case pf => (first | omega | (simp; done) | (simp; omega))); obtain ⟨kcw4w2, kfw4w2, klw4w2⟩ := kw4w2)); (try ((have kw4w3 := (bnew hbw4) (w.heap.size + 1 + 1 + 1) ?pf); (case pf => (first | omega | (simp; done) | (simp; omega))); obtain ⟨kcw4w3, kfw4w3, klw4w3⟩ := kw4w3))))
              | (go_at_call 49; (refine ((unhide HMA) B d _ (own_below (unhide HOW) hbw4)).mono ?_); rintro e w5 ⟨rfl, hbw5⟩; (skip; (try ((have kw5w0 := (bnew hbw5) (w.heap.size) ?pf); (case pf => (first | omega | (simp; done) | (simp; omega))); obtain ⟨kcw5w0, kfw5w0, klw5w0⟩ := kw5w0)); (try ((have kw5w1 := (bnew hbw5) (w.heap.size + 1) ?pf); (case pf => (first | omega | (simp; done) | (simp; omega))); obtain ⟨kcw5w1, kfw5w1, klw5w1⟩ := kw5w1)); (try ((have kw5w2 := (bnew hbw5) (w.heap.size + 1 + 1) ?pf); (case pf => (first | omega | (simp; done) | (simp; omega))); obtain ⟨kcw5w2, kfw5w2, klw5w2⟩ := kw5w2)); (try ((have kw5w3 := (bnew hbw5) (w.heap.size + 1 + 1 + 1) ?pf); (case pf => (first | omega | (simp; done) | (simp; omega))); obtain ⟨kcw5w3, kfw5w3, klw5w3⟩ := kw5w3)))))
            have hbA := unhide HBA
            have hb := unhide HB
            have hz4 := hbw4.size
            exact bodyPost_ret (v := .tuple #[.agg #[.int .i64 (lo.num), .int .i64 (lo.den)], .agg #[.int .i64 (hi.num), .int .i64 (hi.den)], .bool true]) (by simp [results, Try.results12, go_sem, *]) rfl ⟨by rw [HLO.out, HHI.out], (by repeat (first | with_reducible exact Below.refl _ _ | with_reducible assumption | (with_reducible refine Below.trans ?_ (Below.mono (by assumption) (by first | omega | (simp <;> omega)))) | with_reducible apply Below.drew | with_reducible apply below_drewN | (with_reducible refine Below.alloc ?_ (by first | omega | (simp <;> omega)) _) | (with_reducible refine Below.setCell ?_ (by first | omega | (simp <;> omega)) _)))⟩
      · have e : imgO ps x.num x.den y.num y.den = none := by unfold imgO; rw [hU, hV]; simp only [hcq, if_neg hle]
        rw [e, imgV_none]
        have hz : decide (0 < cq x y) = true := decide_eq_true (by omega)
        clear hcq e hU hV hua hub hx0 hx1 hy0 hy1 hxf hyf hle
        generalize cq x y = z at *
        generalize x.num = xn at *
        generalize (x.den : Int) = xd at *
        generalize y.num = yn at *
        generalize (y.den : Int) = yd at *
        have HVA := hide hva; have HVB := hide hvb; have HO := hide hord; clear hva hvb hord
        have HA := hide ha; clear ha
        go_enter Try.func12, Try.ntmps12
        go_wp2_with (first | (go_at_call 47; (with_reducible refine ((unhide HO) _).mono ?_); rintro e w3 ⟨rfl, hbw3⟩; obtain ⟨hcw3, hfw3⟩ := bcell hbw3; have hzw3 := hbw3.size; (try simp at hzw3); (try ((have kw3w0 := (bnew hbw3) (w.heap.size) ?pf); (case pf => (first | omega | (simp; done) | (simp; omega))); obtain ⟨kcw3w0, kfw3w0, klw3w0⟩ := kw3w0)); (try ((have kw3w1 := (bnew hbw3) (w.heap.size + 1) ?pf); (case pf => (first | omega | (simp; done) | (simp; omega))); obtain ⟨kcw3w1, kfw3w1, klw3w1⟩ := kw3w1)); (try ((have kw3w2 := (bnew hbw3) (w.heap.size + 1 + 1) ?pf); (case pf => (first | omega | (simp; done) | (simp; omega))); obtain ⟨kcw3w2, kfw3w2, klw3w2⟩ := kw3w2)); (try ((have kw3w3 := (bnew hbw3) (w.heap.size + 1 + 1 + 1) ?pf); (case pf => (first | omega | (simp; done) | (simp; omega))); obtain ⟨kcw3w3, kfw3w3, klw3w3⟩ := kw3w3))) | (go_at_call 43; first | (have _t := hbw1; clear _t; (refine ((unhide HVB) _ (own_below (unhide HA) ?pb)).mono ?_); (case pb => exact (by repeat (first | with_reducible exact Below.refl _ _ | with_reducible assumption | (with_reducible refine Below.trans ?_ (Below.mono (by assumption) (by first | omega | (simp <;> omega)))) | with_reducible apply Below.drew | with_reducible apply below_drewN | (with_reducible refine Below.alloc ?_ (by first | omega | (simp <;> omega)) _) | (with_reducible refine Below.setCell ?_ (by first | omega | (simp <;> omega)) _)))); rintro e w2 ⟨rfl, hbw2⟩; (skip; (try ((have kw2w0 := (bnew hbw2) (w.heap.size) ?pf); (case pf => (first | omega | (simp; done) | (simp; omega))); obtain ⟨kcw2w0, kfw2w0, klw2w0⟩ := kw2w0)); (try ((have kw2w1 := (bnew hbw2) (w.heap.size + 1) ?pf); (case pf => (first | omega | (simp; done) | (simp; omega))); obtain ⟨kcw2w1, kfw2w1, klw2w1⟩ := kw2w1)); (try ((have kw2w2 := (bnew hbw2) (w.heap.size + 1 + 1) ?pf); (case pf => (first | omega | (simp; done) | (simp; omega))); obtain ⟨kcw2w2, kfw2w2, klw2w2⟩ := kw2w2)); (try ((have kw2w3 := (bnew hbw2) (w.heap.size + 1 + 1 + 1) ?pf); (case pf => (first | omega | (simp; done) | (simp; omega))); obtain ⟨kcw2w3, kfw2w3, klw2w3⟩ := kw2w3)); (try ((have kw2w10 := (bnew hbw2) (w1.heap.size) ?pf); (case pf => (first | omega | (simp; done) | (simp; omega))); obtain ⟨kcw2w10, kfw2w10, klw2w10⟩ := kw2w10)))) | ((refine ((unhide HVA) _ (own_below (unhide HA) ?pb)).mono ?_); (case pb => exact (by repeat (first | with_reducible exact Below.refl _ _ | with_reducible assumption | (with_reducible refine Below.trans ?_ (Below.mono (by assumption) (by first | omega | (simp <;> omega)))) | with_reducible apply Below.drew | with_reducible apply below_drewN | (with_reducible refine Below.alloc ?_ (by first | omega | (simp <;> omega)) _) | (with_reducible refine Below.setCell ?_ (by first | omega | (simp <;> omega)) _)))); rintro e w1 ⟨rfl, hbw1⟩; (skip; (try ((have kw1w0 := (bnew hbw1) (w.heap.size) ?pf); (case pf => (first | omega | (simp; done) | (simp; omega))); obtain ⟨kcw1w0, kfw1w0, klw1w0⟩ := kw1w0)); (try ((have kw1w1 := (bnew hbw1) (w.heap.size + 1) ?pf); (case pf => (first | omega | (simp; done) | (simp; omega))); obtain ⟨kcw1w1, kfw1w1, klw1w1⟩ := kw1w1)); (try ((have kw1w2 := (bnew hbw1) (w.heap.size + 1 + 1) ?pf); (case pf => (first | omega | (simp; done) | (simp; omega))); obtain ⟨kcw1w2, kfw1w2, klw1w2⟩ := kw1w2)); (try ((have kw1w3 := (bnew hbw1) (w.heap.size + 1 + 1 + 1) ?pf); (case pf => (first | omega | (simp; done) | (simp; omega))); obtain ⟨kcw1w3, kfw1w3, klw1w3⟩ := kw1w3))); have hz1 := hbw1.size; simp at hz1)))
        exact bodyPost_ret (v := .tuple #[.agg #[.int .i64 (0), .int .i64 (0)], .agg #[.int .i64 (0), .int .i64 (0)], .bool false]) (by simp [results, Try.results12, go_sem, *]) rfl ⟨rfl, (by repeat (first | with_reducible exact Below.refl _ _ | with_reducible assumption | (with_reducible refine Below.trans ?_ (Below.mono (by assumption) (by first | omega | (simp <;> omega)))) | with_reducible apply Below.drew | with_reducible apply below_drewN | (with_reducible refine Below.alloc ?_ (by first | omega | (simp <;> omega)) _) | (with_reducible refine Below.setCell ?_ (by first | omega | (simp <;> omega)) _)))⟩
end Go.Proofs.Ytmkejopkmdcfeab

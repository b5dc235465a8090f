/-
  Chapter 8: lines of words of pieces: mathematics, and the line of the model.
-/
import Derived.Test.YthccdooacbablaaWh
import Derived.Deep.DeepCutAuto
namespace Go.Proofs.Ythccdooacbablaa
open Go.RowKit Rm

/-- Y - s X of the piece from p to q. -/
def startO (p q : QP) : Option Rat := osub (some p.2) (omul (some (slopeR p q)) (some p.1))
/-- A line put into that of a piece. -/
def putO (p q : QP) (l : Rat × Rat) : Option (Rat × Rat) :=
  (omul (some (slopeR p q)) (some l.1)).bind fun m => (oadd (omul (some (slopeR p q)) (some l.2)) (startO p q)).map fun b => (m, b)
/-- The line of the first j pieces of a word. -/
def lineK (qs : List QP) (r : List Int) : Nat → Option (Rat × Rat)
  | 0 => some (1, 0)
  | j + 1 => (lineK qs r j).bind (putO (qAt qs (r.getD j 0).toNat) (qAt qs ((r.getD j 0).toNat + 1)))
def mO (l : Option (Rat × Rat)) : Option Rat := l.map (·.1)
def bO (l : Option (Rat × Rat)) : Option Rat := l.map (·.2)
theorem lineK_up {qs : List QP} {r : List Int} {k : Nat} (h : lineK qs r k = none) : ∀ m, k ≤ m → lineK qs r m = none
  | 0, hm => by obtain rfl : k = 0 := by omega
                exact h
  | m + 1, hm => by
    rcases Nat.lt_or_eq_of_le hm with h1 | h1
    · show (lineK qs r m).bind _ = none
      rw [lineK_up h m (by omega)]; rfl
    · rw [← h1]; exact h
theorem lineK_step {qs : List QP} {r : List Int} {k : Nat} {l : Rat × Rat} {p q : QP} (h : lineK qs r k = some l) (hp : qAt qs (r.getD k 0).toNat = p) (hq : qAt qs ((r.getD k 0).toNat + 1) = q) : lineK qs r (k + 1) = putO p q l := by
  show (lineK qs r k).bind _ = _
  rw [h, hp, hq]; rfl
theorem keep_is {a r : Rat} (h : keep a = some r) : fits r = true := isR_keep a r h
theorem omul_is {x y : Option Rat} {r : Rat} (h : omul x y = some r) : fits r = true := isR_omul x y r h
theorem oadd_is {x y : Option Rat} {r : Rat} (h : oadd x y = some r) : fits r = true := isR_oadd x y r h
theorem osub_is {x y : Option Rat} {r : Rat} (h : osub x y = some r) : fits r = true := isR_osub x y r h
theorem lineK_fits {qs : List QP} {r : List Int} : ∀ {k : Nat} {l : Rat × Rat}, lineK qs r k = some l → fits l.1 = true ∧ fits l.2 = true
  | 0, l, h => by
    obtain rfl : ((1 : Rat), (0 : Rat)) = l := Option.some.inj h
    exact ⟨rfl, rfl⟩
  | k + 1, l, h => by
    have h' : (lineK qs r k).bind (putO (qAt qs (r.getD k 0).toNat) (qAt qs ((r.getD k 0).toNat + 1))) = some l := h
    cases h1 : lineK qs r k with
    | none => rw [h1] at h'; cases h'
    | some l0 =>
      rw [h1, Option.bind_some] at h'
      unfold putO at h'
      cases h2 : omul (some (slopeR (qAt qs (r.getD k 0).toNat) (qAt qs ((r.getD k 0).toNat + 1)))) (some l0.1) with
      | none => rw [h2] at h'; cases h'
      | some m =>
        rw [h2, Option.bind_some] at h'
        cases h3 : oadd (omul (some (slopeR (qAt qs (r.getD k 0).toNat) (qAt qs ((r.getD k 0).toNat + 1)))) (some l0.2)) (startO (qAt qs (r.getD k 0).toNat) (qAt qs ((r.getD k 0).toNat + 1))) with
        | none => rw [h3] at h'; cases h'
        | some b =>
          rw [h3] at h'
          obtain rfl : (m, b) = l := Option.some.inj h'
          exact ⟨omul_is h2, oadd_is h3⟩
/-- A word of pieces of a map of n points. -/
def pwB (n : Nat) (r : List Int) : Bool := decide (1 ≤ r.length ∧ r.length ≤ 8) && r.all fun k => decide (0 ≤ k ∧ k ≤ (n : Int) - 2)
theorem pwB_yes {n : Nat} {r : List Int} : pwB n r = true ↔ (1 ≤ r.length ∧ r.length ≤ 8) ∧ ∀ k ∈ r, 0 ≤ k ∧ k ≤ (n : Int) - 2 := by
  unfold pwB; simp [List.all_eq_true]
/-- A map and a word of its pieces. -/
def peB (ps : List Pt) (r : List Int) : Bool := mapB ps && pwB ps.length r
def lnO (ps : List Pt) (r : List Int) : Option (Rat × Rat) := match peB ps r with | true => lineK (dec ps) r r.length | false => none
theorem lnO_no {ps : List Pt} {r : List Int} (h : peB ps r = false) : lnO ps r = none := by unfold lnO; rw [h]
theorem lnO_yes {qs : List QP} {r : List Int} (h : peB (qs.map qp) r = true) : lnO (qs.map qp) r = lineK qs r r.length := by unfold lnO; rw [h, dec_qp]
theorem mem_getD {r : List Int} {j : Nat} (h : j < r.length) : r.getD j 0 ∈ r := by
  rw [List.getD_eq_getElem?_getD, List.getElem?_eq_getElem h]; exact List.getElem_mem h

set_option maxRecDepth 100000 in
set_option maxHeartbeats 6400000 in
theorem peLine_q (g n c base gw m cw : Nat) (qs : List QP) (r : List Int) (w : World) (ha : w.ownsRow base 62 4 (.slice (some ⟨g, 0, none⟩) n c) n (ptcs (qs.map qp))) (hg : GMap qs)
    (hw : WCells w gw m r) (hm : m ≤ 1048576) (hl : r.length = m) (hr : ∀ k ∈ r, 0 ≤ k ∧ k ≤ (n : Int) - 2) :
    Calls Try.prog 45 #[.slice (some ⟨g, 0, none⟩) n c, .slice (some ⟨gw, 0, none⟩) m cw] w fun e w' =>
      e = .returned (.tuple #[.agg #[.int .i64 (oN (mO (lineK qs r m))), .int .i64 (oD (mO (lineK qs r m)))], .agg #[.int .i64 (oN (bO (lineK qs r m))), .int .i64 (oD (bO (lineK qs r m)))], .bool (lineK qs r m).isSome]) ∧ Below w.heap.size w w' := by
  have hlen : qs.length = n := by have := own_len ha; rw [List.length_map] at this; exact this
  have hlo := hg.lo
  have hhi := hg.hi
  rw [hlen] at hlo hhi
  have hgl := (ha.lt g rfl).2
  have HA := hide ha; have HW := hide hw; have HL := Lib.hid hl; have HR := hide hr; have HG := Lib.hid hg; have HLN := Lib.hid hlen
  clear ha hw hl hr hg hlen
  go_enter Try.func45, Try.ntmps45
  go_wp2_with (first
    | (go_at_call 83; (with_reducible refine (raInt_any 1 _).mono ?_); rintro e w1 ⟨rfl, hbw1⟩; have hs1 := hbw1.size; (skip; (try ((have kw1w0 := (bnew hbw1) (w.heap.size) ?pf); (case pf => (first | omega | (simp; done) | (simp; omega))); obtain ⟨kcw1w0, kfw1w0, klw1w0⟩ := kw1w0)); (try ((have kw1w1 := (bnew hbw1) (w.heap.size + 1) ?pf); (case pf => (first | omega | (simp; done) | (simp; omega))); obtain ⟨kcw1w1, kfw1w1, klw1w1⟩ := kw1w1))))
    | (go_at_call 83; (with_reducible refine (raInt_any 0 _).mono ?_); rintro e w2 ⟨rfl, hbw2⟩; have hs2 := hbw2.size; (skip; (try ((have kw2w0 := (bnew hbw2) (w.heap.size) ?pf); (case pf => (first | omega | (simp; done) | (simp; omega))); obtain ⟨kcw2w0, kfw2w0, klw2w0⟩ := kw2w0)); (try ((have kw2w1 := (bnew hbw2) (w.heap.size + 1) ?pf); (case pf => (first | omega | (simp; done) | (simp; omega))); obtain ⟨kcw2w1, kfw2w1, klw2w1⟩ := kw2w1)))))
  have r0 : w2.cell? ⟨w.heap.size, 0, none⟩ = some (.int .i64 0) := by rw [kcw2w0, kcw1w0]; simp [go_sem]
  have r1 : w2.cell? ⟨w.heap.size, 1, none⟩ = some (.int .i64 0) := by rw [kcw2w0, kcw1w0]; simp [go_sem]
  have r2 : w2.cell? ⟨w.heap.size + 1, 0, none⟩ = some (.int .i64 0) := by rw [kcw2w1, kcw1w1]; simp [go_sem]
  have r3 : w2.cell? ⟨w.heap.size + 1, 1, none⟩ = some (.int .i64 0) := by rw [kcw2w1, kcw1w1]; simp [go_sem]
  have rf : ∀ o, w2.frozen? ⟨w.heap.size, o, none⟩ = false := fun o => by rw [kfw2w0, kfw1w0]; simp [go_sem]
  have rg : ∀ o, w2.frozen? ⟨w.heap.size + 1, o, none⟩ = false := fun o => by rw [kfw2w1, kfw1w1]; simp [go_sem]
  have hMw : w.heap.size + 1 < w2.heap.size := klw2w1
  have hb0 : Below w.heap.size w ((w2.alloc (.cells #[.int .i64 1, .int .i64 1] 26)).alloc (.cells #[.int .i64 0, .int .i64 1] 26)) := (by repeat (first | with_reducible exact Below.refl _ _ | with_reducible assumption | (with_reducible refine Below.trans ?_ (Below.mono (by assumption) (by first | omega | (simp <;> omega)))) | with_reducible apply Below.drew | with_reducible apply below_drewN | (with_reducible refine Below.alloc ?_ (by first | omega | (simp <;> omega)) _) | (with_reducible refine Below.setCell ?_ (by first | omega | (simp <;> omega)) _)))
  have hbA : Below w2.heap.size w2 ((w2.alloc (.cells #[.int .i64 1, .int .i64 1] 26)).alloc (.cells #[.int .i64 0, .int .i64 1] 26)) := (by repeat (first | with_reducible exact Below.refl _ _ | with_reducible assumption | (with_reducible refine Below.trans ?_ (Below.mono (by assumption) (by first | omega | (simp <;> omega)))) | with_reducible apply Below.drew | with_reducible apply below_drewN | (with_reducible refine Below.alloc ?_ (by first | omega | (simp <;> omega)) _) | (with_reducible refine Below.setCell ?_ (by first | omega | (simp <;> omega)) _)))
  have m0 : ((w2.alloc (.cells #[.int .i64 1, .int .i64 1] 26)).alloc (.cells #[.int .i64 0, .int .i64 1] 26)).cell? ⟨w2.heap.size, 0, none⟩ = some (.int .i64 (1 : Rat).num) := by simp [go_sem]
  have m1 : ((w2.alloc (.cells #[.int .i64 1, .int .i64 1] 26)).alloc (.cells #[.int .i64 0, .int .i64 1] 26)).cell? ⟨w2.heap.size, 1, none⟩ = some (.int .i64 ((1 : Rat).den : Int)) := by simp [go_sem]
  have m2 : ((w2.alloc (.cells #[.int .i64 1, .int .i64 1] 26)).alloc (.cells #[.int .i64 0, .int .i64 1] 26)).cell? ⟨w2.heap.size + 1, 0, none⟩ = some (.int .i64 (0 : Rat).num) := by simp [go_sem]
  have m3 : ((w2.alloc (.cells #[.int .i64 1, .int .i64 1] 26)).alloc (.cells #[.int .i64 0, .int .i64 1] 26)).cell? ⟨w2.heap.size + 1, 1, none⟩ = some (.int .i64 ((0 : Rat).den : Int)) := by simp [go_sem]
  have mf : ∀ o, ((w2.alloc (.cells #[.int .i64 1, .int .i64 1] 26)).alloc (.cells #[.int .i64 0, .int .i64 1] 26)).frozen? ⟨w2.heap.size, o, none⟩ = false := by intro o; simp [go_sem]
  have mg : ∀ o, ((w2.alloc (.cells #[.int .i64 1, .int .i64 1] 26)).alloc (.cells #[.int .i64 0, .int .i64 1] 26)).frozen? ⟨w2.heap.size + 1, o, none⟩ = false := by intro o; simp [go_sem]
  have hMq : w2.heap.size + 1 < ((w2.alloc (.cells #[.int .i64 1, .int .i64 1] 26)).alloc (.cells #[.int .i64 0, .int .i64 1] 26)).heap.size := by simp
  have HAq := hide (own_below (unhide HA) hb0)
  have HWq := hide ((unhide HW).below hb0)
  replace r0 := (hbA.cell (p := ⟨w.heap.size, 0, none⟩) (by show w.heap.size < _; omega)).trans r0
  replace r1 := (hbA.cell (p := ⟨w.heap.size, 1, none⟩) (by show w.heap.size < _; omega)).trans r1
  replace r2 := (hbA.cell (p := ⟨w.heap.size + 1, 0, none⟩) hMw).trans r2
  replace r3 := (hbA.cell (p := ⟨w.heap.size + 1, 1, none⟩) hMw).trans r3
  replace rf := fun o => (hbA.frozen (p := ⟨w.heap.size, o, none⟩) (by show w.heap.size < _; omega)).trans (rf o)
  replace rg := fun o => (hbA.frozen (p := ⟨w.heap.size + 1, o, none⟩) hMw).trans (rg o)
  have HBQ := hide hb0
  have hgM : g < w2.heap.size := by omega
  have hwM := (unhide HW).lt
  have hwM2 : gw < w2.heap.size := by omega
  clear kcw1w0 kcw1w1 kfw1w0 kfw1w1 kcw2w0 kcw2w1 kfw2w0 kfw2w1 hbw1 hbw2 hs1 hs2 klw1w0 klw1w1 klw2w0 klw2w1 hb0 hbA HA HW
  generalize ((w2.alloc (.cells #[.int .i64 1, .int .i64 1] 26)).alloc (.cells #[.int .i64 0, .int .i64 1] 26)) = wq at *
  generalize w2.heap.size = M at *
  go_loopw [26] (fun i wr => ∃ (j : Nat) (cm cb : Rat), i = .int .i64 j ∧ j ≤ m ∧ Hid (lineK qs r j = some (cm, cb)) ∧ wr.cell? ⟨M, 0, none⟩ = some (.int .i64 cm.num) ∧ wr.cell? ⟨M, 1, none⟩ = some (.int .i64 cm.den) ∧
    wr.cell? ⟨M + 1, 0, none⟩ = some (.int .i64 cb.num) ∧ wr.cell? ⟨M + 1, 1, none⟩ = some (.int .i64 cb.den) ∧ (∀ o, wr.frozen? ⟨M, o, none⟩ = false) ∧ (∀ o, wr.frozen? ⟨M + 1, o, none⟩ = false) ∧ M + 1 < wr.heap.size ∧ Below M wq wr) (fun i _ => m - (intOf i).toNat)
  case atStart => exact ⟨0, 1, 0, rfl, by omega, hide rfl, m0, m1, m2, m3, mf, mg, hMq, Below.refl _ _⟩
  case round =>
    obtain ⟨j, cm, cb, rfl, hj, HP, c0, c1, c2, c3, cf, cg, hMr, hbr⟩ := hrel
    have q0 := (hbr.cell (p := ⟨w.heap.size, 0, none⟩) (by show w.heap.size < _; omega)).trans r0
    have q1 := (hbr.cell (p := ⟨w.heap.size, 1, none⟩) (by show w.heap.size < _; omega)).trans r1
    have q2 := (hbr.cell (p := ⟨w.heap.size + 1, 0, none⟩) hMw).trans r2
    have q3 := (hbr.cell (p := ⟨w.heap.size + 1, 1, none⟩) hMw).trans r3
    have qf := fun o => (hbr.frozen (p := ⟨w.heap.size, o, none⟩) (by show w.heap.size < _; omega)).trans (rf o)
    have qg := fun o => (hbr.frozen (p := ⟨w.heap.size + 1, o, none⟩) hMw).trans (rg o)
    have hbW := (unhide HBQ).trans (hbr.mono (by omega))
    have HBW := hide hbW
    clear m0 m1 m2 m3 r0 r1 r2 r3 rf rg mf mg hMq
    by_cases hlt : j < m
    · -- ROUND
      have hjr : j < r.length := by rw [HL.out]; exact hlt
      have hc0 := (hbr.cell (p := ⟨gw, j, none⟩) hwM2).trans ((unhide HWq).cel j hlt)
      obtain ⟨hk0, hk1⟩ := (unhide HR) _ (mem_getD hjr)
      obtain ⟨k, hk⟩ : ∃ k : Nat, r.getD j 0 = (k : Int) := ⟨(r.getD j 0).toNat, by omega⟩
      rw [hk] at hc0 hk1
      have hkn : k + 1 < n := by omega
      have hkl : k + 1 < qs.length := by rw [HLN.out]; exact hkn
      obtain ⟨f0, f1, f2, f3⟩ := q_cells (unhide HAq) (k := k) (by omega)
      obtain ⟨e0, e1, e2, e3⟩ := q_cells (unhide HAq) (k := k + 1) hkn
      replace f0 := (hbr.cell (p := ⟨g, k * 4, none⟩) hgM).trans f0
      replace f1 := (hbr.cell (p := ⟨g, k * 4 + 1, none⟩) hgM).trans f1
      replace f2 := (hbr.cell (p := ⟨g, k * 4 + 2, none⟩) hgM).trans f2
      replace f3 := (hbr.cell (p := ⟨g, k * 4 + 3, none⟩) hgM).trans f3
      replace e0 := (hbr.cell (p := ⟨g, (k + 1) * 4, none⟩) hgM).trans e0
      replace e1 := (hbr.cell (p := ⟨g, (k + 1) * 4 + 1, none⟩) hgM).trans e1
      replace e2 := (hbr.cell (p := ⟨g, (k + 1) * 4 + 2, none⟩) hgM).trans e2
      replace e3 := (hbr.cell (p := ⟨g, (k + 1) * 4 + 3, none⟩) hgM).trans e3
      have hg := HG.out
      have hx := co_fits (hg.cx k (by omega)); have hy := co_fits (hg.cy k (by omega))
      have hsf := slope_fits (hg.cx k (by omega)) (hg.cy k (by omega)) (hg.cx _ hkl) (hg.cy _ hkl) (hg.inc k hkl)
      have hsl := fun W => imSlope_q (qAt qs k) (qAt qs (k + 1)) (hg.cx _ (by omega)) (hg.cy _ (by omega)) (hg.cx _ hkl) (hg.cy _ hkl) (hg.inc k hkl) W
      have hst := lineK_step (unhide HP) (p := qAt qs k) (q := qAt qs (k + 1)) (by rw [hk]; rfl) (by rw [hk]; rfl)
      obtain ⟨hcmf, hcbf⟩ := lineK_fits (unhide HP)
      obtain ⟨p, hp⟩ : ∃ p, p = qAt qs k := ⟨_, rfl⟩
      obtain ⟨q, hq⟩ : ∃ q, q = qAt qs (k + 1) := ⟨_, rfl⟩
      rw [← hp, ← hq] at hst hsl hsf; rw [← hp] at hx hy f0 f1 f2 f3; rw [← hq] at e0 e1 e2 e3
      clear hp hq hg hk0
      obtain ⟨s, hs⟩ : ∃ s, s = slopeR p q := ⟨_, rfl⟩
      rw [← hs] at hsl hsf
      have h1 := fun W => raMul_o (some s) (some p.1) (isR_some hsf) (isR_some hx) W
      have h2 := fun W => raMul_o (some s) (some cm) (isR_some hsf) (isR_some hcmf) W
      have h3 := fun W => raMul_o (some s) (some cb) (isR_some hsf) (isR_some hcbf) W
      have h4 := fun W => raSub_o (some p.2) (omul (some s) (some p.1)) (isR_some hy) (isR_omul _ _) W
      have h5 := fun W => raAdd_o (omul (some s) (some cb)) (osub (some p.2) (omul (some s) (some p.1))) (isR_omul _ _) (isR_osub _ _) W
      unfold putO startO at hst; rw [← hs] at hst; clear hs
      generalize hB : omul (some s) (some p.1) = back at *
      generalize hN : omul (some s) (some cm) = next at *
      generalize hPt : omul (some s) (some cb) = part at *
      generalize hO : osub (some p.2) back = over at *
      generalize hSm : oadd part over = sum at *
      have hfail : (back.isSome = false ∨ next.isSome = false ∨ part.isSome = false ∨ over.isSome = false ∨ sum.isSome = false) → lineK qs r m = none := fun h => by
        refine lineK_up (k := j + 1) ?_ m (by omega)
        rw [hst]
        have ho : over.isSome = false → sum = none := fun h => by have e := none_of h; rw [← hSm, e]; cases part <;> rfl
        have hb : back.isSome = false → over = none := fun h => by have e := none_of h; rw [← hO, e]; rfl
        have hn : next = none ∨ sum = none := by
          rcases h with h | h | h | h | h
          · exact .inr (ho (by rw [hb h]; rfl))
          · exact .inl (none_of h)
          · have e := none_of h; right; rw [← hSm, e]; rfl
          · exact .inr (ho h)
          · exact .inr (none_of h)
        rcases hn with e | e
        · rw [e]; rfl
        · rw [e]; cases next <;> rfl
      have hgood : next.isSome = true → sum.isSome = true → ∃ nm nb : Rat, nm.num = oN next ∧ (nm.den : Int) = oD next ∧ nb.num = oN sum ∧ (nb.den : Int) = oD sum ∧ lineK qs r (j + 1) = some (nm, nb) := fun ha hb => by
        rcases next with _ | nm
        · cases ha
        · rcases sum with _ | nb
          · cases hb
          · exact ⟨nm, nb, rfl, rfl, rfl, rfl, by rw [hst]; rfl⟩
      clear hB hN hPt hO hSm hst
      simp only [oN_some, oD_some] at h1 h2 h3 h4 h5
      generalize oN back = n1 at *; generalize oD back = d1 at *; generalize back.isSome = z1 at *; clear back
      generalize oN next = n2 at *; generalize oD next = d2 at *; generalize next.isSome = z2 at *; clear next
      generalize oN part = n3 at *; generalize oD part = d3 at *; generalize part.isSome = z3 at *; clear part
      generalize oN over = n4 at *; generalize oD over = d4 at *; generalize over.isSome = z4 at *; clear over
      generalize oN sum = n5 at *; generalize oD sum = d5 at *; generalize sum.isSome = z5 at *; clear sum
      have HF := hide hfail; have HGD := hide hgood; have H1 := hide h1; have H2 := hide h2; have H3 := hide h3; have H4 := hide h4; have H5 := hide h5; have HS := hide hsl
      clear hfail hgood h1 h2 h3 h4 h5 hsl hsf hx hy hcmf hcbf HP
      generalize p.1.num = x1 at *
      generalize (p.1.den : Int) = x2 at *
      generalize p.2.num = y1 at *
      generalize (p.2.den : Int) = y2 at *
      generalize q.1.num = x3 at *
      generalize (q.1.den : Int) = x4 at *
      generalize q.2.num = y3 at *
      generalize (q.2.den : Int) = y4 at *
      generalize s.num = s1 at *
      generalize (s.den : Int) = s2 at *
      generalize cm.num = a1 at *
      generalize (cm.den : Int) = a2 at *
      generalize cb.num = b1 at *
      generalize (cb.den : Int) = b2 at *
      have t1 : (0 : Int) ≤ (k : Int) := by omega
      have t2 : (k : Int) < (n : Int) := by omega
      have t3 : IntKind.i64.wrap ((k : Int) + 1) = (k : Int) + 1 := IntWalk.i64_in _ (by omega)
      have t4 : (0 : Int) ≤ (k : Int) + 1 := by omega
      have t5 : (k : Int) + 1 < (n : Int) := by omega
      have t6 : ((k : Int) + 1).toNat = k + 1 := by omega
      have lR0 : w.heap.size < wr.heap.size := by omega
      have lR1 : w.heap.size + 1 < wr.heap.size := by omega
      have lM : M < wr.heap.size := by omega
      have lN : M + 1 < wr.heap.size := hMr
      have lg : g < wr.heap.size := by omega
      have lgw : gw < wr.heap.size := by omega
      have HBR := hide hbr; clear hbr hbW
      go_upto_region 5 with fail
      go_cut [11] (fun s11 wx => ∃ D : Nat, s11 = .pointer (some ⟨D, 0, none⟩) ∧ Box2 wr wx D s1 s2)
      case first =>
        go_region_held3 (fun w' => (w'.cell? ⟨g, k * 4, none⟩ = some (.int .i64 x1) ∧ w'.cell? ⟨g, k * 4 + 1, none⟩ = some (.int .i64 x2) ∧ w'.cell? ⟨g, k * 4 + 2, none⟩ = some (.int .i64 y1) ∧ w'.cell? ⟨g, k * 4 + 3, none⟩ = some (.int .i64 y2)) ∧ (w'.cell? ⟨g, (k + 1) * 4, none⟩ = some (.int .i64 x3) ∧ w'.cell? ⟨g, (k + 1) * 4 + 1, none⟩ = some (.int .i64 x4) ∧ w'.cell? ⟨g, (k + 1) * 4 + 2, none⟩ = some (.int .i64 y3) ∧ w'.cell? ⟨g, (k + 1) * 4 + 3, none⟩ = some (.int .i64 y4))) (simp [go_sem, World.cell?_alloc_past, *])
          ((go_at_call 84; (with_reducible refine ((unhide HS) _).mono ?_); rintro e w3 ⟨rfl, hbw3⟩; obtain ⟨hcw3, hfw3⟩ := bcell hbw3; have hzw3 := hbw3.size; (try simp at hzw3); (try ((have kw3gX0 := (bnew hbw3) (g) ?pf); (case pf => (first | omega | (simp; done) | (simp; omega))); obtain ⟨kcw3gX0, kfw3gX0, klw3gX0⟩ := kw3gX0)); (try ((have kw3wr0 := (bnew hbw3) (wr.heap.size) ?pf); (case pf => (first | omega | (simp; done) | (simp; omega))); obtain ⟨kcw3wr0, kfw3wr0, klw3wr0⟩ := kw3wr0))))
        all_goals
          go_wp2_with fail
          go_meet
          refine ⟨_, rfl, ⟨(by repeat (first | with_reducible exact Below.refl _ _ | with_reducible assumption | (with_reducible refine Below.trans ?_ (Below.mono (by assumption) (by first | omega | (simp <;> omega)))) | with_reducible apply Below.drew | with_reducible apply below_drewN | (with_reducible refine Below.alloc ?_ (by first | omega | (simp <;> omega)) _) | (with_reducible refine Below.setCell ?_ (by first | omega | (simp <;> omega)) _))), ?_, ?_, ?_, ?_, ?_, ?_⟩⟩
        all_goals first | (go_simp; done) | (simp [go_sem, *]; done) | omega | (simp; omega)
      case rest =>
      obtain ⟨D, rfl, hB⟩ := hcut
      have hbc := hB.below; have D0 := hB.c0; have D1 := hB.c1; have lD := hB.hi; have hDlo := hB.lo
      replace q0 := (hbc.cell (p := ⟨w.heap.size, 0, none⟩) lR0).trans q0
      replace q1 := (hbc.cell (p := ⟨w.heap.size, 1, none⟩) lR0).trans q1
      replace q2 := (hbc.cell (p := ⟨w.heap.size + 1, 0, none⟩) lR1).trans q2
      replace q3 := (hbc.cell (p := ⟨w.heap.size + 1, 1, none⟩) lR1).trans q3
      replace c0 := (hbc.cell (p := ⟨M, 0, none⟩) lM).trans c0
      replace c1 := (hbc.cell (p := ⟨M, 1, none⟩) lM).trans c1
      replace c2 := (hbc.cell (p := ⟨M + 1, 0, none⟩) lN).trans c2
      replace c3 := (hbc.cell (p := ⟨M + 1, 1, none⟩) lN).trans c3
      replace f0 := (hbc.cell (p := ⟨g, k * 4, none⟩) lg).trans f0
      replace f1 := (hbc.cell (p := ⟨g, k * 4 + 1, none⟩) lg).trans f1
      replace f2 := (hbc.cell (p := ⟨g, k * 4 + 2, none⟩) lg).trans f2
      replace f3 := (hbc.cell (p := ⟨g, k * 4 + 3, none⟩) lg).trans f3
      replace qf := fun o => (hbc.frozen (p := ⟨w.heap.size, o, none⟩) lR0).trans (qf o)
      replace qg := fun o => (hbc.frozen (p := ⟨w.heap.size + 1, o, none⟩) lR1).trans (qg o)
      replace cf := fun o => (hbc.frozen (p := ⟨M, o, none⟩) lM).trans (cf o)
      replace cg := fun o => (hbc.frozen (p := ⟨M + 1, o, none⟩) lN).trans (cg o)
      replace lR0 := Nat.lt_of_lt_of_le lR0 hbc.size
      replace lR1 := Nat.lt_of_lt_of_le lR1 hbc.size
      replace lM := Nat.lt_of_lt_of_le lM hbc.size
      replace lN := Nat.lt_of_lt_of_le lN hbc.size
      replace lg := Nat.lt_of_lt_of_le lg hbc.size
      have HBC := hide hbc; have hsc := hbc.size; clear hB hbc e0 e1 e2 e3 hc0
      obtain ⟨wa, rfl⟩ : ∃ x, x = wc := ⟨wc, rfl⟩
      go_upto_region 6 with fail
      go_cut [12, 13] (fun s12 s13 wx => s13 = .bool z1 ∧ ∃ C : Nat, s12 = .pointer (some ⟨C, 0, none⟩) ∧ Box2 wa wx C n1 d1)
      case first =>
        go_region_held3 (fun w' => (w'.cell? ⟨D, 0, none⟩ = some (.int .i64 s1) ∧ w'.cell? ⟨D, 1, none⟩ = some (.int .i64 s2)) ∧ (w'.cell? ⟨g, k * 4, none⟩ = some (.int .i64 x1) ∧ w'.cell? ⟨g, k * 4 + 1, none⟩ = some (.int .i64 x2))) (simp [go_sem, World.cell?_alloc_past, *])
          ((go_at_call 85; (with_reducible refine ((unhide H1) _).mono ?_); rintro e w4 ⟨rfl, hbw4⟩; obtain ⟨hcw4, hfw4⟩ := bcell hbw4; have hzw4 := hbw4.size; (try simp at hzw4); (try ((have kw4gX0 := (bnew hbw4) (g) ?pf); (case pf => (first | omega | (simp; done) | (simp; omega))); obtain ⟨kcw4gX0, kfw4gX0, klw4gX0⟩ := kw4gX0)); (try ((have kw4DX0 := (bnew hbw4) (D) ?pf); (case pf => (first | omega | (simp; done) | (simp; omega))); obtain ⟨kcw4DX0, kfw4DX0, klw4DX0⟩ := kw4DX0)); (try ((have kw4wa0 := (bnew hbw4) (wa.heap.size) ?pf); (case pf => (first | omega | (simp; done) | (simp; omega))); obtain ⟨kcw4wa0, kfw4wa0, klw4wa0⟩ := kw4wa0))))
        all_goals
          go_wp2_with fail
          go_meet
          refine ⟨rfl, _, rfl, ⟨(by repeat (first | with_reducible exact Below.refl _ _ | with_reducible assumption | (with_reducible refine Below.trans ?_ (Below.mono (by assumption) (by first | omega | (simp <;> omega)))) | with_reducible apply Below.drew | with_reducible apply below_drewN | (with_reducible refine Below.alloc ?_ (by first | omega | (simp <;> omega)) _) | (with_reducible refine Below.setCell ?_ (by first | omega | (simp <;> omega)) _))), ?_, ?_, ?_, ?_, ?_, ?_⟩⟩
        all_goals first | (go_simp; done) | (simp [go_sem, *]; done) | omega | (simp; omega)
      case rest =>
      obtain ⟨rfl, C, rfl, hB⟩ := hcut
      have hbc := hB.below; have C0 := hB.c0; have C1 := hB.c1; have lC := hB.hi; have hClo := hB.lo
      replace q0 := (hbc.cell (p := ⟨w.heap.size, 0, none⟩) lR0).trans q0
      replace q1 := (hbc.cell (p := ⟨w.heap.size, 1, none⟩) lR0).trans q1
      replace q2 := (hbc.cell (p := ⟨w.heap.size + 1, 0, none⟩) lR1).trans q2
      replace q3 := (hbc.cell (p := ⟨w.heap.size + 1, 1, none⟩) lR1).trans q3
      replace c0 := (hbc.cell (p := ⟨M, 0, none⟩) lM).trans c0
      replace c1 := (hbc.cell (p := ⟨M, 1, none⟩) lM).trans c1
      replace c2 := (hbc.cell (p := ⟨M + 1, 0, none⟩) lN).trans c2
      replace c3 := (hbc.cell (p := ⟨M + 1, 1, none⟩) lN).trans c3
      replace f0 := (hbc.cell (p := ⟨g, k * 4, none⟩) lg).trans f0
      replace f1 := (hbc.cell (p := ⟨g, k * 4 + 1, none⟩) lg).trans f1
      replace f2 := (hbc.cell (p := ⟨g, k * 4 + 2, none⟩) lg).trans f2
      replace f3 := (hbc.cell (p := ⟨g, k * 4 + 3, none⟩) lg).trans f3
      replace D0 := (hbc.cell (p := ⟨D, 0, none⟩) lD).trans D0
      replace D1 := (hbc.cell (p := ⟨D, 1, none⟩) lD).trans D1
      replace qf := fun o => (hbc.frozen (p := ⟨w.heap.size, o, none⟩) lR0).trans (qf o)
      replace qg := fun o => (hbc.frozen (p := ⟨w.heap.size + 1, o, none⟩) lR1).trans (qg o)
      replace cf := fun o => (hbc.frozen (p := ⟨M, o, none⟩) lM).trans (cf o)
      replace cg := fun o => (hbc.frozen (p := ⟨M + 1, o, none⟩) lN).trans (cg o)
      replace lR0 := Nat.lt_of_lt_of_le lR0 hbc.size
      replace lR1 := Nat.lt_of_lt_of_le lR1 hbc.size
      replace lM := Nat.lt_of_lt_of_le lM hbc.size
      replace lN := Nat.lt_of_lt_of_le lN hbc.size
      replace lg := Nat.lt_of_lt_of_le lg hbc.size
      replace lD := Nat.lt_of_lt_of_le lD hbc.size
      have HBC2 := hide ((unhide HBC).trans (hbc.mono hsc)); have hsc2 := hbc.size; clear hB hbc HBC
      obtain ⟨wb, rfl⟩ : ∃ x, x = wc := ⟨wc, rfl⟩
      clear f0 f1
      go_upto_region 7 with fail
      go_cut [14, 15] (fun s14 s15 wx => s15 = .bool z2 ∧ ∃ Nx : Nat, s14 = .pointer (some ⟨Nx, 0, none⟩) ∧ Box2 wb wx Nx n2 d2)
      case first =>
        go_wp2_with ((go_at_call 85; (with_reducible refine ((unhide H2) _).mono ?_); rintro e w4 ⟨rfl, hbw4⟩; obtain ⟨hcw4, hfw4⟩ := bcell hbw4; have hzw4 := hbw4.size; (try simp at hzw4); (try ((have kw4MX0 := (bnew hbw4) (M) ?pf); (case pf => (first | omega | (simp; done) | (simp; omega))); obtain ⟨kcw4MX0, kfw4MX0, klw4MX0⟩ := kw4MX0)); (try ((have kw4DX0 := (bnew hbw4) (D) ?pf); (case pf => (first | omega | (simp; done) | (simp; omega))); obtain ⟨kcw4DX0, kfw4DX0, klw4DX0⟩ := kw4DX0))))
        go_meet
        refine ⟨rfl, _, rfl, ⟨(by repeat (first | with_reducible exact Below.refl _ _ | with_reducible assumption | (with_reducible refine Below.trans ?_ (Below.mono (by assumption) (by first | omega | (simp <;> omega)))) | with_reducible apply Below.drew | with_reducible apply below_drewN | (with_reducible refine Below.alloc ?_ (by first | omega | (simp <;> omega)) _) | (with_reducible refine Below.setCell ?_ (by first | omega | (simp <;> omega)) _))), ?_, ?_, ?_, ?_, ?_, ?_⟩⟩
        all_goals first | (go_simp; done) | (simp [go_sem, *]; done) | omega | (simp; omega)
      case rest =>
      obtain ⟨rfl, Nx, rfl, hB⟩ := hcut
      have hbc := hB.below; have Nx0 := hB.c0; have Nx1 := hB.c1; have lNx := hB.hi; have hNxlo := hB.lo
      replace q0 := (hbc.cell (p := ⟨w.heap.size, 0, none⟩) lR0).trans q0
      replace q1 := (hbc.cell (p := ⟨w.heap.size, 1, none⟩) lR0).trans q1
      replace q2 := (hbc.cell (p := ⟨w.heap.size + 1, 0, none⟩) lR1).trans q2
      replace q3 := (hbc.cell (p := ⟨w.heap.size + 1, 1, none⟩) lR1).trans q3
      replace c0 := (hbc.cell (p := ⟨M, 0, none⟩) lM).trans c0
      replace c1 := (hbc.cell (p := ⟨M, 1, none⟩) lM).trans c1
      replace c2 := (hbc.cell (p := ⟨M + 1, 0, none⟩) lN).trans c2
      replace c3 := (hbc.cell (p := ⟨M + 1, 1, none⟩) lN).trans c3
      replace f2 := (hbc.cell (p := ⟨g, k * 4 + 2, none⟩) lg).trans f2
      replace f3 := (hbc.cell (p := ⟨g, k * 4 + 3, none⟩) lg).trans f3
      replace D0 := (hbc.cell (p := ⟨D, 0, none⟩) lD).trans D0
      replace D1 := (hbc.cell (p := ⟨D, 1, none⟩) lD).trans D1
      replace C0 := (hbc.cell (p := ⟨C, 0, none⟩) lC).trans C0
      replace C1 := (hbc.cell (p := ⟨C, 1, none⟩) lC).trans C1
      replace qf := fun o => (hbc.frozen (p := ⟨w.heap.size, o, none⟩) lR0).trans (qf o)
      replace qg := fun o => (hbc.frozen (p := ⟨w.heap.size + 1, o, none⟩) lR1).trans (qg o)
      replace cf := fun o => (hbc.frozen (p := ⟨M, o, none⟩) lM).trans (cf o)
      replace cg := fun o => (hbc.frozen (p := ⟨M + 1, o, none⟩) lN).trans (cg o)
      replace lR0 := Nat.lt_of_lt_of_le lR0 hbc.size
      replace lR1 := Nat.lt_of_lt_of_le lR1 hbc.size
      replace lM := Nat.lt_of_lt_of_le lM hbc.size
      replace lN := Nat.lt_of_lt_of_le lN hbc.size
      replace lg := Nat.lt_of_lt_of_le lg hbc.size
      replace lD := Nat.lt_of_lt_of_le lD hbc.size
      replace lC := Nat.lt_of_lt_of_le lC hbc.size
      have HBC3 := hide ((unhide HBC2).trans (hbc.mono (unhide HBC2).size)); have hsc3 := hbc.size; clear hB hbc HBC2
      obtain ⟨wd, rfl⟩ : ∃ x, x = wc := ⟨wc, rfl⟩
      go_upto_region 8 with fail
      go_cut [16, 17] (fun s16 s17 wx => s17 = .bool z3 ∧ ∃ Px : Nat, s16 = .pointer (some ⟨Px, 0, none⟩) ∧ Box2 wd wx Px n3 d3)
      case first =>
        go_wp2_with ((go_at_call 85; (with_reducible refine ((unhide H3) _).mono ?_); rintro e w4 ⟨rfl, hbw4⟩; obtain ⟨hcw4, hfw4⟩ := bcell hbw4; have hzw4 := hbw4.size; (try simp at hzw4); (try ((have kw4MX0 := (bnew hbw4) (M) ?pf); (case pf => (first | omega | (simp; done) | (simp; omega))); obtain ⟨kcw4MX0, kfw4MX0, klw4MX0⟩ := kw4MX0)); (try ((have kw4MX1 := (bnew hbw4) (M + 1) ?pf); (case pf => (first | omega | (simp; done) | (simp; omega))); obtain ⟨kcw4MX1, kfw4MX1, klw4MX1⟩ := kw4MX1)); (try ((have kw4DX0 := (bnew hbw4) (D) ?pf); (case pf => (first | omega | (simp; done) | (simp; omega))); obtain ⟨kcw4DX0, kfw4DX0, klw4DX0⟩ := kw4DX0))))
        go_meet
        refine ⟨rfl, _, rfl, ⟨(by repeat (first | with_reducible exact Below.refl _ _ | with_reducible assumption | (with_reducible refine Below.trans ?_ (Below.mono (by assumption) (by first | omega | (simp <;> omega)))) | with_reducible apply Below.drew | with_reducible apply below_drewN | (with_reducible refine Below.alloc ?_ (by first | omega | (simp <;> omega)) _) | (with_reducible refine Below.setCell ?_ (by first | omega | (simp <;> omega)) _))), ?_, ?_, ?_, ?_, ?_, ?_⟩⟩
        all_goals first | (go_simp; done) | (simp [go_sem, *]; done) | omega | (simp; omega)
      case rest =>
      obtain ⟨rfl, Px, rfl, hB⟩ := hcut
      have hbc := hB.below; have Px0 := hB.c0; have Px1 := hB.c1; have lPx := hB.hi; have hPxlo := hB.lo
      replace q0 := (hbc.cell (p := ⟨w.heap.size, 0, none⟩) lR0).trans q0
      replace q1 := (hbc.cell (p := ⟨w.heap.size, 1, none⟩) lR0).trans q1
      replace q2 := (hbc.cell (p := ⟨w.heap.size + 1, 0, none⟩) lR1).trans q2
      replace q3 := (hbc.cell (p := ⟨w.heap.size + 1, 1, none⟩) lR1).trans q3
      replace c0 := (hbc.cell (p := ⟨M, 0, none⟩) lM).trans c0
      replace c1 := (hbc.cell (p := ⟨M, 1, none⟩) lM).trans c1
      replace c2 := (hbc.cell (p := ⟨M + 1, 0, none⟩) lN).trans c2
      replace c3 := (hbc.cell (p := ⟨M + 1, 1, none⟩) lN).trans c3
      replace f2 := (hbc.cell (p := ⟨g, k * 4 + 2, none⟩) lg).trans f2
      replace f3 := (hbc.cell (p := ⟨g, k * 4 + 3, none⟩) lg).trans f3
      replace D0 := (hbc.cell (p := ⟨D, 0, none⟩) lD).trans D0
      replace D1 := (hbc.cell (p := ⟨D, 1, none⟩) lD).trans D1
      replace C0 := (hbc.cell (p := ⟨C, 0, none⟩) lC).trans C0
      replace C1 := (hbc.cell (p := ⟨C, 1, none⟩) lC).trans C1
      replace Nx0 := (hbc.cell (p := ⟨Nx, 0, none⟩) lNx).trans Nx0
      replace Nx1 := (hbc.cell (p := ⟨Nx, 1, none⟩) lNx).trans Nx1
      replace qf := fun o => (hbc.frozen (p := ⟨w.heap.size, o, none⟩) lR0).trans (qf o)
      replace qg := fun o => (hbc.frozen (p := ⟨w.heap.size + 1, o, none⟩) lR1).trans (qg o)
      replace cf := fun o => (hbc.frozen (p := ⟨M, o, none⟩) lM).trans (cf o)
      replace cg := fun o => (hbc.frozen (p := ⟨M + 1, o, none⟩) lN).trans (cg o)
      replace lR0 := Nat.lt_of_lt_of_le lR0 hbc.size
      replace lR1 := Nat.lt_of_lt_of_le lR1 hbc.size
      replace lM := Nat.lt_of_lt_of_le lM hbc.size
      replace lN := Nat.lt_of_lt_of_le lN hbc.size
      replace lg := Nat.lt_of_lt_of_le lg hbc.size
      replace lD := Nat.lt_of_lt_of_le lD hbc.size
      replace lC := Nat.lt_of_lt_of_le lC hbc.size
      replace lNx := Nat.lt_of_lt_of_le lNx hbc.size
      have HBC4 := hide ((unhide HBC3).trans (hbc.mono (unhide HBC3).size)); have hsc4 := hbc.size; clear hB hbc HBC3
      obtain ⟨we, rfl⟩ : ∃ x, x = wc := ⟨wc, rfl⟩
      have hbA := unhide HBW; have hbE := unhide HBC4
      cases z1 <;> cases z2 <;> cases z3
      case true.true.true =>
        go_upto_region 11 with fail
        go_cut [18, 19] (fun s18 s19 wx => s19 = .bool z4 ∧ ∃ Vx : Nat, s18 = .pointer (some ⟨Vx, 0, none⟩) ∧ Box2 we wx Vx n4 d4)
        case first =>
          go_region_held3 (fun w' => (w'.cell? ⟨C, 0, none⟩ = some (.int .i64 n1) ∧ w'.cell? ⟨C, 1, none⟩ = some (.int .i64 d1)) ∧ (w'.cell? ⟨g, k * 4 + 2, none⟩ = some (.int .i64 y1) ∧ w'.cell? ⟨g, k * 4 + 3, none⟩ = some (.int .i64 y2))) (simp [go_sem, World.cell?_alloc_past, *])
            ((go_at_call 86; (with_reducible refine ((unhide H4) _).mono ?_); rintro e w4 ⟨rfl, hbw4⟩; obtain ⟨hcw4, hfw4⟩ := bcell hbw4; have hzw4 := hbw4.size; (try simp at hzw4); (try ((have kw4gX0 := (bnew hbw4) (g) ?pf); (case pf => (first | omega | (simp; done) | (simp; omega))); obtain ⟨kcw4gX0, kfw4gX0, klw4gX0⟩ := kw4gX0)); (try ((have kw4CX0 := (bnew hbw4) (C) ?pf); (case pf => (first | omega | (simp; done) | (simp; omega))); obtain ⟨kcw4CX0, kfw4CX0, klw4CX0⟩ := kw4CX0)); (try ((have kw4we0 := (bnew hbw4) (we.heap.size) ?pf); (case pf => (first | omega | (simp; done) | (simp; omega))); obtain ⟨kcw4we0, kfw4we0, klw4we0⟩ := kw4we0))))
          all_goals
            go_wp2_with fail
            go_meet
            refine ⟨rfl, _, rfl, ⟨(by repeat (first | with_reducible exact Below.refl _ _ | with_reducible assumption | (with_reducible refine Below.trans ?_ (Below.mono (by assumption) (by first | omega | (simp <;> omega)))) | with_reducible apply Below.drew | with_reducible apply below_drewN | (with_reducible refine Below.alloc ?_ (by first | omega | (simp <;> omega)) _) | (with_reducible refine Below.setCell ?_ (by first | omega | (simp <;> omega)) _))), ?_, ?_, ?_, ?_, ?_, ?_⟩⟩
          all_goals first | (go_simp; done) | (simp [go_sem, *]; done) | omega | (simp; omega)
        case rest =>
        obtain ⟨rfl, Vx, rfl, hB⟩ := hcut
        have hbc := hB.below; have Vx0 := hB.c0; have Vx1 := hB.c1; have lVx := hB.hi; have hVxlo := hB.lo
        replace q0 := (hbc.cell (p := ⟨w.heap.size, 0, none⟩) lR0).trans q0
        replace q1 := (hbc.cell (p := ⟨w.heap.size, 1, none⟩) lR0).trans q1
        replace q2 := (hbc.cell (p := ⟨w.heap.size + 1, 0, none⟩) lR1).trans q2
        replace q3 := (hbc.cell (p := ⟨w.heap.size + 1, 1, none⟩) lR1).trans q3
        replace c0 := (hbc.cell (p := ⟨M, 0, none⟩) lM).trans c0
        replace c1 := (hbc.cell (p := ⟨M, 1, none⟩) lM).trans c1
        replace c2 := (hbc.cell (p := ⟨M + 1, 0, none⟩) lN).trans c2
        replace c3 := (hbc.cell (p := ⟨M + 1, 1, none⟩) lN).trans c3
        replace f2 := (hbc.cell (p := ⟨g, k * 4 + 2, none⟩) lg).trans f2
        replace f3 := (hbc.cell (p := ⟨g, k * 4 + 3, none⟩) lg).trans f3
        replace D0 := (hbc.cell (p := ⟨D, 0, none⟩) lD).trans D0
        replace D1 := (hbc.cell (p := ⟨D, 1, none⟩) lD).trans D1
        replace C0 := (hbc.cell (p := ⟨C, 0, none⟩) lC).trans C0
        replace C1 := (hbc.cell (p := ⟨C, 1, none⟩) lC).trans C1
        replace Nx0 := (hbc.cell (p := ⟨Nx, 0, none⟩) lNx).trans Nx0
        replace Nx1 := (hbc.cell (p := ⟨Nx, 1, none⟩) lNx).trans Nx1
        replace Px0 := (hbc.cell (p := ⟨Px, 0, none⟩) lPx).trans Px0
        replace Px1 := (hbc.cell (p := ⟨Px, 1, none⟩) lPx).trans Px1
        replace qf := fun o => (hbc.frozen (p := ⟨w.heap.size, o, none⟩) lR0).trans (qf o)
        replace qg := fun o => (hbc.frozen (p := ⟨w.heap.size + 1, o, none⟩) lR1).trans (qg o)
        replace cf := fun o => (hbc.frozen (p := ⟨M, o, none⟩) lM).trans (cf o)
        replace cg := fun o => (hbc.frozen (p := ⟨M + 1, o, none⟩) lN).trans (cg o)
        replace lR0 := Nat.lt_of_lt_of_le lR0 hbc.size
        replace lR1 := Nat.lt_of_lt_of_le lR1 hbc.size
        replace lM := Nat.lt_of_lt_of_le lM hbc.size
        replace lN := Nat.lt_of_lt_of_le lN hbc.size
        replace lg := Nat.lt_of_lt_of_le lg hbc.size
        replace lD := Nat.lt_of_lt_of_le lD hbc.size
        replace lC := Nat.lt_of_lt_of_le lC hbc.size
        replace lNx := Nat.lt_of_lt_of_le lNx hbc.size
        replace lPx := Nat.lt_of_lt_of_le lPx hbc.size
        have HBC5 := hide ((unhide HBC4).trans (hbc.mono (unhide HBC4).size)); have hsc5 := hbc.size; clear hB hbc HBC4
        obtain ⟨wf, rfl⟩ : ∃ x, x = wc := ⟨wc, rfl⟩
        have hbF := unhide HBC5
        cases z4
        case false =>
          have HNO := Lib.hid ((unhide HF) (by simp))
          go_wp2_with fail
          exact bodyPost_ret (v := .tuple #[.agg #[.int .i64 (0), .int .i64 (0)], .agg #[.int .i64 (0), .int .i64 (0)], .bool false]) (by simp [results, Try.results45, go_sem, *]) rfl ⟨by rw [HNO.out]; rfl, (by repeat (first | with_reducible exact Below.refl _ _ | with_reducible assumption | (with_reducible refine Below.trans ?_ (Below.mono (by assumption) (by first | omega | (simp <;> omega)))) | with_reducible apply Below.drew | with_reducible apply below_drewN | (with_reducible refine Below.alloc ?_ (by first | omega | (simp <;> omega)) _) | (with_reducible refine Below.setCell ?_ (by first | omega | (simp <;> omega)) _)))⟩
        case true =>
          go_upto_region 14 with fail
          go_cut [20, 21] (fun s20 s21 wx => s21 = .bool z5 ∧ ∃ Ux : Nat, s20 = .pointer (some ⟨Ux, 0, none⟩) ∧ Box2 wf wx Ux n5 d5)
          case first =>
            go_wp2_with ((go_at_call 87; (with_reducible refine ((unhide H5) _).mono ?_); rintro e w4 ⟨rfl, hbw4⟩; obtain ⟨hcw4, hfw4⟩ := bcell hbw4; have hzw4 := hbw4.size; (try simp at hzw4); (try ((have kw4PxX0 := (bnew hbw4) (Px) ?pf); (case pf => (first | omega | (simp; done) | (simp; omega))); obtain ⟨kcw4PxX0, kfw4PxX0, klw4PxX0⟩ := kw4PxX0)); (try ((have kw4VxX0 := (bnew hbw4) (Vx) ?pf); (case pf => (first | omega | (simp; done) | (simp; omega))); obtain ⟨kcw4VxX0, kfw4VxX0, klw4VxX0⟩ := kw4VxX0))))
            go_meet
            refine ⟨rfl, _, rfl, ⟨(by repeat (first | with_reducible exact Below.refl _ _ | with_reducible assumption | (with_reducible refine Below.trans ?_ (Below.mono (by assumption) (by first | omega | (simp <;> omega)))) | with_reducible apply Below.drew | with_reducible apply below_drewN | (with_reducible refine Below.alloc ?_ (by first | omega | (simp <;> omega)) _) | (with_reducible refine Below.setCell ?_ (by first | omega | (simp <;> omega)) _))), ?_, ?_, ?_, ?_, ?_, ?_⟩⟩
            all_goals first | (go_simp; done) | (simp [go_sem, *]; done) | omega | (simp; omega)
          case rest =>
          obtain ⟨rfl, Ux, rfl, hB⟩ := hcut
          have hbc := hB.below; have Ux0 := hB.c0; have Ux1 := hB.c1; have lUx := hB.hi; have hUxlo := hB.lo
          replace q0 := (hbc.cell (p := ⟨w.heap.size, 0, none⟩) lR0).trans q0
          replace q1 := (hbc.cell (p := ⟨w.heap.size, 1, none⟩) lR0).trans q1
          replace q2 := (hbc.cell (p := ⟨w.heap.size + 1, 0, none⟩) lR1).trans q2
          replace q3 := (hbc.cell (p := ⟨w.heap.size + 1, 1, none⟩) lR1).trans q3
          replace c0 := (hbc.cell (p := ⟨M, 0, none⟩) lM).trans c0
          replace c1 := (hbc.cell (p := ⟨M, 1, none⟩) lM).trans c1
          replace c2 := (hbc.cell (p := ⟨M + 1, 0, none⟩) lN).trans c2
          replace c3 := (hbc.cell (p := ⟨M + 1, 1, none⟩) lN).trans c3
          replace f2 := (hbc.cell (p := ⟨g, k * 4 + 2, none⟩) lg).trans f2
          replace f3 := (hbc.cell (p := ⟨g, k * 4 + 3, none⟩) lg).trans f3
          replace D0 := (hbc.cell (p := ⟨D, 0, none⟩) lD).trans D0
          replace D1 := (hbc.cell (p := ⟨D, 1, none⟩) lD).trans D1
          replace C0 := (hbc.cell (p := ⟨C, 0, none⟩) lC).trans C0
          replace C1 := (hbc.cell (p := ⟨C, 1, none⟩) lC).trans C1
          replace Nx0 := (hbc.cell (p := ⟨Nx, 0, none⟩) lNx).trans Nx0
          replace Nx1 := (hbc.cell (p := ⟨Nx, 1, none⟩) lNx).trans Nx1
          replace Px0 := (hbc.cell (p := ⟨Px, 0, none⟩) lPx).trans Px0
          replace Px1 := (hbc.cell (p := ⟨Px, 1, none⟩) lPx).trans Px1
          replace Vx0 := (hbc.cell (p := ⟨Vx, 0, none⟩) lVx).trans Vx0
          replace Vx1 := (hbc.cell (p := ⟨Vx, 1, none⟩) lVx).trans Vx1
          replace qf := fun o => (hbc.frozen (p := ⟨w.heap.size, o, none⟩) lR0).trans (qf o)
          replace qg := fun o => (hbc.frozen (p := ⟨w.heap.size + 1, o, none⟩) lR1).trans (qg o)
          replace cf := fun o => (hbc.frozen (p := ⟨M, o, none⟩) lM).trans (cf o)
          replace cg := fun o => (hbc.frozen (p := ⟨M + 1, o, none⟩) lN).trans (cg o)
          replace lR0 := Nat.lt_of_lt_of_le lR0 hbc.size
          replace lR1 := Nat.lt_of_lt_of_le lR1 hbc.size
          replace lM := Nat.lt_of_lt_of_le lM hbc.size
          replace lN := Nat.lt_of_lt_of_le lN hbc.size
          replace lg := Nat.lt_of_lt_of_le lg hbc.size
          replace lD := Nat.lt_of_lt_of_le lD hbc.size
          replace lC := Nat.lt_of_lt_of_le lC hbc.size
          replace lNx := Nat.lt_of_lt_of_le lNx hbc.size
          replace lPx := Nat.lt_of_lt_of_le lPx hbc.size
          replace lVx := Nat.lt_of_lt_of_le lVx hbc.size
          have HBC6 := hide ((unhide HBC5).trans (hbc.mono (unhide HBC5).size)); have hsc6 := hbc.size; clear hB hbc HBC5
          obtain ⟨wh, rfl⟩ : ∃ x, x = wc := ⟨wc, rfl⟩
          have hbH := unhide HBC6
          cases z5
          case false =>
            have HNO := Lib.hid ((unhide HF) (by simp))
            go_wp2_with fail
            exact bodyPost_ret (v := .tuple #[.agg #[.int .i64 (0), .int .i64 (0)], .agg #[.int .i64 (0), .int .i64 (0)], .bool false]) (by simp [results, Try.results45, go_sem, *]) rfl ⟨by rw [HNO.out]; rfl, (by repeat (first | with_reducible exact Below.refl _ _ | with_reducible assumption | (with_reducible refine Below.trans ?_ (Below.mono (by assumption) (by first | omega | (simp <;> omega)))) | with_reducible apply Below.drew | with_reducible apply below_drewN | (with_reducible refine Below.alloc ?_ (by first | omega | (simp <;> omega)) _) | (with_reducible refine Below.setCell ?_ (by first | omega | (simp <;> omega)) _)))⟩
          case true =>
            obtain ⟨nm, nb, e1, e2, e3, e4, hst⟩ := (unhide HGD) rfl rfl
            have hbr := unhide HBR
            go_wp2_with fail
            go_roundw
            case rel => exact ⟨j + 1, nm, nb, by go_num, by omega, hide hst, by rw [e1]; simp [go_sem, *], by rw [e2]; simp [go_sem, *], by rw [e3]; simp [go_sem, *], by rw [e4]; simp [go_sem, *], fun o => by simp [go_sem, *], fun o => by simp [go_sem, *], by simp; omega, (by repeat (first | with_reducible exact Below.refl _ _ | with_reducible assumption | (with_reducible refine Below.trans ?_ (Below.mono (by assumption) (by first | omega | (simp <;> omega)))) | with_reducible apply Below.drew | with_reducible apply below_drewN | (with_reducible refine Below.alloc ?_ (by first | omega | (simp <;> omega)) _) | (with_reducible refine Below.setCell ?_ (by first | omega | (simp <;> omega)) _)))⟩
            case measure => (simp [intOf] <;> omega)
      all_goals
        have HNO := Lib.hid ((unhide HF) (by simp))
        go_wp2_with fail
        exact bodyPost_ret (v := .tuple #[.agg #[.int .i64 (0), .int .i64 (0)], .agg #[.int .i64 (0), .int .i64 (0)], .bool false]) (by simp [results, Try.results45, go_sem, *]) rfl ⟨by rw [HNO.out]; rfl, (by repeat (first | with_reducible exact Below.refl _ _ | with_reducible assumption | (with_reducible refine Below.trans ?_ (Below.mono (by assumption) (by first | omega | (simp <;> omega)))) | with_reducible apply Below.drew | with_reducible apply below_drewN | (with_reducible refine Below.alloc ?_ (by first | omega | (simp <;> omega)) _) | (with_reducible refine Below.setCell ?_ (by first | omega | (simp <;> omega)) _)))⟩
      -- END
    · obtain rfl : j = m := by omega
      have HPR := Lib.hid (unhide HP)
      clear HP hbW hbr
      generalize hcn : cm.num = u1 at *
      generalize hcd : (cm.den : Int) = u2 at *
      generalize hbn : cb.num = u3 at *
      generalize hbd : (cb.den : Int) = u4 at *
      have HCN := Lib.hid (And.intro hcn (And.intro hcd (And.intro hbn hbd)))
      clear hcn hcd hbn hbd
      go_wp2_with fail
      go_region
      all_goals
        go_wp2_with fail
        have hb := unhide HBW
        exact bodyPost_ret (v := .tuple #[.agg #[.int .i64 (u1), .int .i64 (u2)], .agg #[.int .i64 (u3), .int .i64 (u4)], .bool true]) (by simp [results, Try.results45, go_sem, *]) rfl ⟨by rw [HPR.out]; simp only [mO, bO, Option.map_some, oN_some, oD_some, HCN.out.1, HCN.out.2.1, HCN.out.2.2.1, HCN.out.2.2.2]; rfl, (by repeat (first | with_reducible exact Below.refl _ _ | with_reducible assumption | (with_reducible refine Below.trans ?_ (Below.mono (by assumption) (by first | omega | (simp <;> omega)))) | with_reducible apply Below.drew | with_reducible apply below_drewN | (with_reducible refine Below.alloc ?_ (by first | omega | (simp <;> omega)) _) | (with_reducible refine Below.setCell ?_ (by first | omega | (simp <;> omega)) _)))⟩
end Go.Proofs.Ythccdooacbablaa

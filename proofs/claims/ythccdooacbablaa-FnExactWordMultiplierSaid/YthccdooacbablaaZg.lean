/-
  Chapter 8: the line of a word, of the program.
-/
import Derived.Test.YthccdooacbablaaZf
import Derived.Test.YthccdooacbablaaAp
namespace Go.Proofs.Ythccdooacbablaa
open Go.RowKit Rm

/-- The line of the first j pieces of a list. -/
def lineP (l : List (QP × QP)) : Nat → Option (Rat × Rat)
  | 0 => some (1, 0)
  | j + 1 => (lineP l j).bind (putO (l.getD j ((0, 0), (0, 0))).1 (l.getD j ((0, 0), (0, 0))).2)
theorem lineP_up {l : List (QP × QP)} {k : Nat} (h : lineP l k = none) : ∀ m, k ≤ m → lineP l m = none
  | 0, hm => by obtain rfl : k = 0 := by omega
                exact h
  | m + 1, hm => by
    rcases Nat.lt_or_eq_of_le hm with h1 | h1
    · show (lineP l m).bind _ = none
      rw [lineP_up h m (by omega)]; rfl
    · rw [← h1]; exact h
theorem lineP_step {l : List (QP × QP)} {k : Nat} {c : Rat × Rat} {p q : QP} (h : lineP l k = some c) (hl : l[k]? = some (p, q)) : lineP l (k + 1) = putO p q c := by
  show (lineP l k).bind _ = _
  rw [h, List.getD_eq_getElem?_getD, hl]; rfl
theorem putO_fits {p q : QP} {l c : Rat × Rat} (h : putO p q l = some c) : fits c.1 = true ∧ fits c.2 = true := by
  unfold putO at h
  cases h2 : omul (some (slopeR p q)) (some l.1) with
  | none => rw [h2] at h; cases h
  | some m =>
    rw [h2, Option.bind_some] at h
    cases h3 : oadd (omul (some (slopeR p q)) (some l.2)) (startO p q) with
    | none => rw [h3] at h; cases h
    | some b =>
      rw [h3] at h
      obtain rfl : (m, b) = c := Option.some.inj h
      exact ⟨omul_is h2, oadd_is h3⟩
theorem lineP_fits {l : List (QP × QP)} : ∀ {k : Nat} {c : Rat × Rat}, lineP l k = some c → fits c.1 = true ∧ fits c.2 = true
  | 0, c, h => by
    obtain rfl : ((1 : Rat), (0 : Rat)) = c := Option.some.inj h
    exact ⟨rfl, rfl⟩
  | k + 1, c, h => by
    have h' : (lineP l k).bind (putO (l.getD k ((0, 0), (0, 0))).1 (l.getD k ((0, 0), (0, 0))).2) = some c := h
    cases h1 : lineP l k with
    | none => rw [h1] at h'; cases h'
    | some c0 => rw [h1, Option.bind_some] at h'; exact putO_fits h'
/-- The pieces of a word. -/
def wdL (qs : List QP) (r : List Int) : List (QP × QP) := r.map fun k => (qAt qs k.toNat, qAt qs (k.toNat + 1))
theorem wdL_at {qs : List QP} {r : List Int} {j : Nat} (h : j < r.length) : (wdL qs r)[j]? = some (qAt qs (r.getD j 0).toNat, qAt qs ((r.getD j 0).toNat + 1)) := by unfold wdL; simp [h]
theorem lineP_word {qs : List QP} {r : List Int} : ∀ j, j ≤ r.length → lineP (wdL qs r) j = lineK qs r j
  | 0, _ => rfl
  | j + 1, h => by
    show (lineP (wdL qs r) j).bind _ = (lineK qs r j).bind _
    rw [lineP_word j (by omega), List.getD_eq_getElem?_getD, wdL_at (by omega)]; rfl
theorem wdL_take {qs : List QP} {r : List Int} {j : Nat} (h : j < r.length) : wdL qs (r.take (j + 1)) = wdL qs (r.take j) ++ [(qAt qs (r.getD j 0).toNat, qAt qs ((r.getD j 0).toNat + 1))] := by
  unfold wdL
  rw [List.take_succ_eq_append_getElem h, List.map_append]
  simp [h]
/-- A word with its line, or nothing. -/
def lwS (v : Value) (z : Bool) : Value := match z with | true => v | false => .slice none 0 0
def lwV (v : Value) (o : Option (Rat × Rat)) : Value := .agg #[lwS v o.isSome, .int .i64 (oN (mO o)), .int .i64 (oD (mO o)), .int .i64 (oN (bO o)), .int .i64 (oD (bO o))]

theorem identity_any (w : World) : Calls Try.prog 106 #[] w fun e w' => e = .returned (.agg #[.int .i64 1, .int .i64 1, .int .i64 0, .int .i64 1]) ∧ Below w.heap.size w w' := by
  go_enter Try.func106, Try.ntmps106
  go_wp2
  exact bodyPost_ret (v := .agg #[.int .i64 1, .int .i64 1, .int .i64 0, .int .i64 1]) (by simp [results, Try.results106, go_sem]) rfl ⟨rfl, (by repeat (first | with_reducible exact Below.refl _ _ | with_reducible assumption | (with_reducible refine Below.trans ?_ (Below.mono (by assumption) (by first | omega | (simp <;> omega)))) | with_reducible apply Below.drew | with_reducible apply below_drewN | (with_reducible refine Below.alloc ?_ (by first | omega | (simp <;> omega)) _) | (with_reducible refine Below.setCell ?_ (by first | omega | (simp <;> omega)) _)))⟩

set_option maxRecDepth 100000 in
set_option maxHeartbeats 3200000 in
theorem withLine_q (A : Option Addr) (m c B : Nat) (l : List (QP × QP)) (vs : List Value) (w : World) (hrow : PcRow w B (.slice A m c) l vs) (hl : l.length = m) (hm : m ≤ 1000) (hf : ∀ x ∈ l, fits (slopeR x.1 x.2) = true) :
    Calls Try.prog 90 #[.slice A m c] w fun e w' => e = .returned (.tuple #[lwV (.slice A m c) (lineP l m), .bool (lineP l m).isSome]) ∧ Below w.heap.size w w' := by
  have HROW := hide hrow; have HL := Lib.hid hl; have HF := hide hf
  clear hrow hl hf
  go_enter Try.func90, Try.ntmps90
  go_wp2_with (go_at_call 106; (with_reducible refine (identity_any _).mono ?_); rintro e w1 ⟨rfl, hbw1⟩; have hs1 := hbw1.size; (skip; (try ((have kw1w0 := (bnew hbw1) (w.heap.size) ?pf); (case pf => (first | omega | (simp; done) | (simp; omega))); obtain ⟨kcw1w0, kfw1w0, klw1w0⟩ := kw1w0))))
  -- ROUND
  have r0 : w1.cell? ⟨w.heap.size, 0, none⟩ = some (.slice none 0 0) := by rw [kcw1w0]; simp [go_sem]
  have r1 : w1.cell? ⟨w.heap.size, 1, none⟩ = some (.int .i64 0) := by rw [kcw1w0]; simp [go_sem]
  have r2 : w1.cell? ⟨w.heap.size, 2, none⟩ = some (.int .i64 0) := by rw [kcw1w0]; simp [go_sem]
  have r3 : w1.cell? ⟨w.heap.size, 3, none⟩ = some (.int .i64 0) := by rw [kcw1w0]; simp [go_sem]
  have r4 : w1.cell? ⟨w.heap.size, 4, none⟩ = some (.int .i64 0) := by rw [kcw1w0]; simp [go_sem]
  have rf : ∀ o, w1.frozen? ⟨w.heap.size, o, none⟩ = false := fun o => by rw [kfw1w0]; simp [go_sem]
  have hRw : w.heap.size < w1.heap.size := klw1w0
  have hb0 : Below w.heap.size w (w1.alloc (.cells #[.int .i64 1, .int .i64 1, .int .i64 0, .int .i64 1] 68)) := (by repeat (first | with_reducible exact Below.refl _ _ | with_reducible assumption | (with_reducible refine Below.trans ?_ (Below.mono (by assumption) (by first | omega | (simp <;> omega)))) | with_reducible apply Below.drew | with_reducible apply below_drewN | (with_reducible refine Below.alloc ?_ (by first | omega | (simp <;> omega)) _) | (with_reducible refine Below.setCell ?_ (by first | omega | (simp <;> omega)) _)))
  have hbA : Below w1.heap.size w1 (w1.alloc (.cells #[.int .i64 1, .int .i64 1, .int .i64 0, .int .i64 1] 68)) := (by repeat (first | with_reducible exact Below.refl _ _ | with_reducible assumption | (with_reducible refine Below.trans ?_ (Below.mono (by assumption) (by first | omega | (simp <;> omega)))) | with_reducible apply Below.drew | with_reducible apply below_drewN | (with_reducible refine Below.alloc ?_ (by first | omega | (simp <;> omega)) _) | (with_reducible refine Below.setCell ?_ (by first | omega | (simp <;> omega)) _)))
  have m0 : (w1.alloc (.cells #[.int .i64 1, .int .i64 1, .int .i64 0, .int .i64 1] 68)).cell? ⟨w1.heap.size, 0, none⟩ = some (.int .i64 (1 : Rat).num) := by simp [go_sem]
  have m1 : (w1.alloc (.cells #[.int .i64 1, .int .i64 1, .int .i64 0, .int .i64 1] 68)).cell? ⟨w1.heap.size, 1, none⟩ = some (.int .i64 ((1 : Rat).den : Int)) := by simp [go_sem]
  have m2 : (w1.alloc (.cells #[.int .i64 1, .int .i64 1, .int .i64 0, .int .i64 1] 68)).cell? ⟨w1.heap.size, 2, none⟩ = some (.int .i64 (0 : Rat).num) := by simp [go_sem]
  have m3 : (w1.alloc (.cells #[.int .i64 1, .int .i64 1, .int .i64 0, .int .i64 1] 68)).cell? ⟨w1.heap.size, 3, none⟩ = some (.int .i64 ((0 : Rat).den : Int)) := by simp [go_sem]
  have mf : ∀ o, (w1.alloc (.cells #[.int .i64 1, .int .i64 1, .int .i64 0, .int .i64 1] 68)).frozen? ⟨w1.heap.size, o, none⟩ = false := by intro o; simp [go_sem]
  have hMq : w1.heap.size < (w1.alloc (.cells #[.int .i64 1, .int .i64 1, .int .i64 0, .int .i64 1] 68)).heap.size := by simp
  replace r0 := (hbA.cell (p := ⟨w.heap.size, 0, none⟩) hRw).trans r0
  replace r1 := (hbA.cell (p := ⟨w.heap.size, 1, none⟩) hRw).trans r1
  replace r2 := (hbA.cell (p := ⟨w.heap.size, 2, none⟩) hRw).trans r2
  replace r3 := (hbA.cell (p := ⟨w.heap.size, 3, none⟩) hRw).trans r3
  replace r4 := (hbA.cell (p := ⟨w.heap.size, 4, none⟩) hRw).trans r4
  replace rf := fun o => (hbA.frozen (p := ⟨w.heap.size, o, none⟩) hRw).trans (rf o)
  have HBQ := hide hb0
  clear kcw1w0 kfw1w0 klw1w0 hb0 hbA hbw1 hs1
  generalize (w1.alloc (.cells #[.int .i64 1, .int .i64 1, .int .i64 0, .int .i64 1] 68)) = wq at *
  generalize w1.heap.size = M at *
  go_loopw [5, 11] (fun okv i wr => ∃ (j : Nat) (cm cb : Rat), okv = .bool true ∧ i = .int .i64 j ∧ j ≤ m ∧ Hid (lineP l j = some (cm, cb)) ∧ wr.cell? ⟨M, 0, none⟩ = some (.int .i64 cm.num) ∧ wr.cell? ⟨M, 1, none⟩ = some (.int .i64 cm.den) ∧
    wr.cell? ⟨M, 2, none⟩ = some (.int .i64 cb.num) ∧ wr.cell? ⟨M, 3, none⟩ = some (.int .i64 cb.den) ∧ (∀ o, wr.frozen? ⟨M, o, none⟩ = false) ∧ M < wr.heap.size ∧ wq.grownBy wr (some M)) (fun _ i _ => m - (intOf i).toNat)
  case atStart => exact ⟨0, 1, 0, rfl, rfl, by omega, hide rfl, m0, m1, m2, m3, mf, hMq, World.grownBy.refl _ _⟩
  case round =>
    obtain ⟨j, cm, cb, rfl, rfl, hj, HP, c0, c1, c2, c3, cf, hMr, hgr⟩ := hrel
    have hRq : w.heap.size < wq.heap.size := by omega
    have lR : w.heap.size < wr.heap.size := by have := hgr.size; omega
    have hbk := fun (o : Nat) => World.cell?_of_block (a := ⟨w.heap.size, o, none⟩) (hgr.block w.heap.size hRq (fun e => by have := Option.some.inj e; omega))
    have q0 := (hbk 0).trans r0
    have q1 := (hbk 1).trans r1
    have q2 := (hbk 2).trans r2
    have q3 := (hbk 3).trans r3
    have q4 := (hbk 4).trans r4
    have qf := fun o => (World.frozen?_of_block (a := ⟨w.heap.size, o, none⟩) (hgr.block w.heap.size hRq (fun e => by have := Option.some.inj e; omega))).trans (rf o)
    have hb := (unhide HBQ).grown hgr (by omega) (fun i e => by have := Option.some.inj e; omega)
    clear hbk
    by_cases hlt : j < m
    · have hjl : j < l.length := by rw [HL.out]; exact hlt
      obtain ⟨p, q, hpq⟩ : ∃ p q, l[j]? = some (p, q) := ⟨(l[j]'hjl).1, (l[j]'hjl).2, List.getElem?_eq_getElem hjl⟩
      have hkr := (unhide HROW).below hb
      obtain ⟨g, v1, v2, rfl, hgl, y0, y1, hpc⟩ := hkr.at hpq
      have hsf := (unhide HF) (p, q) (List.mem_iff_getElem?.2 ⟨_, hpq⟩)
      obtain ⟨ge, bs, bt, rfl, rfl, hrest⟩ := hpc
      have hpc : PcAt wr (.slice (some ⟨ge, 0, none⟩) 2 2) (.func (.func 159) #[] #[.pointer (some ⟨bs, 0, none⟩), .pointer (some ⟨bt, 0, none⟩)]) p q := ⟨ge, bs, bt, rfl, rfl, hrest⟩
      obtain ⟨hf1, hf2⟩ := lineP_fits (unhide HP)
      have hput := fun W (hW : Below wr.heap.size wr W) => put_q (hpc.below hW) hsf (cm, cb) hf1 hf2
      simp only [lineV, mO, bO, Option.map_some, oN_some, oD_some] at hput
      have hst := lineP_step (unhide HP) hpq
      have t1 : (j : Int) < (m : Int) := by omega
      have HB := hide hb; have HGR := hide hgr
      clear hkr hpc hrest hf1 hf2 hsf hpq hb hgr r0 r1 r2 r3 r4 rf m0 m1 m2 m3 mf HP
      rcases hd : putO p q (cm, cb) with _ | d
      · have hno := lineP_up (k := j + 1) (by rw [hst, hd]) m (by omega)
        have HNO := Lib.hid hno
        rw [hd] at hput
        simp only [Option.map_none, oN_none, oD_none, Option.isSome_none] at hput
        have HPUT := hide hput
        clear hput hst hd hno HGR
        generalize cm.num = a1 at *
        generalize (cm.den : Int) = a2 at *
        generalize cb.num = b1 at *
        generalize (cb.den : Int) = b2 at *
        go_wp2_with (go_at_call 159; (with_reducible refine ((unhide HPUT) _ ?pb).mono ?_); (case pb => exact (by repeat (first | with_reducible exact Below.refl _ _ | with_reducible assumption | (with_reducible refine Below.trans ?_ (Below.mono (by assumption) (by first | omega | (simp <;> omega)))) | with_reducible apply Below.drew | with_reducible apply below_drewN | (with_reducible refine Below.alloc ?_ (by first | omega | (simp <;> omega)) _) | (with_reducible refine Below.setCell ?_ (by first | omega | (simp <;> omega)) _)))); rintro e w5 ⟨rfl, hbw5⟩; have hs5 := hbw5.size; (try simp at hs5); have p0 : w5.cell? ⟨w.heap.size, 0, none⟩ = some (.slice none 0 0) := (hbw5.cell (p := ⟨w.heap.size, 0, none⟩) (by simp; omega)).trans (by simp [go_sem, *]); have p1 : w5.cell? ⟨w.heap.size, 1, none⟩ = some (.int .i64 0) := (hbw5.cell (p := ⟨w.heap.size, 1, none⟩) (by simp; omega)).trans (by simp [go_sem, *]); have p2 : w5.cell? ⟨w.heap.size, 2, none⟩ = some (.int .i64 0) := (hbw5.cell (p := ⟨w.heap.size, 2, none⟩) (by simp; omega)).trans (by simp [go_sem, *]); have p3 : w5.cell? ⟨w.heap.size, 3, none⟩ = some (.int .i64 0) := (hbw5.cell (p := ⟨w.heap.size, 3, none⟩) (by simp; omega)).trans (by simp [go_sem, *]); have p4 : w5.cell? ⟨w.heap.size, 4, none⟩ = some (.int .i64 0) := (hbw5.cell (p := ⟨w.heap.size, 4, none⟩) (by simp; omega)).trans (by simp [go_sem, *]); have pz : ∀ o, w5.frozen? ⟨w.heap.size, o, none⟩ = false := (fun o => (hbw5.frozen (p := ⟨w.heap.size, o, none⟩) (by simp; omega)).trans (by simp [go_sem, *])); have n0 : w5.cell? ⟨M, 0, none⟩ = some (.int .i64 a1) := (hbw5.cell (p := ⟨M, 0, none⟩) (by simp; omega)).trans (by simp [go_sem, *]); have n1 : w5.cell? ⟨M, 1, none⟩ = some (.int .i64 a2) := (hbw5.cell (p := ⟨M, 1, none⟩) (by simp; omega)).trans (by simp [go_sem, *]); have n2 : w5.cell? ⟨M, 2, none⟩ = some (.int .i64 b1) := (hbw5.cell (p := ⟨M, 2, none⟩) (by simp; omega)).trans (by simp [go_sem, *]); have n3 : w5.cell? ⟨M, 3, none⟩ = some (.int .i64 b2) := (hbw5.cell (p := ⟨M, 3, none⟩) (by simp; omega)).trans (by simp [go_sem, *]); have nz : ∀ o, w5.frozen? ⟨M, o, none⟩ = false := (fun o => (hbw5.frozen (p := ⟨M, o, none⟩) (by simp; omega)).trans (by simp [go_sem, *])))
        have hb := unhide HB
        exact bodyPost_ret (v := .tuple #[.agg #[.slice none 0 0, .int .i64 0, .int .i64 0, .int .i64 0, .int .i64 0], .bool false]) (by simp [results, Try.results90, go_sem, *]) rfl ⟨by rw [HNO.out]; rfl, (by repeat (first | with_reducible exact Below.refl _ _ | with_reducible assumption | (with_reducible refine Below.trans ?_ (Below.mono (by assumption) (by first | omega | (simp <;> omega)))) | with_reducible apply Below.drew | with_reducible apply below_drewN | (with_reducible refine Below.alloc ?_ (by first | omega | (simp <;> omega)) _) | (with_reducible refine Below.setCell ?_ (by first | omega | (simp <;> omega)) _)))⟩
      · rw [hd] at hst hput
        simp only [Option.map_some, oN_some, oD_some, Option.isSome_some] at hput
        have HST := hide hst
        obtain ⟨dm, db⟩ := d
        simp only at hput
        obtain ⟨d1, hd1⟩ : ∃ x, x = dm.num := ⟨_, rfl⟩
        obtain ⟨d2, hd2⟩ : ∃ x, x = (dm.den : Int) := ⟨_, rfl⟩
        obtain ⟨d3, hd3⟩ : ∃ x, x = db.num := ⟨_, rfl⟩
        obtain ⟨d4, hd4⟩ : ∃ x, x = (db.den : Int) := ⟨_, rfl⟩
        rw [← hd1, ← hd2, ← hd3, ← hd4] at hput
        have HDV := Lib.hid (And.intro hd1 (And.intro hd2 (And.intro hd3 hd4)))
        have HPUT := hide hput
        clear hput hst hd hd1 hd2 hd3 hd4
        generalize cm.num = a1 at *
        generalize (cm.den : Int) = a2 at *
        generalize cb.num = b1 at *
        generalize (cb.den : Int) = b2 at *
        go_wp2_with (go_at_call 159; (with_reducible refine ((unhide HPUT) _ ?pb).mono ?_); (case pb => exact (by repeat (first | with_reducible exact Below.refl _ _ | with_reducible assumption | (with_reducible refine Below.trans ?_ (Below.mono (by assumption) (by first | omega | (simp <;> omega)))) | with_reducible apply Below.drew | with_reducible apply below_drewN | (with_reducible refine Below.alloc ?_ (by first | omega | (simp <;> omega)) _) | (with_reducible refine Below.setCell ?_ (by first | omega | (simp <;> omega)) _)))); rintro e w5 ⟨rfl, hbw5⟩; have hs5 := hbw5.size; (try simp at hs5); have p0 : w5.cell? ⟨w.heap.size, 0, none⟩ = some (.slice none 0 0) := (hbw5.cell (p := ⟨w.heap.size, 0, none⟩) (by simp; omega)).trans (by simp [go_sem, *]); have p1 : w5.cell? ⟨w.heap.size, 1, none⟩ = some (.int .i64 0) := (hbw5.cell (p := ⟨w.heap.size, 1, none⟩) (by simp; omega)).trans (by simp [go_sem, *]); have p2 : w5.cell? ⟨w.heap.size, 2, none⟩ = some (.int .i64 0) := (hbw5.cell (p := ⟨w.heap.size, 2, none⟩) (by simp; omega)).trans (by simp [go_sem, *]); have p3 : w5.cell? ⟨w.heap.size, 3, none⟩ = some (.int .i64 0) := (hbw5.cell (p := ⟨w.heap.size, 3, none⟩) (by simp; omega)).trans (by simp [go_sem, *]); have p4 : w5.cell? ⟨w.heap.size, 4, none⟩ = some (.int .i64 0) := (hbw5.cell (p := ⟨w.heap.size, 4, none⟩) (by simp; omega)).trans (by simp [go_sem, *]); have pz : ∀ o, w5.frozen? ⟨w.heap.size, o, none⟩ = false := (fun o => (hbw5.frozen (p := ⟨w.heap.size, o, none⟩) (by simp; omega)).trans (by simp [go_sem, *])); have n0 : w5.cell? ⟨M, 0, none⟩ = some (.int .i64 a1) := (hbw5.cell (p := ⟨M, 0, none⟩) (by simp; omega)).trans (by simp [go_sem, *]); have n1 : w5.cell? ⟨M, 1, none⟩ = some (.int .i64 a2) := (hbw5.cell (p := ⟨M, 1, none⟩) (by simp; omega)).trans (by simp [go_sem, *]); have n2 : w5.cell? ⟨M, 2, none⟩ = some (.int .i64 b1) := (hbw5.cell (p := ⟨M, 2, none⟩) (by simp; omega)).trans (by simp [go_sem, *]); have n3 : w5.cell? ⟨M, 3, none⟩ = some (.int .i64 b2) := (hbw5.cell (p := ⟨M, 3, none⟩) (by simp; omega)).trans (by simp [go_sem, *]); have nz : ∀ o, w5.frozen? ⟨M, o, none⟩ = false := (fun o => (hbw5.frozen (p := ⟨M, o, none⟩) (by simp; omega)).trans (by simp [go_sem, *])))
        have hbl : Below wr.heap.size wr w5 := (by repeat (first | with_reducible exact Below.refl _ _ | with_reducible assumption | (with_reducible refine Below.trans ?_ (Below.mono (by assumption) (by first | omega | (simp <;> omega)))) | with_reducible apply Below.drew | with_reducible apply below_drewN | (with_reducible refine Below.alloc ?_ (by first | omega | (simp <;> omega)) _) | (with_reducible refine Below.setCell ?_ (by first | omega | (simp <;> omega)) _)))
        have HGD := hide (grown_set (grown_set (grown_set (grown_set (grown_on (unhide HGR) hbl) 0 (.int .i64 d1)) 1 (.int .i64 d2)) 2 (.int .i64 d3)) 3 (.int .i64 d4))
        have hgs := (unhide HGR).size
        go_roundw
        case rel => exact ⟨j + 1, dm, db, rfl, by go_num, by omega, HST, by rw [← HDV.out.1]; simp [go_sem, *], by rw [← HDV.out.2.1]; simp [go_sem, *], by rw [← HDV.out.2.2.1]; simp [go_sem, *], by rw [← HDV.out.2.2.2]; simp [go_sem, *], fun o => by simp [go_sem, *], by simp; omega, unhide HGD⟩
        case measure => (simp [intOf] <;> omega)
    · obtain rfl : j = m := by omega
      have HPR := Lib.hid (unhide HP)
      have HB := hide hb
      clear HP hb hgr r0 r1 r2 r3 r4 rf m0 m1 m2 m3 mf
      generalize hu1 : cm.num = u1 at *
      generalize hu2 : (cm.den : Int) = u2 at *
      generalize hu3 : cb.num = u3 at *
      generalize hu4 : (cb.den : Int) = u4 at *
      have HCN := Lib.hid (And.intro hu1 (And.intro hu2 (And.intro hu3 hu4)))
      clear hu1 hu2 hu3 hu4
      go_wp2_with fail
      have hb := unhide HB
      exact bodyPost_ret (v := .tuple #[.agg #[.slice A j c, .int .i64 u1, .int .i64 u2, .int .i64 u3, .int .i64 u4], .bool true]) (by simp [results, Try.results90, go_sem, *]) rfl ⟨by rw [HPR.out]; simp only [lwV, lwS, mO, bO, Option.map_some, Option.isSome_some, oN_some, oD_some, HCN.out.1, HCN.out.2.1, HCN.out.2.2.1, HCN.out.2.2.2], (by repeat (first | with_reducible exact Below.refl _ _ | with_reducible assumption | (with_reducible refine Below.trans ?_ (Below.mono (by assumption) (by first | omega | (simp <;> omega)))) | with_reducible apply Below.drew | with_reducible apply below_drewN | (with_reducible refine Below.alloc ?_ (by first | omega | (simp <;> omega)) _) | (with_reducible refine Below.setCell ?_ (by first | omega | (simp <;> omega)) _)))⟩
-- END
end Go.Proofs.Ythccdooacbablaa

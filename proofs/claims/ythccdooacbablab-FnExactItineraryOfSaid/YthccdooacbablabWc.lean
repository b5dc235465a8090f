/-
  Chapter 6: the address of a fraction: firstLapWith of the program, woAddress of the model; AddressOf of both.
-/
import Derived.Test.YthccdooacbablabWb
import Derived.Test.YthccdooacbablabPb
import Derived.Test.YthccdooacbablabVa
namespace Go.Proofs.Ythccdooacbablab
open Go.RowKit Rm

theorem field0_pt (a b c d : Int) (W : World) : Sem.run Try.prog (Instr.field 45 (.agg #[.int .i64 (a), .int .i64 (b), .int .i64 (c), .int .i64 (d)]) 0) W = .ok (.agg #[.int .i64 (a), .int .i64 (b)]) W := by
  simp [Instr.field, asAgg, go_sem]
theorem field1_pt (a b c d : Int) (W : World) : Sem.run Try.prog (Instr.field 45 (.agg #[.int .i64 (a), .int .i64 (b), .int .i64 (c), .int .i64 (d)]) 1) W = .ok (.agg #[.int .i64 (c), .int .i64 (d)]) W := by
  simp [Instr.field, asAgg, go_sem]

set_option maxRecDepth 100000 in
theorem last_any (g a0 L cc : Nat) (p : QP) (w : World) (hL : L ≤ 100) (hgl : g < w.heap.size) (h0 : w.cell? ⟨g, a0 + L * 4, none⟩ = some (.int .i64 p.1.num)) (h1 : w.cell? ⟨g, a0 + L * 4 + 1, none⟩ = some (.int .i64 p.1.den))
    (h2 : w.cell? ⟨g, a0 + L * 4 + 2, none⟩ = some (.int .i64 p.2.num)) (h3 : w.cell? ⟨g, a0 + L * 4 + 3, none⟩ = some (.int .i64 p.2.den)) :
    Calls Try.prog 36 #[.slice (some ⟨g, a0, none⟩) (L + 1) cc] w fun e w' => e = .returned (.agg #[.int .i64 (p.1.num), .int .i64 (p.1.den), .int .i64 (p.2.num), .int .i64 (p.2.den)]) ∧ Below w.heap.size w w' := by
  generalize p.1.num = f1 at *
  generalize (p.1.den : Int) = f2 at *
  generalize p.2.num = f3 at *
  generalize (p.2.den : Int) = f4 at *
  have s1 : IntKind.i64.wrap (L : Int) = (L : Int) := IntWalk.i64_in _ (by omega)
  have s2 : (0 : Int) ≤ (L : Int) := by omega
  have s3 : (L : Int) < (L : Int) + 1 := by omega
  go_enter Try.func36, Try.ntmps36
  go_wp2_with fail
  exact bodyPost_ret (v := .agg #[.int .i64 (f1), .int .i64 (f2), .int .i64 (f3), .int .i64 (f4)]) (by simp [results, Try.results36, go_sem, *]) rfl ⟨rfl, (by repeat (first | with_reducible exact Below.refl _ _ | with_reducible assumption | (with_reducible refine Below.trans ?_ (Below.mono (by assumption) (by first | omega | (simp <;> omega)))) | with_reducible apply Below.drew | with_reducible apply below_drewN | (with_reducible refine Below.alloc ?_ (by first | omega | (simp <;> omega)) _) | (with_reducible refine Below.setCell ?_ (by first | omega | (simp <;> omega)) _)))⟩
set_option maxRecDepth 100000 in
theorem hasLap_any (g a0 L cc xb : Nat) (p : QP) (x : Rat) (w : World) (hL : L ≤ 100) (hgl : g < w.heap.size) (h0 : w.cell? ⟨g, a0 + L * 4, none⟩ = some (.int .i64 p.1.num)) (h1 : w.cell? ⟨g, a0 + L * 4 + 1, none⟩ = some (.int .i64 p.1.den))
    (h2 : w.cell? ⟨g, a0 + L * 4 + 2, none⟩ = some (.int .i64 p.2.num)) (h3 : w.cell? ⟨g, a0 + L * 4 + 3, none⟩ = some (.int .i64 p.2.den)) (hp : co p.1) (hx : fits x = true)
    (c0 : w.cell? ⟨xb, 0, none⟩ = some (.int .i64 x.num)) (c1 : w.cell? ⟨xb, 1, none⟩ = some (.int .i64 x.den)) (hxb : xb < w.heap.size) :
    Calls Try.prog 34 #[.slice (some ⟨g, a0, none⟩) (L + 1) cc, .pointer (some ⟨xb, 0, none⟩)] w fun e w' => e = .returned (.bool (!decide (p.1 < x))) ∧ Below w.heap.size w w' := by
  have hl := fun (W : World) (hW : Below w.heap.size w W) => last_any g a0 L cc p W hL (Nat.lt_of_lt_of_le hgl hW.size) ((hW.cell hgl).trans h0) ((hW.cell hgl).trans h1) ((hW.cell hgl).trans h2) ((hW.cell hgl).trans h3)
  have hor := fun W => orderOf_q x p.1 hx (co_fits hp) W
  have hz : decide (cq x p.1 ≤ 0) = !decide (p.1 < x) := by
    by_cases h : p.1 < x
    · rw [decide_eq_true h]
      exact decide_eq_false (fun h2 => by have := cq_gt.2 h; omega)
    · rw [decide_eq_false h]
      exact decide_eq_true (Int.not_lt.1 (fun h2 => h (cq_gt.1 h2)))
  have HL := hide hl; have HO := hide hor
  rw [← hz]
  clear hl hor hz hp hx
  generalize cq x p.1 = z at *
  generalize p.1.num = f1 at *
  generalize (p.1.den : Int) = f2 at *
  generalize p.2.num = f3 at *
  generalize (p.2.den : Int) = f4 at *
  generalize x.num = xn at *
  generalize (x.den : Int) = xd at *
  have hfd := fun W => field0_pt f1 f2 f3 f4 W
  go_enter Try.func34, Try.ntmps34
  go_upto_region 1 with fail
  go_region_held3 (fun w' => w'.cell? ⟨xb, 0, none⟩ = some (.int .i64 xn) ∧ w'.cell? ⟨xb, 1, none⟩ = some (.int .i64 xd)) (simp [go_sem, *])
    (first
      | (go_at_call 36; (with_reducible refine ((unhide HL) _ ?pb).mono ?_); (case pb => exact (by repeat (first | with_reducible exact Below.refl _ _ | with_reducible assumption | (with_reducible refine Below.trans ?_ (Below.mono (by assumption) (by first | omega | (simp <;> omega)))) | with_reducible apply Below.drew | with_reducible apply below_drewN | (with_reducible refine Below.alloc ?_ (by first | omega | (simp <;> omega)) _) | (with_reducible refine Below.setCell ?_ (by first | omega | (simp <;> omega)) _)))); rintro e w1 ⟨rfl, hbw1⟩; have hz1 := hbw1.size; (try simp at hz1); (skip; (try ((have kw1xbX0 := (bnew hbw1) (xb) ?pf); (case pf => (first | omega | (simp; done) | (simp; omega))); obtain ⟨kcw1xbX0, kfw1xbX0, klw1xbX0⟩ := kw1xbX0))))
      | (go_at_call 35; (with_reducible refine ((unhide HO) _).mono ?_); rintro e w2 ⟨rfl, hbw2⟩; obtain ⟨hcw2, hfw2⟩ := bcell hbw2; have hzw2 := hbw2.size; (try simp at hzw2); (try ((have kw2xbX0 := (bnew hbw2) (xb) ?pf); (case pf => (first | omega | (simp; done) | (simp; omega))); obtain ⟨kcw2xbX0, kfw2xbX0, klw2xbX0⟩ := kw2xbX0))))
  all_goals
    go_wp2_with fail
    go_ret
    exact ⟨rfl, (by repeat (first | with_reducible exact Below.refl _ _ | with_reducible assumption | (with_reducible refine Below.trans ?_ (Below.mono (by assumption) (by first | omega | (simp <;> omega)))) | with_reducible apply Below.drew | with_reducible apply below_drewN | (with_reducible refine Below.alloc ?_ (by first | omega | (simp <;> omega)) _) | (with_reducible refine Below.setCell ?_ (by first | omega | (simp <;> omega)) _)))⟩

theorem lap_cell {w : World} {B g cf n cl : Nat} {A : Option Addr} {l : List Lap} {k : Nat} {r : Lap} (h : w.ownsRow B 67 1 (.slice A n cl) n (lapVals g cf l)) (hk : l[k]? = some r) :
    ∃ gl, A = some ⟨gl, 0, none⟩ ∧ gl < w.heap.size ∧ B ≤ gl ∧ k < n ∧ w.cell? ⟨gl, k, none⟩ = some (lapVal g cf r) := by
  have hl : l.length = n := by have := h.1; unfold lapVals at this; rw [List.length_map] at this; omega
  have hkn : k < l.length := by
    rcases Nat.lt_or_ge k l.length with h1 | h1
    · exact h1
    · rw [List.getElem?_eq_none h1] at hk; cases hk
  obtain ⟨gl, cap, hv, _, hlt⟩ := h.form (by omega)
  have hA : A = some ⟨gl, 0, none⟩ ∧ cl = cap := by injection hv with h1 _ h2; exact ⟨h1, h2⟩
  obtain ⟨rfl, rfl⟩ := hA
  refine ⟨gl, rfl, hlt, (h.lt gl rfl).1, by omega, (h.cellAt k (by omega)).trans ?_⟩
  unfold lapVals
  rw [List.getElem?_map, hk]
  rfl
/-- A lap's value and the cells of its last point. -/
theorem lap_last {w : World} {g c : Nat} {qs : List QP} {r : Lap} (hp : PCells w g 0 qs) (hr : LapOK (dirR qs) (qs.length - 1) r) (hlo : 2 ≤ qs.length) : ∃ L cc, lapVal g c r = .slice (some ⟨g, r.1 * 4, none⟩) (L + 1) cc ∧ L + r.1 = r.2.1 ∧ 1 ≤ L ∧
    w.cell? ⟨g, r.1 * 4 + L * 4, none⟩ = some (.int .i64 (qAt qs r.2.1).1.num) ∧ w.cell? ⟨g, r.1 * 4 + L * 4 + 1, none⟩ = some (.int .i64 (qAt qs r.2.1).1.den) ∧
    w.cell? ⟨g, r.1 * 4 + L * 4 + 2, none⟩ = some (.int .i64 (qAt qs r.2.1).2.num) ∧ w.cell? ⟨g, r.1 * 4 + L * 4 + 3, none⟩ = some (.int .i64 (qAt qs r.2.1).2.den) := by
  have h1 := hr.lt
  have h2 := hr.le
  obtain ⟨L, hL⟩ : ∃ L, L = r.2.1 - r.1 := ⟨_, rfl⟩
  refine ⟨L, c - r.1, ?_, by omega, by omega, ?_⟩
  · unfold lapVal
    rw [show r.2.1 + 1 - r.1 = L + 1 by omega]
  · have h3 := hp.cel r.2.1 (by omega)
    rw [show 0 + r.2.1 * 4 = r.1 * 4 + L * 4 by omega] at h3
    exact h3

set_option maxRecDepth 100000 in
set_option maxHeartbeats 1600000 in
theorem indexLap_any (A : Option Addr) (n cl B g c xb : Nat) (qs : List QP) (x : Rat) (w : World) (hv : w.ownsRow B 67 1 (.slice A n cl) n (lapVals g c (lapsQ qs))) (hp : PCells w g 0 qs) (hg : GMap qs) (hxf : fits x = true) (hx1 : x ≤ 1)
    (c0 : w.cell? ⟨xb, 0, none⟩ = some (.int .i64 x.num)) (c1 : w.cell? ⟨xb, 1, none⟩ = some (.int .i64 x.den)) (hxb : xb < w.heap.size) :
    Calls Try.prog 33 #[.slice A n cl, .func (.func 34) #[] #[.pointer (some ⟨xb, 0, none⟩)]] w fun e w' => e = .returned (.int .i64 (adQ qs x : Int)) ∧ Below w.heap.size w w' := by
  have hl : (lapsQ qs).length = n := by have := hv.1; unfold lapVals at this; rw [List.length_map] at this; omega
  have hlt := adQ_lt hg hx1
  have hll := lapsQ_len hg
  rw [hl] at hlt hll
  obtain ⟨z, hz⟩ : ∃ z, z = adQ qs x := ⟨_, rfl⟩
  rw [← hz]
  have HV := hide hv; have HP := hide hp; have HL := Lib.hid hl; have HC0 := Lib.hid c0; have HC1 := Lib.hid c1; have HZ := Lib.hid hz
  clear hv hp hl c0 c1 hz hlt
  go_enter Try.func33, Try.ntmps33
  go_wp2_with fail
  go_loopw [8] (fun i wr => ∃ k : Nat, i = .int .i64 (k : Int) ∧ k ≤ n ∧ Hid (∀ (j : Nat) (s : Lap), j < k → (lapsQ qs)[j]? = some s → (qAt qs s.2.1).1 < x) ∧ Below w.heap.size w wr) (fun i _ => n - (intOf i).toNat)
  case atStart => exact ⟨0, rfl, by omega, hide (fun j s h => by omega), Below.refl _ _⟩
  case round =>
    obtain ⟨k, rfl, hk, hnz, hbwr⟩ := hrel
    have hzwr := hbwr.size
    have hkl : k < n := by
      rcases Nat.lt_or_ge k n with h | h
      · exact h
      · exfalso
        obtain ⟨r, hr, hr1⟩ := lapsQ_lastX hg
        have h2 := (unhide hnz) ((lapsQ qs).length - 1) r (by have := HL.out; have := lapsQ_pos hg; omega) hr
        have hlast := hg.last
        rw [show qs.length - 1 = r.2.1 by omega] at hlast
        rw [hlast] at h2
        grind
    obtain ⟨r, hr⟩ : ∃ r, (lapsQ qs)[k]? = some r := ⟨_, List.getElem?_eq_getElem (by rw [HL.out]; exact hkl)⟩
    have hrm : r ∈ lapsQ qs := List.mem_iff_getElem?.2 ⟨_, hr⟩
    have hok : LapOK (dirR qs) (qs.length - 1) r := lapsK_ok _ _ r hrm
    obtain ⟨gl, rfl, hgl, -, -, hcell⟩ := lap_cell (own_below (unhide HV) hbwr) hr
    have hpw := (unhide HP).below hbwr
    obtain ⟨L, cc, hval, hL1, hL2, q0, q1, q2, q3⟩ := lap_last (c := c) hpw hok hg.lo
    rw [hval] at hcell
    have hle := hok.le
    have hhi := hg.hi
    have hcl := hasLap_any g (r.1 * 4) L cc xb (qAt qs r.2.1) x wr (by omega) hpw.lt q0 q1 q2 q3 (hg.cx _ (by have := hg.lo; omega)) hxf ((hbwr.cell (p := ⟨xb, 0, none⟩) hxb).trans HC0.out) ((hbwr.cell (p := ⟨xb, 1, none⟩) hxb).trans HC1.out) (by omega)
    have hgl3 := hpw.lt
    have hyes : ¬ (qAt qs r.2.1).1 < x → adQ qs x = k := fun h => adQ_at hr (unhide hnz) h
    have hno : (qAt qs r.2.1).1 < x → ∀ (j : Nat) (s : Lap), j < k + 1 → (lapsQ qs)[j]? = some s → (qAt qs s.2.1).1 < x := fun h j s hj hs => by
      rcases Nat.lt_or_ge j k with h1 | h1
      · exact (unhide hnz) j s h1 hs
      · obtain rfl : j = k := by omega
        rw [hr] at hs
        injection hs with hs
        subst hs
        exact h
    have HCL := hide hcl; have HY := hide hyes; have HN := hide hno; have HB := hide hbwr
    clear hcl hyes hno hbwr hnz hval q0 q1 q2 q3 hok hrm hr hpw
    by_cases hc : (qAt qs r.2.1).1 < x
    · have hn1 := hide ((unhide HN) hc)
      rw [decide_eq_true hc] at HCL
      generalize r.1 * 4 = a0 at *
      clear hc
      go_wp2_with (go_at_call 34; (with_reducible refine (unhide HCL).mono ?_); rintro e w1 ⟨rfl, hbw1⟩)
      have hb := unhide HB
      go_roundw
      case rel => exact ⟨k + 1, by go_num, by omega, hn1, (by repeat (first | with_reducible exact Below.refl _ _ | with_reducible assumption | (with_reducible refine Below.trans ?_ (Below.mono (by assumption) (by first | omega | (simp <;> omega)))) | with_reducible apply Below.drew | with_reducible apply below_drewN | (with_reducible refine Below.alloc ?_ (by first | omega | (simp <;> omega)) _) | (with_reducible refine Below.setCell ?_ (by first | omega | (simp <;> omega)) _)))⟩
      case measure => (simp [intOf] <;> omega)
    · obtain rfl : z = k := HZ.out.trans ((unhide HY) hc)
      rw [decide_eq_false hc] at HCL
      generalize r.1 * 4 = a0 at *
      clear hc
      go_wp2_with (go_at_call 34; (with_reducible refine (unhide HCL).mono ?_); rintro e w1 ⟨rfl, hbw1⟩)
      have hb := unhide HB
      go_ret
      exact ⟨rfl, (by repeat (first | with_reducible exact Below.refl _ _ | with_reducible assumption | (with_reducible refine Below.trans ?_ (Below.mono (by assumption) (by first | omega | (simp <;> omega)))) | with_reducible apply Below.drew | with_reducible apply below_drewN | (with_reducible refine Below.alloc ?_ (by first | omega | (simp <;> omega)) _) | (with_reducible refine Below.setCell ?_ (by first | omega | (simp <;> omega)) _)))⟩

set_option maxRecDepth 100000 in
theorem firstLap_any (A : Option Addr) (n cl B g c : Nat) (qs : List QP) (x : Rat) (w : World) (hv : w.ownsRow B 67 1 (.slice A n cl) n (lapVals g c (lapsQ qs))) (hp : PCells w g 0 qs) (hg : GMap qs) (hxf : fits x = true) (hx1 : x ≤ 1) :
    Calls Try.prog 23 #[.slice A n cl, .agg #[.int .i64 (x.num), .int .i64 (x.den)]] w fun e w' => e = .returned (.int .i64 (adQ qs x : Int)) ∧ Below w.heap.size w w' := by
  have hix := fun W hV hP h0 h1 hl => indexLap_any A n cl B g c w.heap.size qs x W hV hP hg hxf hx1 h0 h1 hl
  have HIX := hide hix; have HV := hide hv; have HP := hide hp
  clear hix hv hp hxf hx1 hg
  generalize adQ qs x = z at *
  generalize x.num = xn at *
  generalize (x.den : Int) = xd at *
  go_enter Try.func23, Try.ntmps23
  go_wp2_with fail
  have hb2 : Below w.heap.size w (w.alloc (.cells #[.int .i64 xn, .int .i64 xd] 31)) := (by repeat (first | with_reducible exact Below.refl _ _ | with_reducible assumption | (with_reducible refine Below.trans ?_ (Below.mono (by assumption) (by first | omega | (simp <;> omega)))) | with_reducible apply Below.drew | with_reducible apply below_drewN | (with_reducible refine Below.alloc ?_ (by first | omega | (simp <;> omega)) _) | (with_reducible refine Below.setCell ?_ (by first | omega | (simp <;> omega)) _)))
  refine ((unhide HIX) _ (own_below (unhide HV) hb2) ((unhide HP).below hb2) ?p1 ?p2 ?p3).mono ?_
  case p1 => simp [go_sem]
  case p2 => simp [go_sem]
  case p3 => simp
  rintro e w3 ⟨rfl, hbw3⟩
  have hbz := hb2.trans (hbw3.mono hb2.size)
  go_wp2_with fail
  go_ret
  exact ⟨rfl, hbz⟩
/-! ### The model's address -/
set_option maxRecDepth 100000 in
set_option maxHeartbeats 1600000 in
theorem woAddress_any (g m c base : Nat) (qs : List QP) (x : Rat) (w : World) (ha : w.ownsRow base 45 4 (.slice (some ⟨g, 0, none⟩) (m + 1) c) (m + 1) (ptcs (qs.map qp))) (hg : GMap qs) (hxf : fits x = true) (hx1 : x ≤ 1) :
    Calls Try.prog 18 #[.slice (some ⟨g, 0, none⟩) (m + 1) c, .agg #[.int .i64 (x.num), .int .i64 (x.den)]] w fun e w' => e = .returned (.int .i64 (adQ qs x : Int)) ∧ Below w.heap.size w w' := by
  have hlen : qs.length = m + 1 := by have := own_len ha; rw [List.length_map] at this; exact this
  have hlo := hg.lo
  have hhi := hg.hi
  rw [hlen] at hlo hhi
  have hlt := adQ_lt hg hx1
  have hll := lapsQ_len hg
  have hcon := fun W hW => imLaps_map g m c base qs W hW hg
  have hlq : lapsK (dirR qs) m = lapsQ qs := by unfold lapsQ; rw [hlen]; rfl
  have hrows : lapRows (dirR qs) m = (lapsQ qs).map lapRow := by rw [← hlq]; rfl
  rw [hrows] at hcon
  have hP := PCells.own ha
  have hgl : g < w.heap.size := hP.lt
  obtain ⟨z, hz⟩ : ∃ z, z = adQ qs x := ⟨_, rfl⟩
  rw [← hz] at hlt ⊢
  obtain ⟨n, hn⟩ : ∃ n, n = (lapsQ qs).length := ⟨_, rfl⟩
  rw [← hn] at hlt hll
  obtain ⟨xn, hxn⟩ : ∃ r, r = x.num := ⟨_, rfl⟩
  obtain ⟨xd, hxd⟩ : ∃ r, r = (x.den : Int) := ⟨_, rfl⟩
  rw [← hxn, ← hxd]
  have HX := Lib.hid (And.intro hxn hxd); have HN := Lib.hid hn; have HZ := Lib.hid hz; have HC := hide hcon; have HA := hide ha; have HP := hide hP; have HL := Lib.hid hlen
  clear hxn hxd hn hz hcon ha hP hlen hlq hrows hlt
  go_enter Try.func18, Try.ntmps18
  go_wp2_with fail
  have hbA : Below w.heap.size w (w.alloc (.cells #[.int .i64 xn, .int .i64 xd] 31)) := (by repeat (first | with_reducible exact Below.refl _ _ | with_reducible assumption | (with_reducible refine Below.trans ?_ (Below.mono (by assumption) (by first | omega | (simp <;> omega)))) | with_reducible apply Below.drew | with_reducible apply below_drewN | (with_reducible refine Below.alloc ?_ (by first | omega | (simp <;> omega)) _) | (with_reducible refine Below.setCell ?_ (by first | omega | (simp <;> omega)) _)))
  have cx0 : (w.alloc (.cells #[.int .i64 xn, .int .i64 xd] 31)).cell? ⟨w.heap.size, 0, none⟩ = some (.int .i64 xn) := by simp [go_sem]
  have cx1 : (w.alloc (.cells #[.int .i64 xn, .int .i64 xd] 31)).cell? ⟨w.heap.size, 1, none⟩ = some (.int .i64 xd) := by simp [go_sem]
  have hwA : w.heap.size < (w.alloc (.cells #[.int .i64 xn, .int .i64 xd] 31)).heap.size := by simp
  generalize w.alloc (.cells #[.int .i64 xn, .int .i64 xd] 31) = w2 at *
  refine ((unhide HC) w2 (own_below (unhide HA) hbA)).mono ?_
  rintro e w1 ⟨v, bs, rfl, hnest, hbw1⟩
  obtain ⟨A1, d1, rfl⟩ := hnest.slice
  have hrl : ((lapsQ qs).map lapRow).length = n := by rw [List.length_map, HN.out]
  rw [hrl] at hnest ⊢
  have hbB := hbA.trans (hbw1.mono hbA.size)
  have hzB := hbB.size
  have dx0 := (hbw1.cell (p := ⟨w.heap.size, 0, none⟩) hwA).trans cx0
  have dx1 := (hbw1.cell (p := ⟨w.heap.size, 1, none⟩) hwA).trans cx1
  have hw1 : w.heap.size < w1.heap.size := Nat.lt_of_lt_of_le hwA hbw1.size
  have hg1 : g < w1.heap.size := by omega
  have HNE := hide hnest; have HBB := hide hbB; have HP1 := hide ((unhide HP).below hbB)
  clear hnest hbB hbw1 hbA cx0 cx1 hrl
  go_wp2_with fail
  go_loopw [6] (fun i wr => ∃ k : Nat, i = .int .i64 (k : Int) ∧ k < n ∧ Hid (∀ (j : Nat) (s : Lap), j < k → (lapsQ qs)[j]? = some s → (qAt qs s.2.1).1 < x) ∧ Below w1.heap.size w1 wr) (fun i _ => n - (intOf i).toNat)
  case atStart => exact ⟨0, rfl, by have := HN.out; have := lapsQ_pos hg; omega, hide (fun j s h => by omega), Below.refl _ _⟩
  case round =>
    obtain ⟨k, rfl, hk, hnz, hbwr⟩ := hrel
    have hzwr := hbwr.size
    obtain ⟨r, hr⟩ : ∃ r, (lapsQ qs)[k]? = some r := ⟨_, List.getElem?_eq_getElem (by rw [← HN.out]; exact hk)⟩
    have hrm : r ∈ lapsQ qs := List.mem_iff_getElem?.2 ⟨_, hr⟩
    have hok : LapOK (dirR qs) (qs.length - 1) r := lapsK_ok _ _ r hrm
    have hle := hok.le
    have hrr : ((lapsQ qs).map lapRow)[k]? = some (lapRow r) := by rw [List.getElem?_map, hr]; rfl
    obtain ⟨go, b, rfl, -, -, -, hgol, hbl, hBb, hgb, hoc, hcells⟩ := ((unhide HNE).below hbwr).at hrr
    have hc1 := (hcells 1 (r.2.1 : Int) rfl).1
    rw [show (lapRow r).length = 3 from rfl] at hoc
    have hpw := (unhide HP1).below hbwr
    have hrb : r.2.1 < m + 1 := by have := HL.out; omega
    obtain ⟨q0, q1, -, -⟩ := hpw.cel r.2.1 (by have := HL.out; omega)
    rw [Nat.zero_add] at q0 q1
    have xr0 := (hbwr.cell (p := ⟨w.heap.size, 0, none⟩) hw1).trans dx0
    have xr1 := (hbwr.cell (p := ⟨w.heap.size, 1, none⟩) hw1).trans dx1
    have hgr : g < wr.heap.size := by omega
    have hwr1 : w.heap.size < wr.heap.size := by omega
    have hord := fun W => raCmp_q (qAt qs r.2.1).1 x (co_fits (hg.cx _ (by have := HL.out; omega))) hxf W
    rw [← HX.out.1, ← HX.out.2] at hord
    have hyes : ¬ (qAt qs r.2.1).1 < x → adQ qs x = k := fun h => adQ_at hr (unhide hnz) h
    have hno : (qAt qs r.2.1).1 < x → ∀ (j : Nat) (s : Lap), j < k + 1 → (lapsQ qs)[j]? = some s → (qAt qs s.2.1).1 < x := fun h j s hj hs => by
      rcases Nat.lt_or_ge j k with h1 | h1
      · exact (unhide hnz) j s h1 hs
      · obtain rfl : j = k := by omega
        rw [hr] at hs
        injection hs with hs
        subst hs
        exact h
    have hk1 : (qAt qs r.2.1).1 < x → k + 1 < n := fun h => by
      rcases Nat.lt_or_ge (k + 1) n with h1 | h1
      · exact h1
      · obtain ⟨s, hs, hs1⟩ := lapsQ_lastX hg
        have e : (lapsQ qs).length - 1 = k := by have := HN.out; omega
        rw [e, hr] at hs
        injection hs with hs
        subst hs
        have hlast := hg.last
        rw [show qs.length - 1 = r.2.1 by omega] at hlast
        rw [hlast] at h
        grind
    have HY := hide hyes; have HNO := hide hno; have HK1 := hide hk1; have HB := hide hbwr; have HO := hide hord
    have s2 : (0 : Int) ≤ (r.2.1 : Int) := by omega
    have s3 : (r.2.1 : Int) < (m : Int) + 1 := by omega
    clear hcells hrr hr hrm hok hyes hno hk1 hbwr hord hpw hnz dx0 dx1
    by_cases hc : (qAt qs r.2.1).1 < x
    · have hn1 := hide ((unhide HNO) hc)
      have hkn := (unhide HK1) hc
      rw [show cq (qAt qs r.2.1).1 x = -1 from if_pos hc] at HO
      clear hc HNO HK1 HY
      generalize (qAt qs r.2.1).1.num = e1 at *
      generalize ((qAt qs r.2.1).1.den : Int) = e2 at *
      generalize r.2.1 = rb at *
      go_upto_region 3 with fail
      go_cut [21] (fun s21 wx => s21 = .bool true ∧ Below wr.heap.size wr wx)
      case first =>
        go_region_held3 (fun w' => w'.cell? ⟨go, k, none⟩ = some (.slice (some ⟨b, 0, none⟩) 3 3) ∧ w'.cell? ⟨b, 1, none⟩ = some (.int .i64 (rb : Int)) ∧ w'.cell? ⟨g, rb * 4, none⟩ = some (.int .i64 e1) ∧ w'.cell? ⟨g, rb * 4 + 1, none⟩ = some (.int .i64 e2) ∧ w'.cell? ⟨w.heap.size, 0, none⟩ = some (.int .i64 xn) ∧ w'.cell? ⟨w.heap.size, 1, none⟩ = some (.int .i64 xd)) (simp [go_sem, *])
          ((go_at_call 30; (with_reducible refine ((unhide HO) _).mono ?_); rintro e w3 ⟨rfl, hbw3⟩; obtain ⟨hcw3, hfw3⟩ := bcell hbw3; have hzw3 := hbw3.size; (try simp at hzw3); (try ((have kw3goX0 := (bnew hbw3) (go) ?pf); (case pf => (first | omega | (simp; done) | (simp; omega))); obtain ⟨kcw3goX0, kfw3goX0, klw3goX0⟩ := kw3goX0)); (try ((have kw3bX0 := (bnew hbw3) (b) ?pf); (case pf => (first | omega | (simp; done) | (simp; omega))); obtain ⟨kcw3bX0, kfw3bX0, klw3bX0⟩ := kw3bX0)); (try ((have kw3gX0 := (bnew hbw3) (g) ?pf); (case pf => (first | omega | (simp; done) | (simp; omega))); obtain ⟨kcw3gX0, kfw3gX0, klw3gX0⟩ := kw3gX0)); (try ((have kw3w.heap.sizeX0 := (bnew hbw3) (w.heap.size) ?pf); (case pf => (first | omega | (simp; done) | (simp; omega))); obtain ⟨kcw3w.heap.sizeX0, kfw3w.heap.sizeX0, klw3w.heap.sizeX0⟩ := kw3w.heap.sizeX0))))
        all_goals
          go_wp2_with fail
          go_meet
          exact ⟨rfl, (by repeat (first | with_reducible exact Below.refl _ _ | with_reducible assumption | (with_reducible refine Below.trans ?_ (Below.mono (by assumption) (by first | omega | (simp <;> omega)))) | with_reducible apply Below.drew | with_reducible apply below_drewN | (with_reducible refine Below.alloc ?_ (by first | omega | (simp <;> omega)) _) | (with_reducible refine Below.setCell ?_ (by first | omega | (simp <;> omega)) _)))⟩
      case rest =>
        obtain ⟨rfl, hbx⟩ := hcut
        have hb := unhide HB
        go_wp2_with fail
        go_roundw
        case rel => exact ⟨k + 1, by go_num, hkn, hn1, (by repeat (first | with_reducible exact Below.refl _ _ | with_reducible assumption | (with_reducible refine Below.trans ?_ (Below.mono (by assumption) (by first | omega | (simp <;> omega)))) | with_reducible apply Below.drew | with_reducible apply below_drewN | (with_reducible refine Below.alloc ?_ (by first | omega | (simp <;> omega)) _) | (with_reducible refine Below.setCell ?_ (by first | omega | (simp <;> omega)) _)))⟩
        case measure => (simp [intOf] <;> omega)
    · obtain rfl : z = k := HZ.out.trans ((unhide HY) hc)
      have hge : ¬ cq (qAt qs r.2.1).1 x < 0 := fun h => hc (cq_lt.1 h)
      obtain ⟨y, hy⟩ : ∃ y, y = cq (qAt qs r.2.1).1 x := ⟨_, rfl⟩
      rw [← hy] at hge HO
      have hz0 : decide (y < 0) = false := decide_eq_false hge
      clear hc hy hge HNO HK1 HY
      generalize (qAt qs r.2.1).1.num = e1 at *
      generalize ((qAt qs r.2.1).1.den : Int) = e2 at *
      generalize r.2.1 = rb at *
      go_upto_region 3 with fail
      go_cut [21] (fun s21 wx => s21 = .bool false ∧ Below wr.heap.size wr wx)
      case first =>
        go_region_held3 (fun w' => w'.cell? ⟨go, z, none⟩ = some (.slice (some ⟨b, 0, none⟩) 3 3) ∧ w'.cell? ⟨b, 1, none⟩ = some (.int .i64 (rb : Int)) ∧ w'.cell? ⟨g, rb * 4, none⟩ = some (.int .i64 e1) ∧ w'.cell? ⟨g, rb * 4 + 1, none⟩ = some (.int .i64 e2) ∧ w'.cell? ⟨w.heap.size, 0, none⟩ = some (.int .i64 xn) ∧ w'.cell? ⟨w.heap.size, 1, none⟩ = some (.int .i64 xd)) (simp [go_sem, *])
          ((go_at_call 30; (with_reducible refine ((unhide HO) _).mono ?_); rintro e w3 ⟨rfl, hbw3⟩; obtain ⟨hcw3, hfw3⟩ := bcell hbw3; have hzw3 := hbw3.size; (try simp at hzw3); (try ((have kw3goX0 := (bnew hbw3) (go) ?pf); (case pf => (first | omega | (simp; done) | (simp; omega))); obtain ⟨kcw3goX0, kfw3goX0, klw3goX0⟩ := kw3goX0)); (try ((have kw3bX0 := (bnew hbw3) (b) ?pf); (case pf => (first | omega | (simp; done) | (simp; omega))); obtain ⟨kcw3bX0, kfw3bX0, klw3bX0⟩ := kw3bX0)); (try ((have kw3gX0 := (bnew hbw3) (g) ?pf); (case pf => (first | omega | (simp; done) | (simp; omega))); obtain ⟨kcw3gX0, kfw3gX0, klw3gX0⟩ := kw3gX0)); (try ((have kw3w.heap.sizeX0 := (bnew hbw3) (w.heap.size) ?pf); (case pf => (first | omega | (simp; done) | (simp; omega))); obtain ⟨kcw3w.heap.sizeX0, kfw3w.heap.sizeX0, klw3w.heap.sizeX0⟩ := kw3w.heap.sizeX0))))
        all_goals
          go_wp2_with fail
          go_meet
          exact ⟨rfl, (by repeat (first | with_reducible exact Below.refl _ _ | with_reducible assumption | (with_reducible refine Below.trans ?_ (Below.mono (by assumption) (by first | omega | (simp <;> omega)))) | with_reducible apply Below.drew | with_reducible apply below_drewN | (with_reducible refine Below.alloc ?_ (by first | omega | (simp <;> omega)) _) | (with_reducible refine Below.setCell ?_ (by first | omega | (simp <;> omega)) _)))⟩
      case rest =>
        obtain ⟨rfl, hbx⟩ := hcut
        have hb := unhide HB
        have hbB := unhide HBB
        go_wp2_with fail
        go_ret
        exact ⟨rfl, (by repeat (first | with_reducible exact Below.refl _ _ | with_reducible assumption | (with_reducible refine Below.trans ?_ (Below.mono (by assumption) (by first | omega | (simp <;> omega)))) | with_reducible apply Below.drew | with_reducible apply below_drewN | (with_reducible refine Below.alloc ?_ (by first | omega | (simp <;> omega)) _) | (with_reducible refine Below.setCell ?_ (by first | omega | (simp <;> omega)) _)))⟩
end Go.Proofs.Ythccdooacbablab

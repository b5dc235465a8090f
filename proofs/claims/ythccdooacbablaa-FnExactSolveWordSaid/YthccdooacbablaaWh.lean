/-
  Chapter 6: WordSign of the program.
-/
import Derived.Test.YthccdooacbablaaWg
namespace Go.Proofs.Ythccdooacbablaa
open Go.RowKit Rm

/-- The cells of a word. -/
structure WCells (w : World) (g n : Nat) (r : List Int) : Prop where
  lt : g < w.heap.size
  cel : ∀ k, k < n → w.cell? ⟨g, k, none⟩ = some (.int .i64 (r.getD k 0))
theorem WCells.below {w w' : World} {g n : Nat} {r : List Int} (h : WCells w g n r) (hb : Below w.heap.size w w') : WCells w' g n r :=
  ⟨Nat.lt_of_lt_of_le h.lt hb.size, fun k hk => (hb.cell (p := ⟨g, k, none⟩) h.lt).trans (h.cel k hk)⟩
theorem WCells.own {w : World} {base g n c : Nat} {r : List Int} (h : w.ownsRow base 3 1 (.slice (some ⟨g, 0, none⟩) n c) n (ints r)) : WCells w g n r :=
  ⟨(h.lt g rfl).2, fun k hk => by
    obtain ⟨g', h1, _, _, h4⟩ := word_cell h hk
    obtain rfl : g = g' := (Addr.mk.inj (Option.some.inj h1)).1
    exact h4⟩
theorem WCells.less {w : World} {g n m : Nat} {r : List Int} (h : WCells w g n r) (hm : m ≤ n) : WCells w g m r := ⟨h.lt, fun k hk => h.cel k (by omega)⟩

/-- A lap's value and the cells of both ends. -/
theorem lap_ends {w : World} {g c : Nat} {qs : List QP} {r : Lap} (hp : PCells w g 0 qs) (hr : LapOK (dirR qs) (qs.length - 1) r) (hlo : 2 ≤ qs.length) : ∃ L cc, lapVal g c r = .slice (some ⟨g, r.1 * 4, none⟩) (L + 1) cc ∧ L + r.1 = r.2.1 ∧ 1 ≤ L ∧
    w.cell? ⟨g, r.1 * 4 + 2, none⟩ = some (.int .i64 (qAt qs r.1).2.num) ∧ w.cell? ⟨g, r.1 * 4 + 3, none⟩ = some (.int .i64 (qAt qs r.1).2.den) ∧
    w.cell? ⟨g, r.1 * 4 + L * 4, none⟩ = some (.int .i64 (qAt qs r.2.1).1.num) ∧ w.cell? ⟨g, r.1 * 4 + L * 4 + 1, none⟩ = some (.int .i64 (qAt qs r.2.1).1.den) ∧
    w.cell? ⟨g, r.1 * 4 + L * 4 + 2, none⟩ = some (.int .i64 (qAt qs r.2.1).2.num) ∧ w.cell? ⟨g, r.1 * 4 + L * 4 + 3, none⟩ = some (.int .i64 (qAt qs r.2.1).2.den) := by
  obtain ⟨L, cc, h1, h2, h3, h4⟩ := lap_last (c := c) hp hr hlo
  have h5 := hr.lt
  have h6 := hr.le
  obtain ⟨_, _, h7, h8⟩ := hp.cel r.1 (by omega)
  rw [Nat.zero_add] at h7 h8
  exact ⟨L, cc, h1, h2, h3, h7, h8, h4⟩

set_option maxRecDepth 100000 in
theorem sign_any (g a0 L cc : Nat) (p q : QP) (w : World) (hL : L ≤ 100) (hgl : g < w.heap.size) (k2 : w.cell? ⟨g, a0 + 2, none⟩ = some (.int .i64 q.2.num)) (k3 : w.cell? ⟨g, a0 + 3, none⟩ = some (.int .i64 q.2.den))
    (h0 : w.cell? ⟨g, a0 + L * 4, none⟩ = some (.int .i64 p.1.num)) (h1 : w.cell? ⟨g, a0 + L * 4 + 1, none⟩ = some (.int .i64 p.1.den))
    (h2 : w.cell? ⟨g, a0 + L * 4 + 2, none⟩ = some (.int .i64 p.2.num)) (h3 : w.cell? ⟨g, a0 + L * 4 + 3, none⟩ = some (.int .i64 p.2.den)) (hp : co p.2) (hq : co q.2) :
    Calls Try.prog 157 #[.slice (some ⟨g, a0, none⟩) (L + 1) cc] w fun e w' => e = .returned (.int .i64 (cq p.2 q.2)) ∧ Below w.heap.size w w' := by
  have hl := fun (W : World) (hW : Below w.heap.size w W) => last_any g a0 L cc p W hL (Nat.lt_of_lt_of_le hgl hW.size) ((hW.cell hgl).trans h0) ((hW.cell hgl).trans h1) ((hW.cell hgl).trans h2) ((hW.cell hgl).trans h3)
  have hor := fun W => orderOf_q p.2 q.2 (co_fits hp) (co_fits hq) W
  have HL := hide hl; have HO := hide hor
  clear hl hor hp hq h0 h1 h2 h3
  generalize cq p.2 q.2 = z at *
  generalize p.1.num = f1 at *
  generalize (p.1.den : Int) = f2 at *
  generalize p.2.num = f3 at *
  generalize (p.2.den : Int) = f4 at *
  generalize q.2.num = e3 at *
  generalize (q.2.den : Int) = e4 at *
  have hfd := fun W => field1_pt f1 f2 f3 f4 W
  have s1 : (0 : Int) < (L : Int) + 1 := by omega
  go_enter Try.func157, Try.ntmps157
  go_upto_region 1 with fail
  go_region_held3 (fun w' => w'.cell? ⟨g, a0 + 2, none⟩ = some (.int .i64 e3) ∧ w'.cell? ⟨g, a0 + 3, none⟩ = some (.int .i64 e4)) (simp [go_sem, *])
    (first
      | (go_at_call 138; (with_reducible refine ((unhide HL) _ ?pb).mono ?_); (case pb => exact (by repeat (first | with_reducible exact Below.refl _ _ | with_reducible assumption | (with_reducible refine Below.trans ?_ (Below.mono (by assumption) (by first | omega | (simp <;> omega)))) | with_reducible apply Below.drew | with_reducible apply below_drewN | (with_reducible refine Below.alloc ?_ (by first | omega | (simp <;> omega)) _) | (with_reducible refine Below.setCell ?_ (by first | omega | (simp <;> omega)) _)))); rintro e w1 ⟨rfl, hbw1⟩; have hz1 := hbw1.size; (try simp at hz1); (skip; (try ((have kw1gX0 := (bnew hbw1) (g) ?pf); (case pf => (first | omega | (simp; done) | (simp; omega))); obtain ⟨kcw1gX0, kfw1gX0, klw1gX0⟩ := kw1gX0))))
      | (go_at_call 102; (with_reducible refine ((unhide HO) _).mono ?_); rintro e w2 ⟨rfl, hbw2⟩; obtain ⟨hcw2, hfw2⟩ := bcell hbw2; have hzw2 := hbw2.size; (try simp at hzw2); (try ((have kw2gX0 := (bnew hbw2) (g) ?pf); (case pf => (first | omega | (simp; done) | (simp; omega))); obtain ⟨kcw2gX0, kfw2gX0, klw2gX0⟩ := kw2gX0))))
  all_goals
    go_wp2_with fail
    go_ret
    exact ⟨rfl, (by repeat (first | with_reducible exact Below.refl _ _ | with_reducible assumption | (with_reducible refine Below.trans ?_ (Below.mono (by assumption) (by first | omega | (simp <;> omega)))) | with_reducible apply Below.drew | with_reducible apply below_drewN | (with_reducible refine Below.alloc ?_ (by first | omega | (simp <;> omega)) _) | (with_reducible refine Below.setCell ?_ (by first | omega | (simp <;> omega)) _)))⟩

set_option maxRecDepth 100000 in
set_option maxHeartbeats 1600000 in
theorem signOf_any (A : Option Addr) (n cl B g c gw m cw : Nat) (qs : List QP) (r : List Int) (w : World) (hv : w.ownsRow B 120 1 (.slice A n cl) n (lapVals g c (lapsQ qs))) (hp : PCells w g 0 qs) (hg : GMap qs)
    (hw : WCells w gw m r) (hm : m ≤ 1048576) (hmr : m ≤ r.length) (hr : ∀ k ∈ r, 0 ≤ k ∧ k < (lapsQ qs).length) :
    Calls Try.prog 128 #[.slice A n cl, .slice (some ⟨gw, 0, none⟩) m cw] w fun e w' => e = .returned (.int .i64 (sgK qs r m)) ∧ Below w.heap.size w w' := by
  have hl : (lapsQ qs).length = n := by have := hv.1; unfold lapVals at this; rw [List.length_map] at this; omega
  have hll := lapsQ_len hg
  rw [hl] at hll
  have HV := hide hv; have HP := hide hp; have HL := Lib.hid hl; have HW := hide hw; have HR := hide hr; have HMR := Lib.hid hmr
  clear hv hp hl hw hr hmr
  go_enter Try.func128, Try.ntmps128
  go_wp2_with fail
  go_loopw [5, 10] (fun s i wr => ∃ j : Nat, i = .int .i64 (j : Int) ∧ s = .int .i64 (sgK qs r j) ∧ j ≤ m ∧ Below w.heap.size w wr) (fun _ i _ => m - (intOf i).toNat)
  case atStart => exact ⟨0, rfl, rfl, by omega, Below.refl _ _⟩
  case round =>
    obtain ⟨j, rfl, rfl, hj, hbwr⟩ := hrel
    have hzwr := hbwr.size
    by_cases hlt : j < m
    · have hc0 := ((unhide HW).below hbwr).cel j hlt
      have hgw := ((unhide HW).below hbwr).lt
      have hjr : j < r.length := by have := HMR.out; omega
      have hmem : r.getD j 0 ∈ r := by rw [List.getD_eq_getElem?_getD, List.getElem?_eq_getElem hjr]; exact List.getElem_mem hjr
      obtain ⟨hk0, hk1⟩ := (unhide HR) _ hmem
      obtain ⟨kk, hkk⟩ : ∃ kk : Nat, r.getD j 0 = (kk : Int) := ⟨(r.getD j 0).toNat, by omega⟩
      rw [HL.out, hkk] at hk1
      rw [hkk] at hc0
      obtain ⟨rl, hrl⟩ : ∃ rl, (lapsQ qs)[kk]? = some rl := ⟨_, List.getElem?_eq_getElem (by rw [HL.out]; omega)⟩
      have hok : LapOK (dirR qs) (qs.length - 1) rl := lapsK_ok _ _ rl (List.mem_iff_getElem?.2 ⟨_, hrl⟩)
      obtain ⟨gl, rfl, hgl, -, -, hcell⟩ := lap_cell (own_below (unhide HV) hbwr) hrl
      have hpw := (unhide HP).below hbwr
      obtain ⟨L, cc, hval, hL1, hL2, k2, k3, q0, q1, q2, q3⟩ := lap_ends (c := c) hpw hok hg.lo
      rw [hval] at hcell
      have hle := hok.le
      have hlt2 := hok.lt
      have hhi := hg.hi
      have hlo := hg.lo
      have hsg := sign_any g (rl.1 * 4) L cc (qAt qs rl.2.1) (qAt qs rl.1) wr (by omega) hpw.lt k2 k3 q0 q1 q2 q3 (hg.cy _ (by omega)) (hg.cy _ (by omega))
      have hdk : dirK qs (r.getD j 0) = rl.2.2 := by unfold dirK; rw [hkk, Int.toNat_natCast, List.getD_eq_getElem?_getD, hrl]; rfl
      rw [hok.sign, ← hdk] at hsg
      have hst : sgK qs r (j + 1) = sgK qs r j * dirK qs (r.getD j 0) := rfl
      have hb1 := sgK_bd (qs := qs) (r := r) j
      have hb2 := dirK_bd (qs := qs) (r.getD j 0)
      have hmw : IntKind.i64.wrap (sgK qs r j * dirK qs (r.getD j 0)) = sgK qs r j * dirK qs (r.getD j 0) := IntWalk.i64_in _ (by
        have h3 := mul_bd (a := sgK qs r j) (d := dirK qs (r.getD j 0)) (A := 1) (D := 1) (by omega) (by omega) (by omega) (by omega)
        omega)
      have hgl3 := hpw.lt
      have HSG := hide hsg; have HST := Lib.hid hst; have HB := hide hbwr
      clear hsg hst hbwr hval q0 q1 q2 q3 k2 k3 hok hrl hpw hdk hb1 hb2 hmem hkk hle hlt2 hhi hlo
      generalize dirK qs (r.getD j 0) = d at *
      generalize sgK qs r j = s at *
      generalize rl.1 * 4 = a0 at *
      have t1 : (0 : Int) ≤ (kk : Int) := by omega
      go_wp2_with (go_at_call 157; (with_reducible refine (unhide HSG).mono ?_); rintro e w1 ⟨rfl, hbw1⟩)
      have hb := unhide HB
      go_roundw
      case rel => exact ⟨j + 1, by go_num, by rw [HST.out], by omega, (by repeat (first | with_reducible exact Below.refl _ _ | with_reducible assumption | (with_reducible refine Below.trans ?_ (Below.mono (by assumption) (by first | omega | (simp <;> omega)))) | with_reducible apply Below.drew | with_reducible apply below_drewN | (with_reducible refine Below.alloc ?_ (by first | omega | (simp <;> omega)) _) | (with_reducible refine Below.setCell ?_ (by first | omega | (simp <;> omega)) _)))⟩
      case measure => (simp [intOf] <;> omega)
    · obtain rfl : j = m := by omega
      have HB := hide hbwr
      clear hbwr
      go_wp2_with fail
      go_ret
      exact ⟨rfl, unhide HB⟩

def wsI (ps : List Pt) (r : List Int) : Int := match wsB ps [r] with | true => sgK (dec ps) r r.length | false => 0
theorem wsI_no {ps : List Pt} {r : List Int} (h : wsB ps [r] = false) : wsI ps r = 0 := by unfold wsI; simp only [h]
theorem wsI_yes {qs : List QP} {r : List Int} (h : wsB (qs.map qp) [r] = true) : wsI (qs.map qp) r = sgK qs r r.length := by unfold wsI; simp only [h, dec_qp]
theorem wsB_one {ps : List Pt} {r : List Int} : wsB ps [r] = (lmB ps && wdB (lapsQ (dec ps)).length r) := by unfold wsB; simp
theorem wordsAt_one {w : World} {B g n c : Nat} {r : List Int} (h : w.ownsRow B 3 1 (.slice (some ⟨g, 0, none⟩) n c) n (ints r)) (hn : n ≤ 1048576) :
    WordsAt (w.alloc (.cells #[.slice (some ⟨g, 0, none⟩) n c] 23)) w.heap.size [.slice (some ⟨g, 0, none⟩) n c] [r] := by
  refine ⟨by simp, rfl, fun i v hi => ?_, fun i v s hi hs => ?_⟩
  · match i, hi with
    | 0, hi => simp only [List.getElem?_cons_zero, Option.some.injEq] at hi; subst hi; simp [go_sem]
    | i + 1, hi => simp at hi
  · match i, hi, hs with
    | 0, hi, hs =>
      simp only [List.getElem?_cons_zero, Option.some.injEq] at hi hs
      subst hi hs
      exact ⟨_, n, c, B, rfl, hn, h.alloc _⟩
    | i + 1, hi, _ => simp at hi

end Go.Proofs.Ythccdooacbablaa

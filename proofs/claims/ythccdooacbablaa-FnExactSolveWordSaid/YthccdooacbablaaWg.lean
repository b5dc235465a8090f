/-
  Chapter 6: words of laps: lapsOfWords, signOf of the program; what a word is.
-/
import Derived.Test.YthccdooacbablaaWc
import Derived.Test.YthccdooacbablaaRi
namespace Go.Proofs.Ythccdooacbablaa
open Go.RowKit Rm

/-- A number that is no lap's. -/
def badK (n : Nat) (k : Int) : Bool := decide (k < 0) || decide ((n : Int) ≤ k)
theorem badK_no {n : Nat} {k : Int} : badK n k = false ↔ 0 ≤ k ∧ k < n := by unfold badK; simp
/-- A word of n laps. -/
def wdB (n : Nat) (r : List Int) : Bool := decide (r.length ≤ 20) && !r.any (badK n)
theorem wdB_yes {n : Nat} {r : List Int} : wdB n r = true ↔ r.length ≤ 20 ∧ ∀ k ∈ r, 0 ≤ k ∧ k < n := by
  unfold wdB
  simp only [Bool.and_eq_true, decide_eq_true_eq, Bool.not_eq_true', List.any_eq_false]
  refine and_congr_right fun _ => forall_congr' fun k => imp_congr_right fun _ => ?_
  rw [← badK_no, Bool.not_eq_true]
/-- The sign of a lap, by its number. -/
def dirK (qs : List QP) (k : Int) : Int := ((lapsQ qs).getD k.toNat (0, 0, 0)).2.2
/-- The sign of the first j numbers. -/
def sgK (qs : List QP) (r : List Int) : Nat → Int
  | 0 => 1
  | j + 1 => sgK qs r j * dirK qs (r.getD j 0)
theorem dirK_bd {qs : List QP} (k : Int) : -1 ≤ dirK qs k ∧ dirK qs k ≤ 1 := by
  unfold dirK
  rcases Nat.lt_or_ge k.toNat (lapsQ qs).length with h | h
  · rw [List.getD_eq_getElem?_getD, List.getElem?_eq_getElem h, Option.getD_some]
    have := lapsK_ok (dirR qs) (qs.length - 1) _ (List.getElem_mem h)
    rw [← this.dir _ (Nat.le_refl _) this.lt]
    exact cq_bd _ _
  · rw [List.getD_eq_getElem?_getD, List.getElem?_eq_none h]
    decide
theorem sgK_bd {qs : List QP} {r : List Int} : ∀ j, -1 ≤ sgK qs r j ∧ sgK qs r j ≤ 1
  | 0 => ⟨(by decide : (-1 : Int) ≤ 1), Int.le_refl 1⟩
  | j + 1 => by
    have h1 := sgK_bd (qs := qs) (r := r) j
    have h2 := dirK_bd (qs := qs) (r.getD j 0)
    have h3 := mul_bd (a := sgK qs r j) (d := dirK qs (r.getD j 0)) (A := 1) (D := 1) (by omega) (by omega) (by omega) (by omega)
    show -1 ≤ sgK qs r j * dirK qs (r.getD j 0) ∧ sgK qs r j * dirK qs (r.getD j 0) ≤ 1
    omega
/-- A word's cell. -/
theorem word_cell {w : World} {base : Nat} {A : Option Addr} {n c : Nat} {r : List Int} {k : Nat} (h : w.ownsRow base 3 1 (.slice A n c) n (ints r)) (hk : k < n) :
    ∃ g, A = some ⟨g, 0, none⟩ ∧ g < w.heap.size ∧ base ≤ g ∧ w.cell? ⟨g, k, none⟩ = some (.int .i64 (r.getD k 0)) := by
  have hl : r.length = n := by have := h.1; rw [ints_len] at this; omega
  obtain ⟨g, h1, h2, h3, h4, _⟩ := int_cell h (k := k) (x := r.getD k 0) (by simp [show k < r.length by omega])
  exact ⟨g, h1, h2, h3, h4⟩

set_option maxRecDepth 100000 in
theorem isNoNumber_any (k : Int) (lb : Nat) (A : Option Addr) (n c : Nat) (w : World) (h0 : w.cell? ⟨lb, 0, none⟩ = some (.slice A n c)) :
    Calls Try.prog 151 #[.int .i64 k, .pointer (some ⟨lb, 0, none⟩)] w fun e w' => e = .returned (.bool (badK n k)) ∧ Below w.heap.size w w' := by
  by_cases h1 : k < 0
  · rw [show badK n k = true by unfold badK; rw [decide_eq_true h1]; rfl]
    go_enter Try.func151, Try.ntmps151
    go_wp2_with fail
    go_ret
    exact ⟨rfl, (by repeat (first | with_reducible exact Below.refl _ _ | with_reducible assumption | (with_reducible refine Below.trans ?_ (Below.mono (by assumption) (by first | omega | (simp <;> omega)))) | with_reducible apply Below.drew | with_reducible apply below_drewN | (with_reducible refine Below.alloc ?_ (by first | omega | (simp <;> omega)) _) | (with_reducible refine Below.setCell ?_ (by first | omega | (simp <;> omega)) _)))⟩
  · have e : badK n k = decide ((n : Int) ≤ k) := by unfold badK; rw [decide_eq_false h1]; rfl
    rw [e]
    have h2 : decide (k < 0) = false := decide_eq_false h1
    go_enter Try.func151, Try.ntmps151
    go_wp2_with fail
    go_ret
    exact ⟨rfl, (by repeat (first | with_reducible exact Below.refl _ _ | with_reducible assumption | (with_reducible refine Below.trans ?_ (Below.mono (by assumption) (by first | omega | (simp <;> omega)))) | with_reducible apply Below.drew | with_reducible apply below_drewN | (with_reducible refine Below.alloc ?_ (by first | omega | (simp <;> omega)) _) | (with_reducible refine Below.setCell ?_ (by first | omega | (simp <;> omega)) _)))⟩

set_option maxRecDepth 100000 in
set_option maxHeartbeats 800000 in
theorem indexBad_any (A : Option Addr) (m cm B : Nat) (r : List Int) (lb : Nat) (Al : Option Addr) (n c : Nat) (w : World) (hr : w.ownsRow B 3 1 (.slice A m cm) m (ints r)) (hm : m ≤ 1048576)
    (hb : lb < w.heap.size) (h0 : w.cell? ⟨lb, 0, none⟩ = some (.slice Al n c)) :
    Calls Try.prog 170 #[.slice A m cm, .func (.func 151) #[] #[.pointer (some ⟨lb, 0, none⟩)]] w fun e w' =>
      ∃ i : Int, e = .returned (.int .i64 i) ∧ decide (0 ≤ i) = r.any (badK n) ∧ Below w.heap.size w w' := by
  have hl : r.length = m := by have := hr.1; rw [ints_len] at this; omega
  have HR := hide hr; have HL := Lib.hid hl; have H0 := Lib.hid h0
  clear hr hl h0
  go_enter Try.func170, Try.ntmps170
  go_wp2_with fail
  go_loopw [8] (fun i wr => ∃ k : Nat, i = .int .i64 (k : Int) ∧ k ≤ m ∧ Hid (∀ j, j < k → badK n (r.getD j 0) = false) ∧ Below w.heap.size w wr) (fun i _ => m - (intOf i).toNat)
  case atStart => exact ⟨0, rfl, by omega, hide (fun j h => by omega), Below.refl _ _⟩
  case round =>
    obtain ⟨k, rfl, hk, hno, hbwr⟩ := hrel
    have hzwr := hbwr.size
    by_cases hlt : k < m
    · obtain ⟨g, rfl, hg, _, hc⟩ := word_cell (own_below (unhide HR) hbwr) hlt
      have hcl := isNoNumber_any (r.getD k 0) lb Al n c wr ((hbwr.cell (p := ⟨lb, 0, none⟩) hb).trans H0.out)
      have hnx : badK n (r.getD k 0) = false → ∀ j, j < k + 1 → badK n (r.getD j 0) = false := fun h j hj => by
        rcases Nat.lt_or_ge j k with h1 | h1
        · exact (unhide hno) j h1
        · obtain rfl : j = k := by omega
          exact h
      have hyes : badK n (r.getD k 0) = true → r.any (badK n) = true := fun h => by
        rw [List.any_eq_true]
        refine ⟨r.getD k 0, ?_, h⟩
        rw [List.getD_eq_getElem?_getD, List.getElem?_eq_getElem (by rw [HL.out]; exact hlt)]
        exact List.getElem_mem _
      have HCL := hide hcl; have HNX := hide hnx; have HY := hide hyes; have HB := hide hbwr
      clear hcl hnx hyes hno hbwr
      cases hbad : badK n (r.getD k 0) with
      | true =>
        rw [hbad] at HCL
        have hall := Lib.hid ((unhide HY) hbad)
        clear hbad HY HNX
        generalize r.getD k 0 = x at *
        go_wp2_with (go_at_call 151; (with_reducible refine (unhide HCL).mono ?_); rintro e w1 ⟨rfl, hbw1⟩)
        have hb' := unhide HB
        go_ret
        exact ⟨(k : Int), rfl, by rw [hall.out]; exact decide_eq_true (by omega), (by repeat (first | with_reducible exact Below.refl _ _ | with_reducible assumption | (with_reducible refine Below.trans ?_ (Below.mono (by assumption) (by first | omega | (simp <;> omega)))) | with_reducible apply Below.drew | with_reducible apply below_drewN | (with_reducible refine Below.alloc ?_ (by first | omega | (simp <;> omega)) _) | (with_reducible refine Below.setCell ?_ (by first | omega | (simp <;> omega)) _)))⟩
      | false =>
        rw [hbad] at HCL
        have hn1 := hide ((unhide HNX) hbad)
        clear hbad HY HNX
        generalize r.getD k 0 = x at *
        go_wp2_with (go_at_call 151; (with_reducible refine (unhide HCL).mono ?_); rintro e w1 ⟨rfl, hbw1⟩)
        have hb' := unhide HB
        go_roundw
        case rel => exact ⟨k + 1, by go_num, by omega, hn1, (by repeat (first | with_reducible exact Below.refl _ _ | with_reducible assumption | (with_reducible refine Below.trans ?_ (Below.mono (by assumption) (by first | omega | (simp <;> omega)))) | with_reducible apply Below.drew | with_reducible apply below_drewN | (with_reducible refine Below.alloc ?_ (by first | omega | (simp <;> omega)) _) | (with_reducible refine Below.setCell ?_ (by first | omega | (simp <;> omega)) _)))⟩
        case measure => (simp [intOf] <;> omega)
    · obtain rfl : k = m := by omega
      have hall : r.any (badK n) = false := by
        rw [List.any_eq_false]
        intro x hx
        obtain ⟨j, hj, rfl⟩ := List.mem_iff_getElem.1 hx
        have := (unhide hno) j (by rw [← HL.out]; exact hj)
        rw [List.getD_eq_getElem?_getD, List.getElem?_eq_getElem hj, Option.getD_some] at this
        rw [this]; decide
      have HALL := Lib.hid hall
      have HB := hide hbwr
      clear hall hbwr hno
      go_wp2_with fail
      go_ret
      exact ⟨-1, rfl, by rw [HALL.out]; rfl, unhide HB⟩
set_option maxRecDepth 100000 in
theorem containsBad_any (A : Option Addr) (m cm B : Nat) (r : List Int) (lb : Nat) (Al : Option Addr) (n c : Nat) (w : World) (hr : w.ownsRow B 3 1 (.slice A m cm) m (ints r)) (hm : m ≤ 1048576)
    (hb : lb < w.heap.size) (h0 : w.cell? ⟨lb, 0, none⟩ = some (.slice Al n c)) :
    Calls Try.prog 152 #[.slice A m cm, .func (.func 151) #[] #[.pointer (some ⟨lb, 0, none⟩)]] w fun e w' => e = .returned (.bool (r.any (badK n))) ∧ Below w.heap.size w w' := by
  have H := hide (indexBad_any A m cm B r lb Al n c w hr hm hb h0)
  clear hr hb h0
  generalize r.any (badK n) = z at *
  go_enter Try.func152, Try.ntmps152
  go_wp2_with (go_at_call 170; (with_reducible refine (unhide H).mono ?_); rintro e w1 ⟨i, rfl, hi, hbw1⟩)
  go_ret
  exact ⟨by rw [← hi] <;> rfl, hbw1⟩

/-- Words that lie in a slice. -/
structure WordsAt (w : World) (gw : Nat) (vs : List Value) (ws : List (List Int)) : Prop where
  lt : gw < w.heap.size
  len : vs.length = ws.length
  cel : ∀ (i : Nat) (v : Value), vs[i]? = some v → w.cell? ⟨gw, i, none⟩ = some v
  row : ∀ (i : Nat) (v : Value) (r : List Int), vs[i]? = some v → ws[i]? = some r → ∃ (A : Option Addr) (n c B : Nat), v = .slice A n c ∧ n ≤ 1048576 ∧ w.ownsRow B 3 1 (.slice A n c) n (ints r)
theorem WordsAt.below {w w' : World} {gw : Nat} {vs : List Value} {ws : List (List Int)} (h : WordsAt w gw vs ws) (hb : Below w.heap.size w w') : WordsAt w' gw vs ws :=
  ⟨Nat.lt_of_lt_of_le h.lt hb.size, h.len, fun i v hi => (hb.cell (p := ⟨gw, i, none⟩) h.lt).trans (h.cel i v hi), fun i v r h1 h2 => by
    obtain ⟨A, n, c, B, e, hn, ho⟩ := h.row i v r h1 h2
    exact ⟨A, n, c, B, e, hn, own_below ho hb⟩⟩
/-- A lap map and words of it. -/
def wsB (ps : List Pt) (ws : List (List Int)) : Bool := lmB ps && ws.all (wdB (lapsQ (dec ps)).length)

set_option maxRecDepth 100000 in
set_option maxHeartbeats 1600000 in
theorem lapsOfWords_any (A : Option Addr) (n c base : Nat) (ps : List Pt) (gw W cw : Nat) (vs : List Value) (ws : List (List Int)) (w : World) (ha : w.ownsRow base 62 4 (.slice A n c) n (ptcs ps)) (hn : n ≤ 1048576)
    (hw : WordsAt w gw vs ws) (hW : ws.length = W) (hW2 : W ≤ 100) :
    Calls Try.prog 120 #[.slice A n c, .slice (some ⟨gw, 0, none⟩) W cw] w fun e w' =>
      (wsB ps ws = false → e = .returned (.tuple #[.slice none 0 0, .bool false])) ∧
      (∀ (g : Nat) (qs : List QP), A = some ⟨g, 0, none⟩ → ps = qs.map qp → LMap qs → wsB ps ws = true → ∃ v : Value, e = .returned (.tuple #[v, .bool true]) ∧ w'.ownsRow w.heap.size 120 1 v (lapsQ qs).length (lapVals g c (lapsQ qs))) ∧
      Below w.heap.size w w' := by
  have hlw := lapsWith_any A n c base ps w ha hn
  have HLW := hide hlw; have HW := hide hw; have HWL := Lib.hid hW; clear hlw hw hW
  rcases hm : lmB ps with _ | _
  · have hz : wsB ps ws = false := by unfold wsB; rw [hm]; rfl
    have HM := Lib.hid hm; have HZ := Lib.hid hz
    clear hm hz ha
    refine Calls.mono (R := fun e w' => e = .returned (.tuple #[.slice none 0 0, .bool false]) ∧ Below w.heap.size w w') ?_ fun e w' h => ⟨fun _ => h.1, fun g qs _ h2 h3 h4 => by rw [HZ.out] at h4; (cases h4), h.2⟩
    go_enter Try.func120, Try.ntmps120
    go_wp2_with (go_at_call 73; (with_reducible refine (unhide HLW).mono ?_); rintro e w1 ⟨h1, _, hbw1⟩; obtain rfl := h1 HM.out; clear h1; have hz1 := hbw1.size)
    go_ret2
    exact ⟨rfl, (by repeat (first | with_reducible exact Below.refl _ _ | with_reducible assumption | (with_reducible refine Below.trans ?_ (Below.mono (by assumption) (by first | omega | (simp <;> omega)))) | with_reducible apply Below.drew | with_reducible apply below_drewN | (with_reducible refine Below.alloc ?_ (by first | omega | (simp <;> omega)) _) | (with_reducible refine Below.setCell ?_ (by first | omega | (simp <;> omega)) _)))⟩
  · obtain ⟨qs, hq, hl⟩ := lmB_of hm
    have hmb : mapB ps = true := by rw [hq]; exact hl.toGMap.mapB
    obtain ⟨g, mm, qs', hAg, hnm, hq', hg', hlen⟩ := own_form ha hmb
    obtain rfl : qs = qs' := by have := congrArg dec (hq.symm.trans hq'); rwa [dec_qp, dec_qp] at this
    subst hAg hnm hq
    have hwz : wsB (qs.map qp) ws = ws.all (wdB (lapsQ qs).length) := by unfold wsB; rw [hm, dec_qp]; rfl
    have hllen := lapsQ_len hg'
    refine Calls.mono (R := fun e w' => (ws.all (wdB (lapsQ qs).length) = false → e = .returned (.tuple #[.slice none 0 0, .bool false])) ∧
      (ws.all (wdB (lapsQ qs).length) = true → ∃ v : Value, e = .returned (.tuple #[v, .bool true]) ∧ w'.ownsRow w.heap.size 120 1 v (lapsQ qs).length (lapVals g c (lapsQ qs))) ∧ Below w.heap.size w w') ?_
      fun e w' h => ⟨fun hz => h.1 (hwz.symm.trans hz), fun g2 qs2 e1 e2 _ e4 => by
        obtain rfl : g = g2 := by injection e1 with e1; exact (Addr.mk.inj e1).1
        obtain rfl : qs = qs2 := by have := congrArg dec e2; rwa [dec_qp, dec_qp] at this
        exact h.2.1 (hwz.symm.trans e4), h.2.2⟩
    have HQ := Lib.hid hl
    clear hm ha hq' hmb hg' hlen hl hwz
    obtain ⟨z, hz⟩ : ∃ z, z = ws.all (wdB (lapsQ qs).length) := ⟨_, rfl⟩
    rw [← hz]
    have HZ := Lib.hid hz; clear hz
    go_enter Try.func120, Try.ntmps120
    go_wp2_with (go_at_call 73; (with_reducible refine (unhide HLW).mono ?_); rintro e w1 ⟨_, h2, hbw1⟩; obtain ⟨v1, rfl, hv1⟩ := h2 g qs rfl rfl HQ.out; clear h2; have hz1 := hbw1.size; obtain ⟨A1, c1, rfl⟩ := own_slice hv1; have HV1 := hide hv1; clear hv1)
    have hb2 : Below w.heap.size w (w1.alloc (.cells #[.slice A1 (lapsQ qs).length c1] 98)) := (by repeat (first | with_reducible exact Below.refl _ _ | with_reducible assumption | (with_reducible refine Below.trans ?_ (Below.mono (by assumption) (by first | omega | (simp <;> omega)))) | with_reducible apply Below.drew | with_reducible apply below_drewN | (with_reducible refine Below.alloc ?_ (by first | omega | (simp <;> omega)) _) | (with_reducible refine Below.setCell ?_ (by first | omega | (simp <;> omega)) _)))
    have cl : (w1.alloc (.cells #[.slice A1 (lapsQ qs).length c1] 98)).cell? ⟨w1.heap.size, 0, none⟩ = some (.slice A1 (lapsQ qs).length c1) := by simp [go_sem]
    have hl2 : w1.heap.size < (w1.alloc (.cells #[.slice A1 (lapsQ qs).length c1] 98)).heap.size := by simp
    have hv2 := (unhide HV1).alloc (.cells #[.slice A1 (lapsQ qs).length c1] 98)
    generalize w1.alloc (.cells #[.slice A1 (lapsQ qs).length c1] 98) = w2 at *
    have HV2 := hide hv2; have HB2 := hide hb2; have HCL := Lib.hid cl; have HW2 := hide ((unhide HW).below hb2)
    have hz2 := hb2.size
    clear hv2 hb2 cl hbw1 HV1 HW
    obtain ⟨lb, hlb⟩ : ∃ lb, lb = w1.heap.size := ⟨_, rfl⟩
    rw [← hlb] at hl2 HCL ⊢
    clear hlb
    go_loopw [21] (fun i wr => ∃ k : Nat, i = .int .i64 (k : Int) ∧ k ≤ W ∧ Hid (∀ (j : Nat) (r : List Int), j < k → ws[j]? = some r → wdB (lapsQ qs).length r = true) ∧ Below w2.heap.size w2 wr) (fun i _ => W - (intOf i).toNat)
    case atStart => exact ⟨0, rfl, by omega, hide (fun j r h => by omega), Below.refl _ _⟩
    case round =>
      obtain ⟨k, rfl, hk, hok, hbwr⟩ := hrel
      have hzwr := hbwr.size
      have cl := (hbwr.cell (p := ⟨lb, 0, none⟩) hl2).trans HCL.out
      have hlr : lb < wr.heap.size := by omega
      by_cases hlt : k < W
      · have hWw := (unhide HW2).below hbwr
        obtain ⟨r, hr⟩ : ∃ r, ws[k]? = some r := ⟨_, List.getElem?_eq_getElem (by rw [HWL.out]; exact hlt)⟩
        obtain ⟨v, hv⟩ : ∃ v, vs[k]? = some v := ⟨_, List.getElem?_eq_getElem (by rw [hWw.len, HWL.out]; exact hlt)⟩
        obtain ⟨A4, n4, c4, B4, rfl, hn4, ho4⟩ := hWw.row k v r hv hr
        have hcel := hWw.cel k _ hv
        have hgw := hWw.lt
        have hrl : r.length = n4 := by have := ho4.1; rw [ints_len] at this; omega
        have hnx : wdB (lapsQ qs).length r = true → ∀ (j : Nat) (s : List Int), j < k + 1 → ws[j]? = some s → wdB (lapsQ qs).length s = true := fun h j s hj hs => by
          rcases Nat.lt_or_ge j k with h1 | h1
          · exact (unhide hok) j s h1 hs
          · obtain rfl : j = k := by omega
            rw [hr] at hs
            injection hs with hs
            subst hs
            exact h
        have hbad : wdB (lapsQ qs).length r = false → z = false := fun h => by
          rw [HZ.out, List.all_eq_false]
          exact ⟨r, List.mem_iff_getElem?.2 ⟨_, hr⟩, by rw [h]; decide⟩
        have hwd : wdB (lapsQ qs).length r = (decide (n4 ≤ 20) && !r.any (badK (lapsQ qs).length)) := by unfold wdB; rw [hrl]
        rw [hwd] at hnx hbad
        have hcb := fun W hW1 hW2 hW3 => containsBad_any A4 n4 c4 B4 r lb A1 (lapsQ qs).length c1 W hW1 hn4 hW2 hW3
        have HNX := hide hnx; have HBAD := hide hbad; have HCB := hide hcb; have HO4 := hide ho4; have HB := hide hbwr
        clear hnx hbad hcb ho4 hbwr hWw hr hv hwd hrl hok
        generalize r.any (badK (lapsQ qs).length) = y at *
        by_cases h20 : n4 ≤ 20
        · have d1 : decide ((n4 : Int) > 20) = false := decide_eq_false (by omega)
          rw [decide_eq_true h20, Bool.true_and] at HNX HBAD
          cases y with
          | true =>
            obtain rfl := (unhide HBAD) rfl
            clear HNX HBAD
            go_wp2_with (go_at_call 152; (with_reducible refine ((unhide HCB) _ (unhide HO4) hlr cl).mono ?_); rintro e w3 ⟨rfl, hbw3⟩)
            have hb := unhide HB
            have hb2 := unhide HB2
            go_ret2
            exact ⟨rfl, (by repeat (first | with_reducible exact Below.refl _ _ | with_reducible assumption | (with_reducible refine Below.trans ?_ (Below.mono (by assumption) (by first | omega | (simp <;> omega)))) | with_reducible apply Below.drew | with_reducible apply below_drewN | (with_reducible refine Below.alloc ?_ (by first | omega | (simp <;> omega)) _) | (with_reducible refine Below.setCell ?_ (by first | omega | (simp <;> omega)) _)))⟩
          | false =>
            have hn1 := hide ((unhide HNX) rfl)
            clear HNX HBAD
            go_wp2_with (go_at_call 152; (with_reducible refine ((unhide HCB) _ (unhide HO4) hlr cl).mono ?_); rintro e w3 ⟨rfl, hbw3⟩)
            have hb := unhide HB
            go_roundw
            case rel => exact ⟨k + 1, by go_num, by omega, hn1, (by repeat (first | with_reducible exact Below.refl _ _ | with_reducible assumption | (with_reducible refine Below.trans ?_ (Below.mono (by assumption) (by first | omega | (simp <;> omega)))) | with_reducible apply Below.drew | with_reducible apply below_drewN | (with_reducible refine Below.alloc ?_ (by first | omega | (simp <;> omega)) _) | (with_reducible refine Below.setCell ?_ (by first | omega | (simp <;> omega)) _)))⟩
            case measure => (simp [intOf] <;> omega)
        · have d1 : decide ((n4 : Int) > 20) = true := decide_eq_true (by omega)
          rw [decide_eq_false h20, Bool.false_and] at HNX HBAD
          obtain rfl := (unhide HBAD) rfl
          clear HNX HBAD h20
          go_wp2_with fail
          have hb := unhide HB
          have hb2 := unhide HB2
          go_ret2
          exact ⟨rfl, (by repeat (first | with_reducible exact Below.refl _ _ | with_reducible assumption | (with_reducible refine Below.trans ?_ (Below.mono (by assumption) (by first | omega | (simp <;> omega)))) | with_reducible apply Below.drew | with_reducible apply below_drewN | (with_reducible refine Below.alloc ?_ (by first | omega | (simp <;> omega)) _) | (with_reducible refine Below.setCell ?_ (by first | omega | (simp <;> omega)) _)))⟩
      · obtain rfl : k = W := by omega
        obtain rfl : z = true := by
          rw [HZ.out, List.all_eq_true]
          intro r hr
          obtain ⟨j, hj⟩ := List.mem_iff_getElem?.1 hr
          refine (unhide hok) j r ?_ hj
          rcases Nat.lt_or_ge j k with h | h
          · exact h
          · rw [List.getElem?_eq_none (by rw [HWL.out]; exact h)] at hj; cases hj
        have HV3 := hide (own_below (unhide HV2) hbwr)
        have HB := hide hbwr
        clear hbwr hok
        go_wp2_with fail
        have hb := unhide HB
        have hb2 := unhide HB2
        go_ret2
        exact ⟨⟨_, rfl, unhide HV3⟩, (by repeat (first | with_reducible exact Below.refl _ _ | with_reducible assumption | (with_reducible refine Below.trans ?_ (Below.mono (by assumption) (by first | omega | (simp <;> omega)))) | with_reducible apply Below.drew | with_reducible apply below_drewN | (with_reducible refine Below.alloc ?_ (by first | omega | (simp <;> omega)) _) | (with_reducible refine Below.setCell ?_ (by first | omega | (simp <;> omega)) _)))⟩
end Go.Proofs.Ythccdooacbablaa

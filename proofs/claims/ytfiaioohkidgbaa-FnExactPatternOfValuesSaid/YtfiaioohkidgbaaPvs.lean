/-
  PatternOfValues of the model.
-/
import Derived.Test.YtfiaioohkidgbaaPv
namespace Go.Proofs.Ytfiaioohkidgbaa
open Go.RowKit Rm

set_option maxRecDepth 100000 in
set_option maxHeartbeats 800000 in
theorem l1AllZ_b (gw m cw : Nat) (r : List Int) (lo hi : Int) (b : Bool) (w : World) (hw : ZC w gw m r) (hm : m ≤ 1048576) (hb : b = true ↔ ∀ j, j < m → lo ≤ r.getD j 0 ∧ r.getD j 0 ≤ hi) :
    Calls Try.prog 11 #[.slice (some ⟨gw, 0, none⟩) m cw, .int .i64 lo, .int .i64 hi] w fun e w' => e = .returned (.bool b) ∧ Below w.heap.size w w' := by
  have HW := hide hw; have HBB := hide hb
  clear hw hb
  go_enter Try.func11, Try.ntmps11
  go_wp2_with fail
  go_loopw [11] (fun i wr => ∃ k : Nat, i = .int .i64 (k : Int) ∧ k ≤ m ∧ Hid (∀ j, j < k → lo ≤ r.getD j 0 ∧ r.getD j 0 ≤ hi) ∧ Below w.heap.size w wr) (fun i _ => m - (intOf i).toNat)
  case atStart => exact ⟨0, rfl, by omega, hide (fun j h => by omega), Below.refl _ _⟩
  case round =>
    obtain ⟨k, rfl, hk, hno, hbwr⟩ := hrel
    have hzwr := hbwr.size
    by_cases hlt : k < m
    · have hc := ((unhide HW).below hbwr).at0 k hlt
      have hgw := ((unhide HW).below hbwr).lt
      have hnx : (lo ≤ r.getD k 0 ∧ r.getD k 0 ≤ hi) → ∀ j, j < k + 1 → lo ≤ r.getD j 0 ∧ r.getD j 0 ≤ hi := fun h j hj => by
        rcases Nat.lt_or_ge j k with h1 | h1
        · exact (unhide hno) j h1
        · obtain rfl : j = k := by omega
          exact h
      have hbad : ¬ (lo ≤ r.getD k 0 ∧ r.getD k 0 ≤ hi) → b = false := fun h => Bool.eq_false_iff.2 (fun e => h ((unhide HBB).1 e k hlt))
      have HNX := hide hnx; have HBAD := hide hbad; have HB := hide hbwr
      clear hnx hbad hno hbwr
      generalize r.getD k 0 = x at *
      by_cases hx : lo ≤ x ∧ x ≤ hi
      · have hn1 := hide ((unhide HNX) hx)
        have hin := fun W => l1In_yes hx W
        have HIN := hide hin
        clear hx hin HNX HBAD
        go_wp2_with (go_at_call 10; (with_reducible refine ((unhide HIN) _).mono ?_); rintro e w' ⟨rfl, rfl⟩)
        have hb := unhide HB
        go_roundw
        case rel => exact ⟨k + 1, by go_num, by omega, hn1, (by repeat (first | with_reducible exact Below.refl _ _ | with_reducible assumption | (with_reducible refine Below.trans ?_ (Below.mono (by assumption) (by first | omega | (simp <;> omega)))) | with_reducible apply Below.drew | with_reducible apply below_drewN | (with_reducible refine Below.alloc ?_ (by first | omega | (simp <;> omega)) _) | (with_reducible refine Below.setCell ?_ (by first | omega | (simp <;> omega)) _)))⟩
        case measure => (simp [intOf] <;> omega)
      · obtain rfl : b = false := (unhide HBAD) hx
        have hin := fun W => l1In_no hx W
        have HIN := hide hin
        clear hx hin HNX HBAD
        go_wp2_with (go_at_call 10; (with_reducible refine ((unhide HIN) _).mono ?_); rintro e w' ⟨rfl, rfl⟩)
        have hb := unhide HB
        go_ret
        exact ⟨rfl, (by repeat (first | with_reducible exact Below.refl _ _ | with_reducible assumption | (with_reducible refine Below.trans ?_ (Below.mono (by assumption) (by first | omega | (simp <;> omega)))) | with_reducible apply Below.drew | with_reducible apply below_drewN | (with_reducible refine Below.alloc ?_ (by first | omega | (simp <;> omega)) _) | (with_reducible refine Below.setCell ?_ (by first | omega | (simp <;> omega)) _)))⟩
    · obtain rfl : k = m := by omega
      have HB := hide hbwr
      obtain rfl : b = true := (unhide HBB).2 (unhide hno)
      clear hbwr
      go_wp2_with fail
      have hb := unhide HB
      go_ret
      exact ⟨rfl, (by repeat (first | with_reducible exact Below.refl _ _ | with_reducible assumption | (with_reducible refine Below.trans ?_ (Below.mono (by assumption) (by first | omega | (simp <;> omega)))) | with_reducible apply Below.drew | with_reducible apply below_drewN | (with_reducible refine Below.alloc ?_ (by first | omega | (simp <;> omega)) _) | (with_reducible refine Below.setCell ?_ (by first | omega | (simp <;> omega)) _)))⟩
theorem l1AllZ_any (gw m cw : Nat) (r : List Int) (lo hi : Int) (w : World) (hw : ZC w gw m r) (hm : m ≤ 1048576) :
    Calls Try.prog 11 #[.slice (some ⟨gw, 0, none⟩) m cw, .int .i64 lo, .int .i64 hi] w fun e w' => (∃ b : Bool, e = .returned (.bool b) ∧ (b = true ↔ ∀ j, j < m → lo ≤ r.getD j 0 ∧ r.getD j 0 ≤ hi)) ∧ Below w.heap.size w w' := by
  obtain ⟨b, hb⟩ : ∃ b : Bool, b = true ↔ ∀ j, j < m → lo ≤ r.getD j 0 ∧ r.getD j 0 ≤ hi := by
    by_cases h : ∀ j, j < m → lo ≤ r.getD j 0 ∧ r.getD j 0 ≤ hi
    · exact ⟨true, fun _ => h, fun _ => rfl⟩
    · exact ⟨false, fun e => (by cases e), fun e => absurd e h⟩
  exact (l1AllZ_b gw m cw r lo hi b w hw hm hb).mono fun e w' h => ⟨⟨b, h.1, hb⟩, h.2⟩

set_option maxRecDepth 100000 in
set_option maxHeartbeats 800000 in
theorem l1HasZ_b (gs j d : Nat) (r : List Int) (v : Int) (b : Bool) (w : World) (hc : ZC w gs j r) (hj : j ≤ 1000) (hb : b = true ↔ ∃ t, t < j ∧ r.getD t 0 = v) :
    Calls Try.prog 12 #[.slice (some ⟨gs, 0, none⟩) j d, .int .i64 v] w fun e w' => e = .returned (.bool b) ∧ Below w.heap.size w w' := by
  have HC := hide hc; have HBB := hide hb
  clear hc hb
  go_enter Try.func12, Try.ntmps12
  go_wp2_with fail
  go_loopw [9] (fun i wr => ∃ k : Nat, i = .int .i64 k ∧ k ≤ j ∧ Hid (∀ t, t < k → r.getD t 0 ≠ v) ∧ Below w.heap.size w wr) (fun i _ => j - (intOf i).toNat)
  case atStart => exact ⟨0, rfl, by omega, hide (fun t h => by omega), Below.refl _ _⟩
  case round =>
    obtain ⟨k, rfl, hk, hno, hbwr⟩ := hrel
    by_cases hlt : k < j
    · have hC := (unhide HC).below hbwr
      have f0 := hC.at0 k hlt
      have hgl := hC.lt
      have hyes : r.getD k 0 = v → b = true := fun e => (unhide HBB).2 ⟨k, hlt, e⟩
      have hnx : ¬ r.getD k 0 = v → ∀ t, t < k + 1 → r.getD t 0 ≠ v := fun h t ht => by
        rcases Nat.lt_or_ge t k with h1 | h1
        · exact (unhide hno) t h1
        · obtain rfl : t = k := by omega
          exact h
      have HY := hide hyes; have HN := hide hnx
      have HB := hide hbwr
      clear hC hbwr hyes hnx hno
      generalize r.getD k 0 = x at *
      by_cases hx : x = v
      · obtain rfl : b = true := (unhide HY) hx
        clear HN HY HBB
        subst hx
        go_wp2_with fail
        have hb := unhide HB
        go_ret
        exact ⟨rfl, (by repeat (first | with_reducible exact Below.refl _ _ | with_reducible assumption | (with_reducible refine Below.trans ?_ (Below.mono (by assumption) (by first | omega | (simp <;> omega)))) | with_reducible apply Below.drew | with_reducible apply below_drewN | (with_reducible refine Below.alloc ?_ (by first | omega | (simp <;> omega)) _) | (with_reducible refine Below.setCell ?_ (by first | omega | (simp <;> omega)) _)))⟩
      · have hn1 := hide ((unhide HN) hx)
        clear HN HY
        go_wp2_with fail
        have hb := unhide HB
        go_roundw
        case rel => exact ⟨k + 1, by go_num, by omega, hn1, (by repeat (first | with_reducible exact Below.refl _ _ | with_reducible assumption | (with_reducible refine Below.trans ?_ (Below.mono (by assumption) (by first | omega | (simp <;> omega)))) | with_reducible apply Below.drew | with_reducible apply below_drewN | (with_reducible refine Below.alloc ?_ (by first | omega | (simp <;> omega)) _) | (with_reducible refine Below.setCell ?_ (by first | omega | (simp <;> omega)) _)))⟩
        case measure => simp [intOf]; omega
    · obtain rfl : k = j := by omega
      have HB := hide hbwr
      obtain rfl : b = false := Bool.eq_false_iff.2 (fun e => by
        obtain ⟨t, h1, h2⟩ := (unhide HBB).1 e
        exact (unhide hno) t h1 h2)
      clear hbwr
      go_wp2_with fail
      have hb := unhide HB
      go_ret
      exact ⟨rfl, (by repeat (first | with_reducible exact Below.refl _ _ | with_reducible assumption | (with_reducible refine Below.trans ?_ (Below.mono (by assumption) (by first | omega | (simp <;> omega)))) | with_reducible apply Below.drew | with_reducible apply below_drewN | (with_reducible refine Below.alloc ?_ (by first | omega | (simp <;> omega)) _) | (with_reducible refine Below.setCell ?_ (by first | omega | (simp <;> omega)) _)))⟩
theorem l1HasZ_any (gs j d : Nat) (r : List Int) (v : Int) (w : World) (hc : ZC w gs j r) (hj : j ≤ 1000) :
    Calls Try.prog 12 #[.slice (some ⟨gs, 0, none⟩) j d, .int .i64 v] w fun e w' => (∃ b : Bool, e = .returned (.bool b) ∧ (b = true ↔ ∃ t, t < j ∧ r.getD t 0 = v)) ∧ Below w.heap.size w w' := by
  obtain ⟨b, hb⟩ : ∃ b : Bool, b = true ↔ ∃ t, t < j ∧ r.getD t 0 = v := by
    by_cases h : ∃ t, t < j ∧ r.getD t 0 = v
    · exact ⟨true, fun _ => h, fun _ => rfl⟩
    · exact ⟨false, fun e => (by cases e), fun e => absurd e h⟩
  exact (l1HasZ_b gs j d r v b w hc hj hb).mono fun e w' h => ⟨⟨b, h.1, hb⟩, h.2⟩

theorem lies1Z {W : World} {Y c : Nat} {a : Value} (h0 : W.cell? ⟨Y, 0, none⟩ = some a) : Lies W (.slice (some ⟨Y, 0, none⟩) 1 c) 1 [a] := by
  refine .inr ⟨_, _, rfl, fun j u hu => ?_⟩
  rw [add_at]
  match j, hu with
  | 0, hu => simp only [List.getElem?_cons_zero, Option.some.injEq] at hu; subst hu; exact h0
  | j + 1, hu => simp at hu
/-- The first k ranks. -/
def pvP (r : List Int) (k : Nat) : List Int := (List.range k).map fun i => ((pvR r i : Nat) : Int)
theorem pvP_sn (r : List Int) (k : Nat) : ints (pvP r k) ++ [.int .i64 ((pvR r k : Nat) : Int)] = ints (pvP r (k + 1)) := by
  simp [pvP, ints, List.range_succ]
theorem icells_pvP {w : World} {base g P d : Nat} {r : List Int} (h : w.ownsRow base 3 1 (.slice (some ⟨g, 0, none⟩) P d) P (ints (pvP r P))) (hP : 1 ≤ P) : ICells w g P (pvR r) := by
  have hc : ∀ i, i < P → _ := fun i hi => int_cell h (k := i) (x := ((pvR r i : Nat) : Int)) (by simp [pvP, hi])
  refine ⟨?_, fun i hi => ?_⟩
  · obtain ⟨g', hA, hl, _⟩ := hc 0 (by omega)
    obtain rfl : g = g' := (Addr.mk.inj (Option.some.inj hA)).1
    exact hl
  · obtain ⟨g', hA, _, _, h0, _⟩ := hc i hi
    obtain rfl : g = g' := (Addr.mk.inj (Option.some.inj hA)).1
    exact h0
theorem pvR_lt {r : List Int} {i : Nat} (hi : i < r.length) : pvR r i < r.length := rkN_lt (by simp [ltF]) r.length hi

set_option maxRecDepth 100000 in
set_option maxHeartbeats 3200000 in
theorem sPatternOfValues_any (A : Option Addr) (n c base : Nat) (r : List Int) (w : World) (ha : w.ownsRow base 3 1 (.slice A n c) n (ints r)) (hn : n ≤ 1048576) :
    Calls Try.prog 4 #[.slice A n c] w fun e w' => GivesI w.heap.size (pvL r) (pvZ r) e w' ∧ Below w.heap.size w w' := by
  have hl : r.length = n := by have := ha.1; rw [ints_len] at this; omega
  by_cases h19 : 1 ≤ n ∧ n ≤ 9
  · obtain ⟨g, cap, hv, _, hgl⟩ := ha.form (by omega)
    have hA : A = some ⟨g, 0, none⟩ ∧ c = cap := by injection hv with h1 _ h2; exact ⟨h1, h2⟩
    obtain ⟨rfl, rfl⟩ := hA
    have hnc : n ≤ c := by
      rcases ha.2 with h | ⟨_, _, _, hv2, _, _, h2, _⟩
      · have := h.2; omega
      · injection hv2 with _ _ h3; omega
    have hC := ZC.own ha
    have hin := fun W => l1In_yes (n := (n : Int)) (lo := 1) (hi := 9) (by omega) W
    have hal := fun (W : World) (hW : ZC W g n r) => l1AllZ_any g n c r 0 1000000 W hW hn
    have HIN := hide hin; have HAL := hide hal; have HC := hide hC
    by_cases hall : ∀ j, j < n → 0 ≤ r.getD j 0 ∧ r.getD j 0 ≤ 1000000
    · have hhs := fun (W : World) (k : Nat) (v : Int) (hW : ZC W g k r) (hk : k < n) => l1HasZ_any g k c r v W hW (by omega)
      have hpt := fun (W : World) (g1 d1 : Nat) (hW : ICells W g1 n (pvR r)) => ptOf_any g1 d1 n (pvR r) W hW h19.1 (by omega) (fun i hi => by have := pvR_lt (r := r) (i := i) (by omega); omega)
      have hbad : ∀ k, k < n → (∃ t, t < k ∧ r.getD t 0 = r.getD k 0) → pvZ r = false := fun k hk h => pvZ_twice (by omega) h
      have hgood : (∀ k, k < n → ¬ ∃ t, t < k ∧ r.getD t 0 = r.getD k 0) → pvZ r = true ∧ pvL r = (List.range n).map (fun i => ((ptF (pvR r) n n i : Nat) : Int)) := fun h => by
        have := pvZ_of (r := r) (by omega) (by omega) (fun k hk => hall k (by omega)) (fun k hk => h k (by omega))
        exact ⟨this, by rw [pvL_yes this, hl]⟩
      have hxf : ∀ k, k < n → r.getD k 0 = ((pvF r k : Nat) : Int) := fun k hk => (pvF_at (hall k hk).1).symm
      have hrs : ∀ k m, rkN (ltF (pvF r)) k (m + 1) = if decide (pvF r m < pvF r k) then rkN (ltF (pvF r)) k m + 1 else rkN (ltF (pvF r)) k m := fun k m => rfl
      have hrn : ∀ k, pvR r k = rkN (ltF (pvF r)) k n := fun k => by unfold pvR; rw [hl]
      have hyes : ((true = true) ↔ ∀ j, j < n → 0 ≤ r.getD j 0 ∧ r.getD j 0 ≤ 1000000) := ⟨fun _ => hall, fun _ => rfl⟩
      obtain ⟨i0, hi0, iz0, iz1, iz2⟩ := info_parts iInt
      obtain ⟨z, hz⟩ : ∃ z, z = pvZ r := ⟨_, rfl⟩
      obtain ⟨L, hL⟩ : ∃ L, L = pvL r := ⟨_, rfl⟩
      rw [← hz, ← hL]
      have HALL := hide hall; have HH := hide hhs; have HPT := hide hpt; have HBAD := hide hbad; have HG := hide hgood; have HXF := hide hxf; have HRS := hide hrs; have HRN := hide hrn
      have HZ := Lib.hid hz; have HL := Lib.hid hL
      clear ha hC hin hal hall hhs hpt hbad hgood hxf hrs hrn hz hL hv hl hyes
      go_enter Try.func4, Try.ntmps4
      go_wp2_with (first
        | (go_at_call 10; (with_reducible refine ((unhide HIN) _).mono ?_); rintro e w' ⟨rfl, rfl⟩)
        | (go_at_call 11; (with_reducible refine ((unhide HAL) _ (unhide HC)).mono ?_); rintro e w1 ⟨⟨b, rfl, hb1⟩, hbw1⟩; obtain rfl : b = true := hb1.2 (unhide HALL); clear hb1; have hs1 := hbw1.size))
      have HC1 := hide ((unhide HC).below hbw1)
      have HB1 := hide hbw1
      have hgl1 := (unhide HC1).lt
      clear HC hbw1
      go_loopw [4, 21] (fun v i wr => ∃ (k : Nat) (A1 : Option Addr) (c1 : Nat), i = .int .i64 k ∧ v = .slice A1 k c1 ∧ k ≤ n ∧ Hid (wr.ownsRow w1.heap.size 3 1 (.slice A1 k c1) k (ints (pvP r k))) ∧ Hid (ZC wr g n r) ∧ Hid (∀ j, j < k → ¬ ∃ t, t < j ∧ r.getD t 0 = r.getD j 0) ∧ Below w.heap.size w wr ∧ w1.heap.size ≤ wr.heap.size) (fun _ i _ => n - (intOf i).toNat)
      case atStart => exact ⟨0, none, 0, rfl, rfl, by omega, hide ⟨rfl, .inl ⟨rfl, rfl⟩⟩, HC1, hide (fun j h => by omega), unhide HB1, Nat.le_refl _⟩
      case round =>
        obtain ⟨k, A1, c1, rfl, rfl, hk, HO, hcw, hno, hbwr, h2r⟩ := hrel
        clear HC1 HB1
        have hzwr := hbwr.size
        have hgw2 := (unhide hcw).lt
        by_cases hlt : k < n
        · have f0 := (unhide hcw).at0 k hlt
          rw [(unhide HXF) k hlt] at f0
          have s7 : (0 : Int) ≤ (k : Int) := by omega
          have s8 : (k : Int) ≤ (c : Int) := by omega
          have s9 : ((k : Int)).toNat = k := by omega
          have HC2 := hide ((unhide hcw).less (Nat.le_of_lt hlt))
          have HCK := hide (fun (W : World) (v : Int) (hW : ZC W g k r) => (unhide HH) W k v hW hlt)
          have HXK := Lib.hid ((unhide HXF) k hlt)
          have HB := hide hbwr
          clear hbwr
          obtain ⟨x, hx⟩ : ∃ x, x = pvF r k := ⟨_, rfl⟩
          rw [← hx] at f0
          have HX := Lib.hid hx; clear hx
          go_wp2_with (go_at_call 12; (with_reducible refine ((unhide HCK) _ _ (unhide HC2)).mono ?_); rintro e w5 ⟨⟨b, rfl, hbb⟩, hbw5⟩; have hs5 := hbw5.size; have HBB := hide hbb; clear hbb; rcases b with _ | _)
          · have hnt : ∀ j, j < k + 1 → ¬ ∃ t, t < j ∧ r.getD t 0 = r.getD j 0 := fun j hj => by
              rcases Nat.lt_or_ge j k with h3 | h3
              · exact (unhide hno) j h3
              · obtain rfl : j = k := by omega
                intro h
                rw [HXK.out, ← HX.out] at h
                have := (unhide HBB).2 h
                cases this
            have HNT := hide hnt
            have hc3 := hide ((unhide hcw).below hbw5)
            have HO3 := hide (own_below (unhide HO) hbw5)
            have HB3 := hide ((unhide HB).trans (hbw5.mono hzwr))
            clear hbw5 hcw HB HO f0 HC2 HCK hno HBB hnt
            go_loopw [7, 33] (fun v i wi => ∃ m : Nat, i = .int .i64 m ∧ v = .int .i64 ((rkN (ltF (pvF r)) k m : Nat) : Int) ∧ m ≤ n ∧ Below w5.heap.size w5 wi) (fun _ i _ => n - (intOf i).toNat)
            case atStart => exact ⟨0, rfl, rfl, by omega, Below.refl _ _⟩
            case round =>
              obtain ⟨m, rfl, rfl, hm, hbi⟩ := hrel
              have hzi := hbi.size
              by_cases hmt : m < n
              · have hci := (unhide hc3).below hbi
                have e0 := hci.at0 m hmt
                have hgi := hci.lt
                rw [(unhide HXF) m hmt] at e0
                have hrle := rkN_le (ltF (pvF r)) k m
                have hrs := (unhide HRS) k m
                rw [← HX.out] at hrs
                have HBI := hide hbi
                clear hci hbi
                by_cases hl : pvF r m < x
                · rw [decide_eq_true hl, if_pos rfl] at hrs
                  have HRM := Lib.hid hrs; clear hrs
                  generalize rkN (ltF (pvF r)) k m = r0 at *
                  generalize pvF r m = y at *
                  have e5 : decide ((y : Int) < (x : Int)) = true := decide_eq_true (by omega)
                  go_wp2_with fail
                  have hbi := unhide HBI
                  go_roundw
                  case rel => exact ⟨m + 1, by go_num, by rw [HRM.out]; go_num, by omega, hbi⟩
                  case measure => simp [intOf]; omega
                · rw [decide_eq_false hl, if_neg (by decide)] at hrs
                  have HRM := Lib.hid hrs; clear hrs
                  generalize rkN (ltF (pvF r)) k m = r0 at *
                  generalize pvF r m = y at *
                  have e5 : decide ((y : Int) < (x : Int)) = false := decide_eq_false (by omega)
                  go_wp2_with fail
                  have hbi := unhide HBI
                  go_roundw
                  case rel => exact ⟨m + 1, by go_num, by rw [HRM.out], by omega, hbi⟩
                  case measure => simp [intOf]; omega
              · obtain rfl : m = n := by omega
                have hsn := pvP_sn r k
                have hrle := rkN_le (ltF (pvF r)) k m
                rw [(unhide HRN) k] at hsn
                have HSN := Lib.hid hsn
                have hci := hide ((unhide hc3).below hbi)
                have HOi := hide (own_below (unhide HO3) hbi)
                have HBi := hide ((unhide HB3).trans (hbi.mono (by omega)))
                have hvB : ∀ i, (Value.slice A1 k c1).ownBlock = some i → w1.heap.size ≤ i := fun i e => ((unhide HO3).lt i e).1
                have HVB := hide hvB
                clear hsn hbi hc3 HO3 HB3 hvB
                generalize rkN (ltF (pvF r)) k m = r0 at *
                go_wp2_with (at_builtin; refine wpList_append_any rfl _ _ _ rfl w1.heap.size 3 i0 _ 1 8 Try.underlying22 hi0 iz0 iz1 iz2 rfl (by omega) (.slice A1 k c1) k _ rfl (own_below (unhide HOi) (show Below wr.heap.size wr _ from (by repeat (first | with_reducible exact Below.refl _ _ | with_reducible assumption | (with_reducible refine Below.trans ?_ (Below.mono (by assumption) (by first | omega | (simp <;> omega)))) | with_reducible apply Below.drew | with_reducible apply below_drewN | (with_reducible refine Below.alloc ?_ (by first | omega | (simp <;> omega)) _) | (with_reducible refine Below.setCell ?_ (by first | omega | (simp <;> omega)) _))))) _ 1 [.int .i64 (r0 : Int)] rfl (lies1Z (by simp [go_sem, *])) rfl (by simp [Value.oneCell']) (Nat.le_trans (by omega) maxLen_ge) (by omega) (by first | omega | (simp <;> omega)) (k + 1) rfl ?_; intro A4 c4 w4 hown4 hgrow4)
                rw [HSN.out] at hown4
                have hbz : Below w.heap.size w w4 := Below.grown ((unhide HBi).trans (show Below w.heap.size wr _ from (by repeat (first | with_reducible exact Below.refl _ _ | with_reducible assumption | (with_reducible refine Below.trans ?_ (Below.mono (by assumption) (by first | omega | (simp <;> omega)))) | with_reducible apply Below.drew | with_reducible apply below_drewN | (with_reducible refine Below.alloc ?_ (by first | omega | (simp <;> omega)) _) | (with_reducible refine Below.setCell ?_ (by first | omega | (simp <;> omega)) _))))) hgrow4 (by first | omega | (simp <;> omega)) (fun i e => by have := unhide HVB i e; omega)
                have hc4 := ZC.grown (B := w1.heap.size) ((unhide hci).below (show Below wr.heap.size wr _ from (by repeat (first | with_reducible exact Below.refl _ _ | with_reducible assumption | (with_reducible refine Below.trans ?_ (Below.mono (by assumption) (by first | omega | (simp <;> omega)))) | with_reducible apply Below.drew | with_reducible apply below_drewN | (with_reducible refine Below.alloc ?_ (by first | omega | (simp <;> omega)) _) | (with_reducible refine Below.setCell ?_ (by first | omega | (simp <;> omega)) _))))) hgrow4 hgl1 (unhide HVB)
                have hz4 := hgrow4.size
                simp at hz4
                have HO4 := hide hown4; have HBZ := hide hbz; have HC4 := hide hc4
                clear hown4 hbz hc4 hgrow4
                go_wp2_with fail
                go_roundw
                case rel => exact ⟨k + 1, A4, c4, by go_num, rfl, by omega, HO4, HC4, HNT, unhide HBZ, by omega⟩
                case measure => simp [intOf]; omega
          · have hbd := (unhide HBAD) k hlt (by
              obtain ⟨t, h1, h2⟩ := (unhide HBB).1 (by simp)
              exact ⟨t, h1, by rw [HXK.out, ← HX.out]; exact h2⟩)
            obtain rfl : z = false := HZ.out.trans hbd
            obtain rfl : L = [] := HL.out.trans (pvL_no hbd)
            have hb5 := (unhide HB).trans (hbw5.mono hzwr)
            go_ret2
            exact ⟨givesI_none _ _, hb5⟩
        · obtain rfl : k = n := by omega
          obtain ⟨g1, cap1, hv1, _, hgl2⟩ := (unhide HO).form (by omega)
          have hA1 : A1 = some ⟨g1, 0, none⟩ := by injection hv1 with h1 _ h2
          subst hA1
          have HIC := hide (icells_pvP (unhide HO) h19.1)
          have hgd := (unhide HG) (unhide hno)
          obtain rfl : z = true := HZ.out.trans hgd.1
          have hLe := HL.out.trans hgd.2
          have hLl : L.length = k := by rw [hLe]; simp
          have HLE := Lib.hid hLe; have HLL := Lib.hid hLl
          have HB := hide hbwr
          clear hv1 hbwr HO hgd hLe hLl
          go_wp2_with (go_at_call 13; (with_reducible refine ((unhide HPT) _ _ _ (unhide HIC)).mono ?_); rintro e w6 ⟨rfl, hr6, hbw6⟩)
          have hown := pv_own (base := w.heap.size) hr6 hzwr (by omega)
          have HOWN := hide hown
          have hb6 := (unhide HB).trans (hbw6.mono hzwr)
          have HB6 := hide hb6
          clear hown hr6 hb6 hbw6
          go_ret2
          exact ⟨⟨some ⟨wr.heap.size, 0, none⟩, k, by rw [HLL.out] <;> rfl, by rw [HLL.out, HLE.out]; exact unhide HOWN⟩, unhide HB6⟩
    · have hz : pvZ r = false := by
        rcases hz : pvZ r with _ | _
        · rfl
        · refine absurd (fun j hj => ?_) hall
          exact (pvZ_yes hz).2.2.1 j (by omega)
      rw [pvL_no hz, hz]
      have HN := hide hall
      clear ha hz hC hin hal hall hv hl
      go_enter Try.func4, Try.ntmps4
      go_wp2_with (first
        | (go_at_call 10; (with_reducible refine ((unhide HIN) _).mono ?_); rintro e w' ⟨rfl, rfl⟩)
        | (go_at_call 11; (with_reducible refine ((unhide HAL) _ (unhide HC)).mono ?_); rintro e w1 ⟨⟨b, rfl, hb1⟩, hbw1⟩; (obtain rfl : b = false := Bool.eq_false_iff.2 (fun h => (unhide HN) (hb1.1 h))); clear hb1))
      go_ret2
      exact ⟨givesI_none _ _, (by repeat (first | with_reducible exact Below.refl _ _ | with_reducible assumption | (with_reducible refine Below.trans ?_ (Below.mono (by assumption) (by first | omega | (simp <;> omega)))) | with_reducible apply Below.drew | with_reducible apply below_drewN | (with_reducible refine Below.alloc ?_ (by first | omega | (simp <;> omega)) _) | (with_reducible refine Below.setCell ?_ (by first | omega | (simp <;> omega)) _)))⟩
  · have hz : pvZ r = false := pvZ_len (by rw [hl]; exact h19)
    rw [pvL_no hz, hz]
    have hin := fun W => l1In_no (n := (n : Int)) (lo := 1) (hi := 9) (by omega) W
    have HIN := hide hin
    clear hz hl ha hin
    go_enter Try.func4, Try.ntmps4
    go_wp2_with (go_at_call 10; (with_reducible refine ((unhide HIN) _).mono ?_); rintro e w' ⟨rfl, rfl⟩)
    go_ret2
    exact ⟨givesI_none _ _, (by repeat (first | with_reducible exact Below.refl _ _ | with_reducible assumption | (with_reducible refine Below.trans ?_ (Below.mono (by assumption) (by first | omega | (simp <;> omega)))) | with_reducible apply Below.drew | with_reducible apply below_drewN | (with_reducible refine Below.alloc ?_ (by first | omega | (simp <;> omega)) _) | (with_reducible refine Below.setCell ?_ (by first | omega | (simp <;> omega)) _)))⟩
end Go.Proofs.Ytfiaioohkidgbaa

/-
  PatternOfValues of any list: the answer, and the program's contract.
-/
import Derived.Test.YtfiaioohkidgbaaKp
import Derived.Test.YtfiaioohkidgbaaRi
import Derived.Test.YtfiaioohkidgbaaGi
namespace Go.Proofs.Ytfiaioohkidgbaa
open Go.RowKit Rm

/-- The cells of a list of integers. -/
structure ZC (w : World) (g n : Nat) (r : List Int) : Prop where
  lt : g < w.heap.size
  at0 : ∀ k, k < n → w.cell? ⟨g, k, none⟩ = some (.int .i64 (r.getD k 0))
theorem ZC.below {w w' : World} {g n : Nat} {r : List Int} (h : ZC w g n r) (hb : Below w.heap.size w w') : ZC w' g n r :=
  ⟨Nat.lt_of_lt_of_le h.lt hb.size, fun k hk => (hb.cell (p := ⟨g, k, none⟩) h.lt).trans (h.at0 k hk)⟩
theorem ZC.less {w : World} {g n m : Nat} {r : List Int} (h : ZC w g n r) (hm : m ≤ n) : ZC w g m r := ⟨h.lt, fun k hk => h.at0 k (by omega)⟩
theorem ZC.own {w : World} {base g n c : Nat} {r : List Int} (h : w.ownsRow base 3 1 (.slice (some ⟨g, 0, none⟩) n c) n (ints r)) : ZC w g n r :=
  ⟨(h.lt g rfl).2, fun k hk => by
    have hl : r.length = n := by have := h.1; rw [ints_len] at this; omega
    obtain ⟨g', h1, _, _, h4, _⟩ := int_cell h (k := k) (x := r.getD k 0) (by simp [List.getD_eq_getElem?_getD, List.getElem?_eq_getElem (show k < r.length by omega)])
    obtain rfl : g = g' := (Addr.mk.inj (Option.some.inj h1)).1
    exact h4⟩
theorem ZC.grown {w w' : World} {g n B : Nat} {row : Option Nat} {r : List Int} (h : ZC w g n r) (hg : w.grownBy w' row) (hB : g < B) (hr : ∀ M, row = some M → B ≤ M) : ZC w' g n r := by
  have hne : some g ≠ row := fun e => by have := hr g e.symm; omega
  exact ⟨Nat.lt_of_lt_of_le h.lt hg.size, fun i hi => (World.cell?_of_block (a := ⟨g, i, none⟩) (hg.block g h.lt hne)).trans (h.at0 i hi)⟩

/-- Different values in bounds, 1 to 9 of them. -/
def pvZ (r : List Int) : Bool := decide (1 ≤ r.length) && (decide (r.length ≤ 9) && (r.all (fun x => decide (0 ≤ x ∧ x ≤ 1000000)) && decide r.Nodup))
def pvF (r : List Int) (i : Nat) : Nat := (r.getD i 0).toNat
def pvR (r : List Int) (i : Nat) : Nat := rkN (ltF (pvF r)) i r.length
def pvL (r : List Int) : List Int := if pvZ r then (List.range r.length).map (fun i => ((ptF (pvR r) r.length r.length i : Nat) : Int)) else []
theorem pvL_no {r : List Int} (h : pvZ r = false) : pvL r = [] := by unfold pvL; rw [h]; rfl
theorem pvL_yes {r : List Int} (h : pvZ r = true) : pvL r = (List.range r.length).map (fun i => ((ptF (pvR r) r.length r.length i : Nat) : Int)) := by unfold pvL; rw [h]; rfl
theorem zgetD {r : List Int} {k : Nat} (h : k < r.length) : r.getD k 0 = r[k] := by rw [List.getD_eq_getElem?_getD, List.getElem?_eq_getElem h, Option.getD_some]
theorem pvZ_yes {r : List Int} (h : pvZ r = true) : 1 ≤ r.length ∧ r.length ≤ 9 ∧ (∀ k, k < r.length → 0 ≤ r.getD k 0 ∧ r.getD k 0 ≤ 1000000) ∧ ∀ i j, i < r.length → j < r.length → i ≠ j → r.getD i 0 ≠ r.getD j 0 := by
  unfold pvZ at h
  simp only [Bool.and_eq_true, decide_eq_true_eq, List.all_eq_true] at h
  obtain ⟨h1, h2, h3, h4⟩ := h
  refine ⟨h1, h2, fun k hk => ?_, fun i j hi hj hne e => ?_⟩
  · rw [zgetD hk]; exact h3 _ (List.getElem_mem hk)
  · rw [zgetD hi, zgetD hj] at e
    unfold List.Nodup at h4
    rw [List.pairwise_iff_getElem] at h4
    rcases Nat.lt_or_ge i j with h | h
    · exact h4 i j hi hj h e
    · exact h4 j i hj hi (by omega) e.symm
theorem pvZ_of {r : List Int} (h1 : 1 ≤ r.length) (h2 : r.length ≤ 9) (h3 : ∀ k, k < r.length → 0 ≤ r.getD k 0 ∧ r.getD k 0 ≤ 1000000) (h4 : ∀ j, j < r.length → ¬ ∃ i, i < j ∧ r.getD i 0 = r.getD j 0) : pvZ r = true := by
  unfold pvZ
  simp only [Bool.and_eq_true, decide_eq_true_eq, List.all_eq_true]
  refine ⟨h1, h2, fun x hx => ?_, ?_⟩
  · obtain ⟨k, hk, rfl⟩ := List.mem_iff_getElem.1 hx
    have := h3 k hk
    rwa [zgetD hk] at this
  · unfold List.Nodup
    rw [List.pairwise_iff_getElem]
    intro i j hi hj hij e
    exact h4 j hj ⟨i, hij, by rw [zgetD hi, zgetD hj]; exact e⟩
theorem pvZ_len {r : List Int} (h : ¬ (1 ≤ r.length ∧ r.length ≤ 9)) : pvZ r = false := by
  rcases hz : pvZ r with _ | _
  · rfl
  · exact absurd ⟨(pvZ_yes hz).1, (pvZ_yes hz).2.1⟩ h
theorem pvZ_bad {r : List Int} {k : Nat} (hk : k < r.length) (h : ¬ (0 ≤ r.getD k 0 ∧ r.getD k 0 ≤ 1000000)) : pvZ r = false := by
  rcases hz : pvZ r with _ | _
  · rfl
  · exact absurd ((pvZ_yes hz).2.2.1 k hk) h
theorem pvZ_twice {r : List Int} {k : Nat} (hk : k < r.length) (h : ∃ i, i < k ∧ r.getD i 0 = r.getD k 0) : pvZ r = false := by
  rcases hz : pvZ r with _ | _
  · rfl
  · obtain ⟨i, hi, e⟩ := h
    exact absurd e ((pvZ_yes hz).2.2.2 i k (by omega) hk (by omega))
theorem pv_le (r : List Int) : (pvL r).length ≤ 1048576 := by
  rcases hz : pvZ r with _ | _
  · rw [pvL_no hz]; simp
  · rw [pvL_yes hz, List.length_map, List.length_range]
    have := (pvZ_yes hz).2.1
    omega
theorem pvF_at {r : List Int} {k : Nat} (h : 0 ≤ r.getD k 0) : ((pvF r k : Nat) : Int) = r.getD k 0 := by unfold pvF; exact Int.toNat_of_nonneg h
theorem ZC.nats {w : World} {g n : Nat} {r : List Int} (h : ZC w g n r) (h0 : ∀ k, k < n → 0 ≤ r.getD k 0) : ICells w g n (pvF r) :=
  ⟨h.lt, fun i hi => by rw [pvF_at (h0 i hi)]; exact h.at0 i hi⟩
theorem pv_own {w : World} {g P base : Nat} {f : Nat → Nat} (h : RRow w g P f) (hb : base ≤ g) (hP : P ≤ 1048576) : w.ownsRow base 3 1 (.slice (some ⟨g, 0, none⟩) P P) P (ints ((List.range P).map fun i => ((f i : Nat) : Int))) := by
  obtain ⟨c, hh, hs, hc⟩ := h
  refine ⟨by simp [ints], .inr ⟨g, P, c, rfl, hb, hh, Nat.le_refl _, Nat.le_trans hP (by decide), by omega, ?_⟩⟩
  apply List.ext_getElem?
  intro i
  by_cases hi : i < P
  · have := hc i hi
    simp [ints, hi]
    simpa using this
  · simp [ints, hi]
    omega

set_option maxRecDepth 100000 in
theorem indexZ_any (gs j d : Nat) (r : List Int) (v : Int) (w : World) (hc : ZC w gs j r) (hj : j ≤ 1000) :
    Calls Try.prog 17 #[.slice (some ⟨gs, 0, none⟩) j d, .int .i64 v] w fun e w' => (∃ z : Int, e = .returned (.int .i64 z) ∧ (0 ≤ z ↔ ∃ t, t < j ∧ r.getD t 0 = v)) ∧ Below w.heap.size w w' := by
  have HC := hide hc
  clear hc
  go_enter Try.func17, Try.ntmps17
  go_wp2_with fail
  go_loopw [8] (fun i wr => ∃ k : Nat, i = .int .i64 k ∧ k ≤ j ∧ Hid (∀ t, t < k → r.getD t 0 ≠ v) ∧ Below w.heap.size w wr) (fun i _ => j - (intOf i).toNat)
  case atStart => exact ⟨0, rfl, by omega, hide (fun t h => by omega), Below.refl _ _⟩
  case round =>
    obtain ⟨k, rfl, hk, hno, hbwr⟩ := hrel
    by_cases hlt : k < j
    · have hC := (unhide HC).below hbwr
      have f0 := hC.at0 k hlt
      have hgl := hC.lt
      have hyes : v = r.getD k 0 → (0 ≤ (k : Int) ↔ ∃ t, t < j ∧ r.getD t 0 = v) := fun e => ⟨fun _ => ⟨k, hlt, e.symm⟩, fun _ => by omega⟩
      have hnx : ¬ v = r.getD k 0 → ∀ t, t < k + 1 → r.getD t 0 ≠ v := fun h t ht => by
        rcases Nat.lt_or_ge t k with h1 | h1
        · exact (unhide hno) t h1
        · obtain rfl : t = k := by omega
          exact fun e => h e.symm
      have HY := hide hyes; have HN := hide hnx
      have HB := hide hbwr
      clear hC hbwr hyes hnx hno
      generalize r.getD k 0 = x at *
      by_cases hx : v = x
      · have hy := hide ((unhide HY) hx)
        clear HN HY
        subst hx
        go_wp2_with fail
        have hb := unhide HB
        go_ret
        exact ⟨⟨_, rfl, unhide hy⟩, (by repeat (first | with_reducible exact Below.refl _ _ | with_reducible assumption | (with_reducible refine Below.trans ?_ (Below.mono (by assumption) (by first | omega | (simp <;> omega)))) | with_reducible apply Below.drew | with_reducible apply below_drewN | (with_reducible refine Below.alloc ?_ (by first | omega | (simp <;> omega)) _) | (with_reducible refine Below.setCell ?_ (by first | omega | (simp <;> omega)) _)))⟩
      · have hn1 := hide ((unhide HN) hx)
        clear HN HY
        go_wp2_with fail
        have hb := unhide HB
        go_roundw
        case rel => exact ⟨k + 1, by go_num, by omega, hn1, (by repeat (first | with_reducible exact Below.refl _ _ | with_reducible assumption | (with_reducible refine Below.trans ?_ (Below.mono (by assumption) (by first | omega | (simp <;> omega)))) | with_reducible apply Below.drew | with_reducible apply below_drewN | (with_reducible refine Below.alloc ?_ (by first | omega | (simp <;> omega)) _) | (with_reducible refine Below.setCell ?_ (by first | omega | (simp <;> omega)) _)))⟩
        case measure => simp [intOf]; omega
    · obtain rfl : k = j := by omega
      have HB := hide hbwr
      clear hbwr
      go_wp2_with fail
      have hb := unhide HB
      go_ret
      exact ⟨⟨_, rfl, ⟨fun h => absurd h (by omega), fun ⟨t, h1, h2⟩ => absurd h2 ((unhide hno) t h1)⟩⟩, (by repeat (first | with_reducible exact Below.refl _ _ | with_reducible assumption | (with_reducible refine Below.trans ?_ (Below.mono (by assumption) (by first | omega | (simp <;> omega)))) | with_reducible apply Below.drew | with_reducible apply below_drewN | (with_reducible refine Below.alloc ?_ (by first | omega | (simp <;> omega)) _) | (with_reducible refine Below.setCell ?_ (by first | omega | (simp <;> omega)) _)))⟩
theorem containsZ_any (gs j d : Nat) (r : List Int) (v : Int) (w : World) (hc : ZC w gs j r) (hj : j ≤ 1000) :
    Calls Try.prog 14 #[.slice (some ⟨gs, 0, none⟩) j d, .int .i64 v] w fun e w' => (∃ b : Bool, e = .returned (.bool b) ∧ (b = true ↔ ∃ t, t < j ∧ r.getD t 0 = v)) ∧ Below w.heap.size w w' := by
  have hix := fun W hW => indexZ_any gs j d r v W hW hj
  have HIX := hide hix; have HC := hide hc
  clear hix hc
  go_enter Try.func14, Try.ntmps14
  go_wp2_with (go_at_call 17; (with_reducible refine ((unhide HIX) _ ((unhide HC).below ?pb)).mono ?_); (case pb => exact (by repeat (first | with_reducible exact Below.refl _ _ | with_reducible assumption | (with_reducible refine Below.trans ?_ (Below.mono (by assumption) (by first | omega | (simp <;> omega)))) | with_reducible apply Below.drew | with_reducible apply below_drewN | (with_reducible refine Below.alloc ?_ (by first | omega | (simp <;> omega)) _) | (with_reducible refine Below.setCell ?_ (by first | omega | (simp <;> omega)) _)))); rintro e w1 ⟨⟨z, rfl, hz⟩, hbw1⟩; have HZ := hide hz; clear hz)
  go_ret
  exact ⟨⟨_, rfl, by rw [decide_eq_true_eq]; exact unhide HZ⟩, (by repeat (first | with_reducible exact Below.refl _ _ | with_reducible assumption | (with_reducible refine Below.trans ?_ (Below.mono (by assumption) (by first | omega | (simp <;> omega)))) | with_reducible apply Below.drew | with_reducible apply below_drewN | (with_reducible refine Below.alloc ?_ (by first | omega | (simp <;> omega)) _) | (with_reducible refine Below.setCell ?_ (by first | omega | (simp <;> omega)) _)))⟩

set_option maxRecDepth 100000 in
set_option maxHeartbeats 3200000 in
theorem iPatternOfValues_any (A : Option Addr) (n c base : Nat) (r : List Int) (w : World) (ha : w.ownsRow base 3 1 (.slice A n c) n (ints r)) (hn : n ≤ 1048576) :
    Calls Try.prog 6 #[.slice A n c] w fun e w' => GivesI w.heap.size (pvL r) (pvZ r) e w' ∧ Below w.heap.size w w' := by
  have hl : r.length = n := by have := ha.1; rw [ints_len] at this; omega
  by_cases h19 : 1 ≤ n ∧ n ≤ 9
  · obtain ⟨g, cap, hv, hnc, hgl⟩ := ha.form (by omega)
    have hA : A = some ⟨g, 0, none⟩ ∧ c = cap := by injection hv with h1 _ h2; exact ⟨h1, h2⟩
    obtain ⟨rfl, rfl⟩ := hA
    have hnc : n ≤ c := by
      rcases ha.2 with h | ⟨_, _, _, hv2, _, _, h2, _⟩
      · have := h.2; omega
      · injection hv2 with _ _ h3; omega
    have hC := ZC.own ha
    rcases hz : pvZ r with _ | _
    · rw [pvL_no hz]
      have e9 : decide ((n : Int) > 9) = false := decide_eq_false (by omega)
      have e1 : decide ((n : Int) < 1) = false := decide_eq_false (by omega)
      have hct := fun (W : World) (k : Nat) (v : Int) (hW : ZC W g k r) (hk : k < n) => containsZ_any g k c r v W hW (by omega)
      have hgood : (∀ k, k < n → (0 ≤ r.getD k 0 ∧ r.getD k 0 ≤ 1000000) ∧ ¬ ∃ t, t < k ∧ r.getD t 0 = r.getD k 0) → False := fun h => by
        have := pvZ_of (r := r) (by omega) (by omega) (fun k hk => (h k (by omega)).1) (fun k hk => (h k (by omega)).2)
        rw [hz] at this
        cases this
      have HC := hide hC; have HCT := hide hct; have HG := hide hgood
      clear ha hz hC hct hgood hv hl
      go_enter Try.func6, Try.ntmps6
      go_wp2_with fail
      go_loopw [20] (fun i wr => ∃ k : Nat, i = .int .i64 k ∧ k ≤ n ∧ Hid (∀ j, j < k → (0 ≤ r.getD j 0 ∧ r.getD j 0 ≤ 1000000) ∧ ¬ ∃ t, t < j ∧ r.getD t 0 = r.getD j 0) ∧ Below w.heap.size w wr) (fun i _ => n - (intOf i).toNat)
      case atStart => exact ⟨0, rfl, by omega, hide (fun j h => by omega), Below.refl _ _⟩
      case round =>
        obtain ⟨k, rfl, hk, hno, hbwr⟩ := hrel
        have hzwr := hbwr.size
        by_cases hlt : k < n
        · have hC := (unhide HC).below hbwr
          have f0 := hC.at0 k hlt
          have hgw := hC.lt
          have s7 : (0 : Int) ≤ (k : Int) := by omega
          have s8 : (k : Int) ≤ (c : Int) := by omega
          have s9 : ((k : Int)).toNat = k := by omega
          have HC2 := hide (hC.less (Nat.le_of_lt hlt))
          have HCK := hide (fun (W : World) (v : Int) (hW : ZC W g k r) => (unhide HCT) W k v hW hlt)
          have hnx : (0 ≤ r.getD k 0 ∧ r.getD k 0 ≤ 1000000) → (¬ ∃ t, t < k ∧ r.getD t 0 = r.getD k 0) → ∀ j, j < k + 1 → (0 ≤ r.getD j 0 ∧ r.getD j 0 ≤ 1000000) ∧ ¬ ∃ t, t < j ∧ r.getD t 0 = r.getD j 0 := fun h1 h2 j hj => by
            rcases Nat.lt_or_ge j k with h3 | h3
            · exact (unhide hno) j h3
            · obtain rfl : j = k := by omega
              exact ⟨h1, h2⟩
          have HN := hide hnx; have HB := hide hbwr
          clear hC hbwr hnx hno
          obtain ⟨x, hx⟩ : ∃ x, x = r.getD k 0 := ⟨_, rfl⟩
          rw [← hx] at f0
          rw [← hx] at HN
          have HX := Lib.hid hx; clear hx
          by_cases h0 : x < 0
          · have e2 : decide (x < 0) = true := decide_eq_true h0
            clear HN h0
            go_wp2_with fail
            go_ret2
            exact ⟨givesI_none _ _, unhide HB⟩
          · have e2 : decide (x < 0) = false := decide_eq_false h0
            by_cases h1 : x > 1000000
            · have e3 : decide (x > 1000000) = true := decide_eq_true h1
              clear HN h0 h1
              go_wp2_with fail
              go_ret2
              exact ⟨givesI_none _ _, unhide HB⟩
            · have e3 : decide (x > 1000000) = false := decide_eq_false h1
              have hin : 0 ≤ x ∧ x ≤ 1000000 := ⟨by omega, by omega⟩
              have HIN := hide hin
              clear h0 h1 hin
              go_wp2_with (go_at_call 14; (with_reducible refine ((unhide HCK) _ _ (unhide HC2)).mono ?_); rintro e w5 ⟨⟨b, rfl, hbb⟩, hbw5⟩; have hs5 := hbw5.size; have HBB := hide hbb; clear hbb; rcases b with _ | _)
              · have hn1 := hide ((unhide HN) (unhide HIN) (fun h => by have := (unhide HBB).2 h; cases this))
                have hb := (unhide HB).trans (hbw5.mono hzwr)
                go_roundw
                case rel => exact ⟨k + 1, by go_num, by omega, hn1, hb⟩
                case measure => simp [intOf]; omega
              · have hb := (unhide HB).trans (hbw5.mono hzwr)
                go_ret2
                exact ⟨givesI_none _ _, hb⟩
        · obtain rfl : k = n := by omega
          exact absurd (unhide hno) (unhide HG)
    · obtain ⟨_, _, h3, h4⟩ := pvZ_yes hz
      rw [pvL_yes hz, hl]
      rw [hl] at h3 h4
      have hIC := hC.nats (fun k hk => (h3 k hk).1)
      have hw := iPattern_wide g c n (pvF r) w hIC h19.1 h19.2 hnc (fun i hi => by have := h3 i hi; have := pvF_at this.1; omega) (fun i j hi hj hne e => by
        have e1 := pvF_at (h3 i hi).1
        have e2 := pvF_at (h3 j hj).1
        exact h4 i j hi hj hne (by omega))
      refine hw.mono ?_
      rintro e w' ⟨g', rfl, hlo, hr, hb⟩
      have hR : (fun i => rkN (ltF (pvF r)) i n) = pvR r := by unfold pvR; rw [hl]
      rw [hR] at hr
      have ho := pv_own (base := w.heap.size) hr hlo (by omega)
      have hll : ((List.range n).map (fun i => ((ptF (pvR r) n n i : Nat) : Int))).length = n := by simp
      exact ⟨⟨some ⟨g', 0, none⟩, n, by rw [hll], by rw [hll]; exact ho⟩, hb⟩
  · have hz : pvZ r = false := pvZ_len (by rw [hl]; exact h19)
    rw [pvL_no hz, hz]
    clear hz hl
    by_cases h1 : n < 1
    · have e1 : decide ((n : Int) < 1) = true := decide_eq_true (by omega)
      go_enter Try.func6, Try.ntmps6
      go_wp2_with fail
      go_ret2
      exact ⟨givesI_none _ _, (by repeat (first | with_reducible exact Below.refl _ _ | with_reducible assumption | (with_reducible refine Below.trans ?_ (Below.mono (by assumption) (by first | omega | (simp <;> omega)))) | with_reducible apply Below.drew | with_reducible apply below_drewN | (with_reducible refine Below.alloc ?_ (by first | omega | (simp <;> omega)) _) | (with_reducible refine Below.setCell ?_ (by first | omega | (simp <;> omega)) _)))⟩
    · have e1 : decide ((n : Int) < 1) = false := decide_eq_false (by omega)
      have e9 : decide ((n : Int) > 9) = true := decide_eq_true (by omega)
      go_enter Try.func6, Try.ntmps6
      go_wp2_with fail
      go_ret2
      exact ⟨givesI_none _ _, (by repeat (first | with_reducible exact Below.refl _ _ | with_reducible assumption | (with_reducible refine Below.trans ?_ (Below.mono (by assumption) (by first | omega | (simp <;> omega)))) | with_reducible apply Below.drew | with_reducible apply below_drewN | (with_reducible refine Below.alloc ?_ (by first | omega | (simp <;> omega)) _) | (with_reducible refine Below.setCell ?_ (by first | omega | (simp <;> omega)) _)))⟩
end Go.Proofs.Ytfiaioohkidgbaa

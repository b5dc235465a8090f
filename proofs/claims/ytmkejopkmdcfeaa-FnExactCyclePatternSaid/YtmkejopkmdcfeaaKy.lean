/-
  Chapter 4: CyclePattern of the model.
-/
import Derived.Test.YtmkejopkmdcfeaaKx
import Derived.Test.YtmkejopkmdcfeaaOr
namespace Go.Proofs.Ytmkejopkmdcfeaa
open Go.RowKit Rm

theorem lies1 {W : World} {Y c : Nat} {a : Value} (h0 : W.cell? ⟨Y, 0, none⟩ = some a) : Lies W (.slice (some ⟨Y, 0, none⟩) 1 c) 1 [a] := by
  refine .inr ⟨_, _, rfl, fun j u hu => ?_⟩
  rw [add_at]
  match j, hu with
  | 0, hu => simp only [List.getElem?_cons_zero, Option.some.injEq] at hu; subst hu; exact h0
  | j + 1, hu => simp at hu
def rkP (cy : List Rat) (P k : Nat) : List Int := (List.range k).map fun i => ((rkC cy P i : Nat) : Int)
theorem rkP_sn (cy : List Rat) (P k : Nat) : ints (rkP cy P k) ++ [.int .i64 ((rkC cy P k : Nat) : Int)] = ints (rkP cy P (k + 1)) := by
  simp [rkP, ints, List.range_succ]
theorem rkP_len (cy : List Rat) (P k : Nat) : (rkP cy P k).length = k := by simp [rkP]
theorem rcells_grown {w w' : World} {gs P B : Nat} {row : Option Nat} {l : List Rat} (h : RCells w gs P l) (hg : w.grownBy w' row) (hB : gs < B) (hr : ∀ M, row = some M → B ≤ M) : RCells w' gs P l := by
  have hne : some gs ≠ row := fun e => by have := hr gs e.symm; omega
  exact ⟨Nat.lt_of_lt_of_le h.lt hg.size, fun i hi => (World.cell?_of_block (a := ⟨gs, i * 2, none⟩) (hg.block gs h.lt hne)).trans (h.at0 i hi), fun i hi => (World.cell?_of_block (a := ⟨gs, i * 2 + 1, none⟩) (hg.block gs h.lt hne)).trans (h.at1 i hi)⟩
theorem icells_own {w : World} {base g P d : Nat} {cy : List Rat} {Q : Nat} (h : w.ownsRow base 3 1 (.slice (some ⟨g, 0, none⟩) P d) P (ints (rkP cy Q P))) (hP : 1 ≤ P) : ICells w g P (rkC cy Q) := by
  have hc : ∀ i, i < P → _ := fun i hi => int_cell h (k := i) (x := ((rkC cy Q i : Nat) : Int)) (by simp [rkP, hi])
  refine ⟨?_, fun i hi => ?_⟩
  · obtain ⟨g', hA, hl, _⟩ := hc 0 (by omega)
    obtain rfl : g = g' := (Addr.mk.inj (Option.some.inj hA)).1
    exact hl
  · obtain ⟨g', hA, _, _, h0, _⟩ := hc i hi
    obtain rfl : g = g' := (Addr.mk.inj (Option.some.inj hA)).1
    exact h0

set_option maxRecDepth 100000 in
set_option maxHeartbeats 3200000 in
theorem sCyclePattern_any (A : Option Addr) (n c base : Nat) (ps : List Pt) (a b m : Int) (w : World) (ha : w.ownsRow base 65 4 (.slice A n c) n (ptcs ps)) (hn : n ≤ 1048576) :
    Calls Try.prog 44 #[.slice A n c, .agg #[.int .i64 (a), .int .i64 (b)], .int .i64 m] w fun e w' => GivesI w.heap.size (cpL ps a b m) (cpZ ps a b m) e w' ∧ Below w.heap.size w w' := by
  rcases s_cyc (a := a) (b := b) (m := m) ha hn with ⟨h0, hq⟩ | ⟨h0, hq, hI⟩ | ⟨qs, cy, P, rfl, h0, hC, hq, hI⟩
  · have HQ := hide hq; have HA := hide ha
    rw [(cp_no h0).1, (cp_no h0).2]
    clear hq ha h0
    go_enter Try.func44, Try.ntmps44
    go_wp2_with (go_at_call 62; (with_reducible refine ((unhide HQ) _ (own_below (unhide HA) ?pb)).mono ?_); (case pb => exact (by repeat (first | with_reducible exact Below.refl _ _ | with_reducible assumption | (with_reducible refine Below.trans ?_ (Below.mono (by assumption) (by first | omega | (simp <;> omega)))) | with_reducible apply Below.drew | with_reducible apply below_drewN | (with_reducible refine Below.alloc ?_ (by first | omega | (simp <;> omega)) _) | (with_reducible refine Below.setCell ?_ (by first | omega | (simp <;> omega)) _)))); rintro e w1 ⟨rfl, hbw1⟩)
    go_ret2
    exact ⟨givesI_none _ _, (by repeat (first | with_reducible exact Below.refl _ _ | with_reducible assumption | (with_reducible refine Below.trans ?_ (Below.mono (by assumption) (by first | omega | (simp <;> omega)))) | with_reducible apply Below.drew | with_reducible apply below_drewN | (with_reducible refine Below.alloc ?_ (by first | omega | (simp <;> omega)) _) | (with_reducible refine Below.setCell ?_ (by first | omega | (simp <;> omega)) _)))⟩
  · have HQ := hide hq; have HA := hide ha; have HI := hide hI
    rw [(cp_no h0).1, (cp_no h0).2]
    clear hq ha h0 hI
    go_enter Try.func44, Try.ntmps44
    go_wp2_with (first
      | (go_at_call 62; (with_reducible refine ((unhide HQ) _ (own_below (unhide HA) ?pb)).mono ?_); (case pb => exact (by repeat (first | with_reducible exact Below.refl _ _ | with_reducible assumption | (with_reducible refine Below.trans ?_ (Below.mono (by assumption) (by first | omega | (simp <;> omega)))) | with_reducible apply Below.drew | with_reducible apply below_drewN | (with_reducible refine Below.alloc ?_ (by first | omega | (simp <;> omega)) _) | (with_reducible refine Below.setCell ?_ (by first | omega | (simp <;> omega)) _)))); rintro e w1 ⟨rfl, hbw1⟩; have hs1 := hbw1.size; (try simp at hs1); (skip; (try ((have kw1w0 := (bnew hbw1) (w.heap.size) ?pf); (case pf => (first | omega | (simp; done) | (simp; omega))); obtain ⟨kcw1w0, kfw1w0, klw1w0⟩ := kw1w0))))
      | (go_at_call 75; (with_reducible refine ((unhide HI) _ (own_below (unhide HA) ?pb)).mono ?_); (case pb => exact (by repeat (first | with_reducible exact Below.refl _ _ | with_reducible assumption | (with_reducible refine Below.trans ?_ (Below.mono (by assumption) (by first | omega | (simp <;> omega)))) | with_reducible apply Below.drew | with_reducible apply below_drewN | (with_reducible refine Below.alloc ?_ (by first | omega | (simp <;> omega)) _) | (with_reducible refine Below.setCell ?_ (by first | omega | (simp <;> omega)) _)))); rintro e w2 ⟨rfl, hbw2⟩; have hs2 := hbw2.size))
    go_ret2
    exact ⟨givesI_none _ _, (by repeat (first | with_reducible exact Below.refl _ _ | with_reducible assumption | (with_reducible refine Below.trans ?_ (Below.mono (by assumption) (by first | omega | (simp <;> omega)))) | with_reducible apply Below.drew | with_reducible apply below_drewN | (with_reducible refine Below.alloc ?_ (by first | omega | (simp <;> omega)) _) | (with_reducible refine Below.setCell ?_ (by first | omega | (simp <;> omega)) _)))⟩
  · have hl := hC.len
    have hP1 := hC.lo
    have hP2 := hC.hi
    have HQ := hide hq; have HA := hide ha; have HI := hide hI
    by_cases h9 : P ≤ 9
    · have e9 : decide ((P : Int) > 9) = false := decide_eq_false (by omega)
      rw [(cp_short h0 (by omega)).1, (cp_short h0 (by omega)).2, hl]
      have hor : ∀ m k, m < P → k < P → ∀ W, Calls Try.prog 69 #[.agg #[.int .i64 ((cy.getD m 0).num), .int .i64 ((cy.getD m 0).den)], .agg #[.int .i64 ((cy.getD k 0).num), .int .i64 ((cy.getD k 0).den)]] W fun e w' => e = .returned (.int .i64 (cq (cy.getD m 0) (cy.getD k 0))) ∧ Below W.heap.size W w' := fun m k hm hk W => raCmp_q _ _ (hC.all m hm).fit (hC.all k hk).fit W
      have hpt := fun (W : World) (g d : Nat) (hW : ICells W g P (rkC cy P)) => ptOf_any g d P (rkC cy P) W hW hP1 hP2 (fun _ hi => rkC_lt hi)
      have HOR := hide hor; have HPT := hide hpt
      obtain ⟨i0, hi0, hz0, hz1, hz2⟩ := info_parts iInt
      clear hq ha hI hor hpt h0 hC hl
      go_enter Try.func44, Try.ntmps44
      go_wp2_with (first
        | (go_at_call 62; (with_reducible refine ((unhide HQ) _ (own_below (unhide HA) ?pb)).mono ?_); (case pb => exact (by repeat (first | with_reducible exact Below.refl _ _ | with_reducible assumption | (with_reducible refine Below.trans ?_ (Below.mono (by assumption) (by first | omega | (simp <;> omega)))) | with_reducible apply Below.drew | with_reducible apply below_drewN | (with_reducible refine Below.alloc ?_ (by first | omega | (simp <;> omega)) _) | (with_reducible refine Below.setCell ?_ (by first | omega | (simp <;> omega)) _)))); rintro e w1 ⟨rfl, hbw1⟩; have hs1 := hbw1.size; (try simp at hs1); (skip; (try ((have kw1w0 := (bnew hbw1) (w.heap.size) ?pf); (case pf => (first | omega | (simp; done) | (simp; omega))); obtain ⟨kcw1w0, kfw1w0, klw1w0⟩ := kw1w0))))
        | (go_at_call 75; (with_reducible refine ((unhide HI) _ (own_below (unhide HA) ?pb)).mono ?_); (case pb => exact (by repeat (first | with_reducible exact Below.refl _ _ | with_reducible assumption | (with_reducible refine Below.trans ?_ (Below.mono (by assumption) (by first | omega | (simp <;> omega)))) | with_reducible apply Below.drew | with_reducible apply below_drewN | (with_reducible refine Below.alloc ?_ (by first | omega | (simp <;> omega)) _) | (with_reducible refine Below.setCell ?_ (by first | omega | (simp <;> omega)) _)))); rintro e w2 ⟨gs, d, rfl, hlo, hrc, hbw2⟩; have hs2 := hbw2.size; have HRC := hide hrc; clear hrc))
      have hbA : Below w.heap.size w w2 := (by repeat (first | with_reducible exact Below.refl _ _ | with_reducible assumption | (with_reducible refine Below.trans ?_ (Below.mono (by assumption) (by first | omega | (simp <;> omega)))) | with_reducible apply Below.drew | with_reducible apply below_drewN | (with_reducible refine Below.alloc ?_ (by first | omega | (simp <;> omega)) _) | (with_reducible refine Below.setCell ?_ (by first | omega | (simp <;> omega)) _)))
      have HBA := hide hbA
      have hsA := hbA.size
      have hgs := (unhide HRC).lt
      clear hbA hbw1 hbw2
      go_loopw [10, 37] (fun v i wr => ∃ (k : Nat) (A1 : Option Addr) (c1 : Nat), i = .int .i64 k ∧ v = .slice A1 k c1 ∧ k ≤ P ∧ Hid (wr.ownsRow w2.heap.size 3 1 (.slice A1 k c1) k (ints (rkP cy P k))) ∧ Hid (RCells wr gs P cy) ∧ Below w.heap.size w wr ∧ w2.heap.size ≤ wr.heap.size) (fun _ i _ => P - (intOf i).toNat)
      case atStart => exact ⟨0, none, 0, rfl, rfl, by omega, hide ⟨rfl, .inl ⟨rfl, rfl⟩⟩, HRC, unhide HBA, Nat.le_refl _⟩
      case round =>
        obtain ⟨k, A1, c1, rfl, rfl, hk, HO, hcw, hbwr, h2r⟩ := hrel
        clear HRC HBA
        have hzwr := hbwr.size
        have hgw2 := (unhide hcw).lt
        by_cases hlt : k < P
        · have f0 := (unhide hcw).at0 k hlt
          have f1 := (unhide hcw).at1 k hlt
          have HB := hide hbwr
          clear hbwr
          obtain ⟨xn, hxn⟩ : ∃ r, r = (cy.getD k 0).num := ⟨_, rfl⟩
          obtain ⟨xd, hxd⟩ : ∃ r, r = ((cy.getD k 0).den : Int) := ⟨_, rfl⟩
          rw [← hxn] at f0
          rw [← hxd] at f1
          have HX := Lib.hid (And.intro hxn hxd); clear hxn hxd
          go_wp2_with fail
          have x0 : (wr.alloc (.cells #[.int .i64 xn, .int .i64 xd] 26)).cell? ⟨wr.heap.size, 0, none⟩ = some (.int .i64 xn) := by simp [go_sem]
          have x1 : (wr.alloc (.cells #[.int .i64 xn, .int .i64 xd] 26)).cell? ⟨wr.heap.size, 1, none⟩ = some (.int .i64 xd) := by simp [go_sem]
          have hb3 : Below wr.heap.size wr (wr.alloc (.cells #[.int .i64 xn, .int .i64 xd] 26)) := (by repeat (first | with_reducible exact Below.refl _ _ | with_reducible assumption | (with_reducible refine Below.trans ?_ (Below.mono (by assumption) (by first | omega | (simp <;> omega)))) | with_reducible apply Below.drew | with_reducible apply below_drewN | (with_reducible refine Below.alloc ?_ (by first | omega | (simp <;> omega)) _) | (with_reducible refine Below.setCell ?_ (by first | omega | (simp <;> omega)) _)))
          have hs3 : wr.heap.size < (wr.alloc (.cells #[.int .i64 xn, .int .i64 xd] 26)).heap.size := by simp
          generalize wr.alloc (.cells #[.int .i64 xn, .int .i64 xd] 26) = w3 at *
          have hc3 := hide ((unhide hcw).below hb3)
          have HO3 := hide (own_below (unhide HO) hb3)
          have HB3 := hide ((unhide HB).trans (hb3.mono hzwr))
          have hz3 := hb3.size
          clear hb3 hcw HB HO f0 f1
          obtain ⟨M, hM⟩ : ∃ M, M = wr.heap.size := ⟨_, rfl⟩
          rw [← hM] at x0 x1 hs3 hgw2 hzwr h2r hz3 ⊢
          clear hM
          go_loopw [13, 43] (fun v i wi => ∃ m : Nat, i = .int .i64 m ∧ v = .int .i64 ((rkN (ltQ cy) k m : Nat) : Int) ∧ m ≤ P ∧ Below w3.heap.size w3 wi) (fun _ i _ => P - (intOf i).toNat)
          case atStart => exact ⟨0, rfl, rfl, by omega, Below.refl _ _⟩
          case round =>
            obtain ⟨m, rfl, rfl, hm, hbi⟩ := hrel
            have hzi := hbi.size
            by_cases hmt : m < P
            · have hci := (unhide hc3).below hbi
              have e0 := hci.at0 m hmt
              have e1 := hci.at1 m hmt
              have hgi := hci.lt
              have b0 := (hbi.cell (p := ⟨M, 0, none⟩) hs3).trans x0
              have b1 := (hbi.cell (p := ⟨M, 1, none⟩) hs3).trans x1
              have hMi : M < wr.heap.size := by omega
              have hoa := (unhide HOR) m k hmt hlt
              rw [← HX.out.1, ← HX.out.2] at hoa
              have hcq := ltQ_cq cy m k
              have hrle := rkN_le (ltQ cy) k m
              have hrs : rkN (ltQ cy) k (m + 1) = if ltQ cy m k then rkN (ltQ cy) k m + 1 else rkN (ltQ cy) k m := rfl
              have HBI := hide hbi
              clear hci hbi x0 x1
              cases hl : ltQ cy m k with
              | true =>
                rw [hl] at hcq hrs
                rw [if_pos rfl] at hrs
                have HRS := Lib.hid hrs; have HOA := hide hoa
                clear hrs hoa hl
                generalize rkN (ltQ cy) k m = r at *
                generalize cq (cy.getD m 0) (cy.getD k 0) = z at *
                generalize (cy.getD m 0).num = yn at *
                generalize ((cy.getD m 0).den : Int) = yd at *
                go_wp2_with ((go_at_call 69; (with_reducible refine ((unhide HOA) _).mono ?_); rintro e w5 ⟨rfl, hbw5⟩; obtain ⟨hcw5, hfw5⟩ := bcell hbw5; have hzw5 := hbw5.size; (try simp at hzw5); (try ((have kw5wr0 := (bnew hbw5) (wr.heap.size) ?pf); (case pf => (first | omega | (simp; done) | (simp; omega))); obtain ⟨kcw5wr0, kfw5wr0, klw5wr0⟩ := kw5wr0))))
                have hb5 : Below wr.heap.size wr w5 := (by repeat (first | with_reducible exact Below.refl _ _ | with_reducible assumption | (with_reducible refine Below.trans ?_ (Below.mono (by assumption) (by first | omega | (simp <;> omega)))) | with_reducible apply Below.drew | with_reducible apply below_drewN | (with_reducible refine Below.alloc ?_ (by first | omega | (simp <;> omega)) _) | (with_reducible refine Below.setCell ?_ (by first | omega | (simp <;> omega)) _)))
                have hbi := (unhide HBI).trans (hb5.mono hzi)
                go_roundw
                case rel => exact ⟨m + 1, by go_num, by rw [HRS.out]; go_num, by omega, hbi⟩
                case measure => simp [intOf]; omega
              | false =>
                rw [hl] at hcq hrs
                rw [if_neg (by decide)] at hrs
                have HRS := Lib.hid hrs; have HOA := hide hoa
                clear hrs hoa hl
                generalize rkN (ltQ cy) k m = r at *
                generalize cq (cy.getD m 0) (cy.getD k 0) = z at *
                generalize (cy.getD m 0).num = yn at *
                generalize ((cy.getD m 0).den : Int) = yd at *
                go_wp2_with ((go_at_call 69; (with_reducible refine ((unhide HOA) _).mono ?_); rintro e w5 ⟨rfl, hbw5⟩; obtain ⟨hcw5, hfw5⟩ := bcell hbw5; have hzw5 := hbw5.size; (try simp at hzw5); (try ((have kw5wr0 := (bnew hbw5) (wr.heap.size) ?pf); (case pf => (first | omega | (simp; done) | (simp; omega))); obtain ⟨kcw5wr0, kfw5wr0, klw5wr0⟩ := kw5wr0))))
                have hb5 : Below wr.heap.size wr w5 := (by repeat (first | with_reducible exact Below.refl _ _ | with_reducible assumption | (with_reducible refine Below.trans ?_ (Below.mono (by assumption) (by first | omega | (simp <;> omega)))) | with_reducible apply Below.drew | with_reducible apply below_drewN | (with_reducible refine Below.alloc ?_ (by first | omega | (simp <;> omega)) _) | (with_reducible refine Below.setCell ?_ (by first | omega | (simp <;> omega)) _)))
                have hbi := (unhide HBI).trans (hb5.mono hzi)
                go_roundw
                case rel => exact ⟨m + 1, by go_num, by rw [HRS.out], by omega, hbi⟩
                case measure => simp [intOf]; omega
            · obtain rfl : m = P := by omega
              have hsn := rkP_sn cy m k
              have hrle := rkN_le (ltQ cy) k m
              have hrd : rkC cy m k = rkN (ltQ cy) k m := rfl
              rw [hrd] at hsn
              have HSN := Lib.hid hsn
              have hci := hide ((unhide hc3).below hbi)
              have HOi := hide (own_below (unhide HO3) hbi)
              have HBi := hide ((unhide HB3).trans (hbi.mono (by omega)))
              have hvB : ∀ i, (Value.slice A1 k c1).ownBlock = some i → w2.heap.size ≤ i := fun i e => ((unhide HO3).lt i e).1
              have HVB := hide hvB
              clear hsn hrd hbi hc3 HO3 HB3 hvB x0 x1
              generalize rkN (ltQ cy) k m = r at *
              go_wp2_with (at_builtin; refine wpList_append_any rfl _ _ _ rfl w2.heap.size 3 i0 _ 1 8 Try.underlying51 hi0 hz0 hz1 hz2 rfl (by omega) (.slice A1 k c1) k _ rfl (own_below (unhide HOi) (show Below wr.heap.size wr _ from (by repeat (first | with_reducible exact Below.refl _ _ | with_reducible assumption | (with_reducible refine Below.trans ?_ (Below.mono (by assumption) (by first | omega | (simp <;> omega)))) | with_reducible apply Below.drew | with_reducible apply below_drewN | (with_reducible refine Below.alloc ?_ (by first | omega | (simp <;> omega)) _) | (with_reducible refine Below.setCell ?_ (by first | omega | (simp <;> omega)) _))))) _ 1 [.int .i64 (r : Int)] rfl (lies1 (by simp [go_sem, *])) rfl (by simp [Value.oneCell']) (Nat.le_trans (by omega) maxLen_ge) (by omega) (by first | omega | (simp <;> omega)) (k + 1) rfl ?_; intro A4 c4 w4 hown4 hgrow4)
              rw [HSN.out] at hown4
              have hbz : Below w.heap.size w w4 := Below.grown ((unhide HBi).trans (show Below w.heap.size wr _ from (by repeat (first | with_reducible exact Below.refl _ _ | with_reducible assumption | (with_reducible refine Below.trans ?_ (Below.mono (by assumption) (by first | omega | (simp <;> omega)))) | with_reducible apply Below.drew | with_reducible apply below_drewN | (with_reducible refine Below.alloc ?_ (by first | omega | (simp <;> omega)) _) | (with_reducible refine Below.setCell ?_ (by first | omega | (simp <;> omega)) _))))) hgrow4 (by first | omega | (simp <;> omega)) (fun i e => by have := unhide HVB i e; omega)
              have hc4 := rcells_grown (B := w2.heap.size) ((unhide hci).below (show Below wr.heap.size wr _ from (by repeat (first | with_reducible exact Below.refl _ _ | with_reducible assumption | (with_reducible refine Below.trans ?_ (Below.mono (by assumption) (by first | omega | (simp <;> omega)))) | with_reducible apply Below.drew | with_reducible apply below_drewN | (with_reducible refine Below.alloc ?_ (by first | omega | (simp <;> omega)) _) | (with_reducible refine Below.setCell ?_ (by first | omega | (simp <;> omega)) _))))) hgrow4 hgs (unhide HVB)
              have hz4 := hgrow4.size
              simp at hz4
              have HO4 := hide hown4; have HBZ := hide hbz; have HC4 := hide hc4
              clear hown4 hbz hc4 hgrow4
              go_wp2_with fail
              go_roundw
              case rel => exact ⟨k + 1, A4, c4, by go_num, rfl, by omega, HO4, HC4, unhide HBZ, by omega⟩
              case measure => simp [intOf]; omega
        · obtain rfl : k = P := by omega
          obtain ⟨g1, cap, hv, _, hgl⟩ := (unhide HO).form (by omega)
          have hA : A1 = some ⟨g1, 0, none⟩ := by injection hv with h1 _ h2
          subst hA
          have HIC := hide (icells_own (unhide HO) hP1)
          have HB := hide hbwr
          clear hv hbwr HO
          go_wp2_with (go_at_call 81; (with_reducible refine ((unhide HPT) _ _ _ (unhide HIC)).mono ?_); rintro e w6 ⟨rfl, hr6, hbw6⟩)
          have hown := own_of_rrow (base := w.heap.size) hr6 hzwr (by omega)
          have HOWN := hide hown
          have hb6 := (unhide HB).trans (hbw6.mono hzwr)
          have HB6 := hide hb6
          clear hown hr6 hb6 hbw6
          go_ret2
          exact ⟨⟨some ⟨wr.heap.size, 0, none⟩, k, by rw [ptC_len]; rfl, by rw [ptC_len]; exact unhide HOWN⟩, unhide HB6⟩
    · have e9 : decide ((P : Int) > 9) = true := decide_eq_true (by omega)
      rw [(cp_long h0 (by omega)).1, (cp_long h0 (by omega)).2]
      clear hq ha hI h0 hC hl
      go_enter Try.func44, Try.ntmps44
      go_wp2_with (first
        | (go_at_call 62; (with_reducible refine ((unhide HQ) _ (own_below (unhide HA) ?pb)).mono ?_); (case pb => exact (by repeat (first | with_reducible exact Below.refl _ _ | with_reducible assumption | (with_reducible refine Below.trans ?_ (Below.mono (by assumption) (by first | omega | (simp <;> omega)))) | with_reducible apply Below.drew | with_reducible apply below_drewN | (with_reducible refine Below.alloc ?_ (by first | omega | (simp <;> omega)) _) | (with_reducible refine Below.setCell ?_ (by first | omega | (simp <;> omega)) _)))); rintro e w1 ⟨rfl, hbw1⟩; have hs1 := hbw1.size; (try simp at hs1); (skip; (try ((have kw1w0 := (bnew hbw1) (w.heap.size) ?pf); (case pf => (first | omega | (simp; done) | (simp; omega))); obtain ⟨kcw1w0, kfw1w0, klw1w0⟩ := kw1w0))))
        | (go_at_call 75; (with_reducible refine ((unhide HI) _ (own_below (unhide HA) ?pb)).mono ?_); (case pb => exact (by repeat (first | with_reducible exact Below.refl _ _ | with_reducible assumption | (with_reducible refine Below.trans ?_ (Below.mono (by assumption) (by first | omega | (simp <;> omega)))) | with_reducible apply Below.drew | with_reducible apply below_drewN | (with_reducible refine Below.alloc ?_ (by first | omega | (simp <;> omega)) _) | (with_reducible refine Below.setCell ?_ (by first | omega | (simp <;> omega)) _)))); rintro e w2 ⟨gs, d, rfl, hlo, hrc, hbw2⟩; have hs2 := hbw2.size; clear hrc))
      go_ret2
      exact ⟨givesI_none _ _, (by repeat (first | with_reducible exact Below.refl _ _ | with_reducible assumption | (with_reducible refine Below.trans ?_ (Below.mono (by assumption) (by first | omega | (simp <;> omega)))) | with_reducible apply Below.drew | with_reducible apply below_drewN | (with_reducible refine Below.alloc ?_ (by first | omega | (simp <;> omega)) _) | (with_reducible refine Below.setCell ?_ (by first | omega | (simp <;> omega)) _)))⟩
end Go.Proofs.Ytmkejopkmdcfeaa

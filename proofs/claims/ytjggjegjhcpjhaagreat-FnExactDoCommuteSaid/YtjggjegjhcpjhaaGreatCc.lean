/-
  slices.Compact at fractions: what stays of a list in order.
-/
import Derived.Test.YtjggjegjhcpjhaaGreatCp
import Derived.Test.YtjggjegjhcpjhaaGreatIma
import Derived.Lib.SliceRun
namespace Go.Proofs.YtjggjegjhcpjhaaGreat
open Go.RowKit Rm

section
variable {P : Program}
theorem run_clear2 (w : World) (t e ty : TypeId) (z : Value) (ht : P.underlying t = some (.slice e)) (hv : ∀ w, (zeroValue e).run P w = .ok z w) (hz : z.cells = #[.int .i64 0, .int .i64 0]) (b o n c : Nat) (hn : 0 < n)
    (hc : ∀ j, j < n * 2 → (w.cell? ⟨b, o + j, none⟩).isSome = true) (hf : ∀ j, j < n * 2 → w.frozen? ⟨b, o + j, none⟩ = false) :
    ∃ vs : List Value, vs.length = n * 2 ∧ (Builtin.clear_ #[t] ty #[.slice (some ⟨b, o, none⟩) n c]).run P w = .ok (.tuple #[]) (w.setCells b o vs) := by
  have hl : (Builtin.zeroCells z.cells n).toList.length = n * 2 := by rw [hz]; simp [Builtin.zeroCells]
  have h1 : ∀ v ∈ (Builtin.zeroCells z.cells n).toList, v.oneCell' = true := by
    intro v hv'
    rw [hz] at hv'
    obtain ⟨i, hi, e⟩ := List.mem_iff_getElem.1 hv'
    rw [← e]
    simp only [Builtin.zeroCells, Array.getElem_toList]
    have : i % 2 = 0 ∨ i % 2 = 1 := by omega
    rcases this with h | h <;> simp [h, Value.oneCell']
  refine ⟨_, hl, ?_⟩
  have hst := run_storeCells_cells (P := P) b o (Builtin.zeroCells z.cells n).toList 0 w (by rw [hl]; simpa using hc) (by rw [hl]; simpa using hf) h1
  simp only [Nat.add_zero] at hst
  obtain ⟨m, rfl⟩ : ∃ m, n = m + 1 := ⟨n - 1, by omega⟩
  simp [Builtin.clear_, run_underlying ht, hv, hst]
end
theorem own_setCells {base n c g : Nat} {e : TypeId} : ∀ (vs : List Value) (o : Nat) (w : World) (xs : List Value), w.ownsRow base e 2 (.slice (some ⟨g, 0, none⟩) n c) n xs →
    ∃ ys, (w.setCells g o vs).ownsRow base e 2 (.slice (some ⟨g, 0, none⟩) n c) n ys ∧ (∀ j, j < o → ys[j]? = xs[j]?) ∧ w.grownBy (w.setCells g o vs) (some g)
  | [], o, w, xs, h => ⟨xs, h, fun _ _ => rfl, World.grownBy.refl _ _⟩
  | v :: vs, o, w, xs, h => by
    obtain ⟨h1, h2⟩ := h.stored o v
    obtain ⟨ys, h3, h4, h5⟩ := own_setCells vs (o + 1) _ _ h1
    refine ⟨ys, h3, fun j hj => ?_, ?_⟩
    · rw [h4 j (by omega), List.getElem?_set, if_neg (by omega)]
    · exact ⟨h5.os.trans h2.os, h5.tape.trans h2.tape, h5.output.trans h2.output, Nat.le_trans h2.size h5.size, fun k hk hne => (h5.block k (Nat.lt_of_lt_of_le hk h2.size) hne).trans (h2.block k hk hne)⟩
theorem cpK_one {l : List Rat} (h : l.length = 1) : cpK l 1 = l := by
  rw [cpK_take 1 (by omega) (fun i hi => absurd hi (by omega))]
  exact List.take_of_length_le (by omega)

theorem frcs_cons (q : Fr) (xs : List Fr) : frcs (q :: xs) = .int .i64 q.1 :: .int .i64 q.2 :: frcs xs := rfl
theorem frcs_set (x : Rat) : ∀ (m : List Rat) (k : Nat), k < m.length → ((frcs (m.map qf)).set (k * 2) (.int .i64 x.num)).set (k * 2 + 1) (.int .i64 x.den) = frcs ((m.set k x).map qf)
  | [], k, h => absurd h (by simp)
  | a :: m, 0, _ => rfl
  | a :: m, k + 1, h => by
    have ih := frcs_set x m k (by simpa using h)
    rw [show (k + 1) * 2 = k * 2 + 1 + 1 by omega]
    simp only [List.map_cons, frcs_cons, List.set_cons_succ]
    rw [ih]
theorem getD_app {l m : List Rat} {i : Nat} (h : i < l.length) : (l ++ m).getD i 0 = l.getD i 0 := by simp [List.getD_eq_getElem?_getD, List.getElem?_append_left h]
theorem getD_appL {l : List Rat} {x : Rat} : (l ++ [x]).getD l.length 0 = x := by simp [List.getD_eq_getElem?_getD]
theorem getD_set {m : List Rat} {i k : Nat} {x : Rat} (h : ¬ i = k) : (m.set k x).getD i 0 = m.getD i 0 := by
  rw [List.getD_eq_getElem?_getD, List.getElem?_set, if_neg (fun e => h e.symm), List.getD_eq_getElem?_getD]
theorem getD_setL {m : List Rat} {k : Nat} {x : Rat} (h : k < m.length) : (m.set k x).getD k 0 = x := by simp [List.getD_eq_getElem?_getD, h]
theorem getD_takeL {l : List Rat} {m i : Nat} (h : i < m) : (l.take m).getD i 0 = l.getD i 0 := by simp [List.getD_eq_getElem?_getD, h]

theorem fc_of {w : World} {base g n c kk : Nat} {ys : List Value} {m q : List Rat} (h : w.ownsRow base 37 2 (.slice (some ⟨g, 0, none⟩) n c) n ys) (hy : ∀ j, j < kk * 2 → ys[j]? = (frcs (m.map qf))[j]?) (hm : m.length = n) (hk : kk ≤ n) (hq : kk = q.length)
    (he : ∀ t, t < kk → m.getD t 0 = q.getD t 0) : FCells w g kk (q.map qf) := by
  have hc : ∀ i r, i < kk → r < 2 → w.cell? ⟨g, i * 2 + r, none⟩ = (frc (qf (q.getD i 0)))[r]? := by
    intro i r hi hr
    rw [h.cellAt (i * 2 + r) (by omega), hy _ (by omega), frcs_get _ i r (by rw [List.length_map]; omega) hr, qAtR m i (by omega), he i hi]
    rfl
  refine ⟨(h.lt g rfl).2, fun i hi => ?_, fun i hi => ?_⟩
  · rw [qAtR q i (by omega)]; exact hc i 0 hi (by omega)
  · rw [qAtR q i (by omega)]; exact hc i 1 hi (by omega)

set_option maxRecDepth 100000 in
set_option maxHeartbeats 3200000 in
theorem compact_any (g n c base : Nat) (l : List Rat) (w : World) (ha : w.ownsRow base 37 2 (.slice (some ⟨g, 0, none⟩) n c) n (frcs (l.map qf))) (hn1 : 1 ≤ n) (hn : n ≤ 1000) :
    Calls Tryz.prog 139 #[.slice (some ⟨g, 0, none⟩) n c] w fun e w' => ∃ d : Nat, e = .returned (.slice (some ⟨g, 0, none⟩) (cpK l n).length d) ∧ FCells w' g (cpK l n).length ((cpK l n).map qf) ∧ w.grownBy w' (some g) := by
  have hlen := own_lenR ha
  have hcap := own_cap ha
  have hgl := (ha.lt g rfl).2
  have HA := hide ha; clear ha
  have HL := Lib.hid hlen; clear hlen
  by_cases hn2 : n = 1
  · subst hn2
    have HE := Lib.hid (cpK_one HL.out)
    go_enter Tryz.func139, Tryz.ntmps139
    go_wp2
    go_ret
    exact ⟨c, by rw [HE.out, HL.out] <;> rfl, by rw [HE.out, HL.out]; exact fcells_own (unhide HA), World.grownBy.refl _ _⟩
  · go_enter Tryz.func139, Tryz.ntmps139
    go_wp2
    go_loopw [3] (fun v wr => ∃ k : Nat, v = .int .i64 k ∧ 1 ≤ k ∧ k ≤ n ∧ Hid (∀ i, i + 1 < k → l.getD (i + 1) 0 ≠ l.getD i 0) ∧ w.grownBy wr (some g) ∧ wr.ownsRow base 37 2 (.slice (some ⟨g, 0, none⟩) n c) n (frcs (l.map qf))) (fun v _ => n - (intOf v).toNat)
    case atStart => exact ⟨1, rfl, by omega, by omega, hide (fun i hi => absurd hi (by omega)), World.grownBy.refl _ _, unhide HA⟩
    case round =>
      obtain ⟨k, rfl, hk1, hk, hup, hgr, hown⟩ := hrel
      have hzr := hgr.size
      clear HA
      by_cases hlt : k < n
      · obtain ⟨j, rfl⟩ : ∃ j, k = j + 1 := ⟨k - 1, by omega⟩
        have hC := fcells_own hown
        have hgr' := hC.lt
        have f0 := hC.at0 j (by omega)
        have f1 := hC.at1 j (by omega)
        have g0 := hC.at0 (j + 1) hlt
        have g1 := hC.at1 (j + 1) hlt
        have HOW := hide hown
        have HG := hide hgr
        clear hC hown hgr
        have s1 : IntKind.i64.wrap (j : Int) = (j : Int) := IntWalk.i64_in _ (by omega)
        have s1' : IntKind.i64.wrap ((j : Int) + 1 + 1) = (j : Int) + 1 + 1 := IntWalk.i64_in _ (by omega)
        have s2 : (0 : Int) ≤ (j : Int) + 1 := by omega
        have s4 : (j : Int) < (n : Int) := by omega
        have s6 : (j : Int) + 1 < (n : Int) := by omega
        have s5 : ((j : Int) + 1).toNat = j + 1 := by omega
        rw [qAtR l j (by rw [HL.out]; omega)] at f0 f1
        rw [qAtR l (j + 1) (by rw [HL.out]; omega)] at g0 g1
        simp only at f0 f1 g0 g1
        by_cases heq : l.getD (j + 1) 0 = l.getD j 0
        · rw [heq] at g0 g1
          generalize (l.getD j 0).num = yn at *
          generalize ((l.getD j 0).den : Int) = yd at *
          go_upto_region 6 with fail
          go_cut [25] (fun s25 wx => s25 = .bool true ∧ Below wr.heap.size wr wx)
          case first =>
            go_quiet (fail)
            go_wp2_with fail
            go_meet
            exact ⟨by simp, (by repeat (first | with_reducible exact Below.refl _ _ | with_reducible assumption | (with_reducible refine Below.trans ?_ (Below.mono (by assumption) (by first | omega | (simp <;> omega)))) | with_reducible apply Below.drew | with_reducible apply below_drewN | (with_reducible refine Below.alloc ?_ (by first | omega | (simp <;> omega)) _) | (with_reducible refine Below.setCell ?_ (by first | omega | (simp <;> omega)) _)))⟩
          case rest =>
            obtain ⟨rfl, hbwc⟩ := hcut
            clear f0 f1 g0 g1
            have p1 : ¬ c = j + 1 := by omega
            have p2 : (j : Int) + 1 ≤ (c : Int) := by omega
            go_wp2_with fail
            have hcp : cpK l (j + 1 + 1) = l.take (j + 1) := by
              rw [cpK_no (by omega) (by rw [Nat.add_sub_cancel]; exact heq), cpK_take (j + 1) (by rw [HL.out]; omega) (fun i hi => (unhide hup) i hi)]
            have HCP := Lib.hid hcp
            have hownc := own_below (unhide HOW) hbwc
            have hgrc : w.grownBy wc (some g) := grown_only (unhide HG) hbwc
            have HOWC := hide hownc
            have HGC := hide hgrc
            clear hcp hbwc s1 s1' s2 s4 s6 s5 heq hup hownc hgrc HOW HG p1 p2
            obtain ⟨M, hM⟩ : ∃ M, n - (j + 1) = M := ⟨_, rfl⟩
            obtain ⟨D, hD⟩ : ∃ D, c - (j + 1) = D := ⟨_, rfl⟩
            have hMn : j + 1 + M = n := by omega
            rw [hM, hD]
            clear hM hD
            have HMN := Lib.hid hMn; clear hMn
            generalize j + 1 = K at *
            go_loopw [3, 5] (fun v u wx => ∃ (kk i : Nat) (m : List Rat), v = .int .i64 kk ∧ u = .int .i64 ((i : Int) + 1) ∧ i + 1 ≤ M ∧ kk ≤ K + i ∧ 1 ≤ kk ∧ Hid (kk = (cpK l (K + i + 1)).length) ∧ Hid (m.length = n) ∧ Hid (∀ t, t < kk → m.getD t 0 = (cpK l (K + i + 1)).getD t 0) ∧ Hid (∀ t, K + i ≤ t → m.getD t 0 = l.getD t 0) ∧ w.grownBy wx (some g) ∧ wx.ownsRow base 37 2 (.slice (some ⟨g, 0, none⟩) n c) n (frcs (m.map qf))) (fun _ u _ => M - (intOf u).toNat)
            case atStart => exact ⟨K, 0, l, rfl, rfl, by have := HMN.out; omega, by omega, hk1, hide (by rw [Nat.add_zero, HCP.out, List.length_take, HL.out, Nat.min_eq_left (by omega)]), HL, hide (fun t ht => by rw [Nat.add_zero, HCP.out, getD_takeL ht]), hide (fun _ _ => rfl), unhide HGC, unhide HOWC⟩
            case round =>
              obtain ⟨kk, i, m, rfl, rfl, hi, hkk, hkk1, HKK, HML, HLO, HUP, hgr, hown⟩ := hrel
              have hmn := HMN.out
              have hml := HML.out
              by_cases hlt2 : i + 1 < M
              · have hC := fcells_own hown
                have hgx := hC.lt
                have f0 := hC.at0 (K + i) (by omega)
                have f1 := hC.at1 (K + i) (by omega)
                have g0 := hC.at0 (K + (i + 1)) (by omega)
                have g1 := hC.at1 (K + (i + 1)) (by omega)
                have c0 := hC.at0 kk (by omega)
                have c1 := hC.at1 kk (by omega)
                have hff := fun t => hown.frozenAt t
                rw [qAtR m (K + i) (by omega), Nat.add_mul] at f0 f1
                rw [qAtR m (K + (i + 1)) (by omega), Nat.add_mul] at g0 g1
                rw [(unhide HUP) (K + i) (by omega)] at f0 f1
                rw [(unhide HUP) (K + (i + 1)) (by omega)] at g0 g1
                simp only at f0 f1 g0 g1
                have t1 : IntKind.i64.wrap (i : Int) = (i : Int) := IntWalk.i64_in _ (by omega)
                have t2 : IntKind.i64.wrap ((i : Int) + 1 + 1) = (i : Int) + 1 + 1 := IntWalk.i64_in _ (by omega)
                have t3 : (0 : Int) ≤ (i : Int) + 1 := by omega
                have t4 : (i : Int) < (M : Int) := by omega
                have t5 : (i : Int) + 1 < (M : Int) := by omega
                have t6 : ((i : Int) + 1).toNat = i + 1 := by omega
                have t7 : (kk : Int) < (n : Int) := by omega
                have t8 : IntKind.i64.wrap ((kk : Int) + 1) = (kk : Int) + 1 := IntWalk.i64_in _ (by omega)
                have HOW := hide hown
                have HG := hide hgr
                clear hC hown hgr
                by_cases heq2 : l.getD (K + (i + 1)) 0 = l.getD (K + i) 0
                · have hcp : cpK l (K + i + 1 + 1) = cpK l (K + i + 1) := cpK_no (by omega) (by rw [Nat.add_sub_cancel]; exact heq2)
                  have HCQ := Lib.hid hcp
                  rw [heq2] at g0 g1
                  generalize (l.getD (K + i) 0).num = yn at *
                  generalize ((l.getD (K + i) 0).den : Int) = yd at *
                  clear hcp heq2
                  go_upto_region 11 with fail
                  go_cut [44] (fun s44 wy => s44 = .bool false ∧ Below wr.heap.size wr wy)
                  case first =>
                    go_quiet (fail)
                    go_wp2_with fail
                    go_meet
                    exact ⟨by simp, (by repeat (first | with_reducible exact Below.refl _ _ | with_reducible assumption | (with_reducible refine Below.trans ?_ (Below.mono (by assumption) (by first | omega | (simp <;> omega)))) | with_reducible apply Below.drew | with_reducible apply below_drewN | (with_reducible refine Below.alloc ?_ (by first | omega | (simp <;> omega)) _) | (with_reducible refine Below.setCell ?_ (by first | omega | (simp <;> omega)) _)))⟩
                  case rest =>
                    obtain ⟨rfl, hbw⟩ := hcut
                    have HO2 := hide (own_below (unhide HOW) hbw)
                    have HG2 := hide (grown_only (unhide HG) hbw)
                    clear f0 f1 g0 g1 c0 c1 hff hbw HOW HG
                    go_wp2_with fail
                    go_roundw
                    case rel => exact ⟨kk, i + 1, m, rfl, by go_num, by omega, by omega, hkk1, hide (by rw [show K + (i + 1) + 1 = K + i + 1 + 1 by omega, HCQ.out]; exact HKK.out), HML, hide (by rw [show K + (i + 1) + 1 = K + i + 1 + 1 by omega, HCQ.out]; exact HLO.out), hide (fun t ht => (unhide HUP) t (by omega)), unhide HG2, unhide HO2⟩
                    case measure => simp [intOf]; omega
                · have hcp : cpK l (K + i + 1 + 1) = cpK l (K + i + 1) ++ [l.getD (K + (i + 1)) 0] := by
                    rw [cpK_yes (.inr (by rw [Nat.add_sub_cancel]; exact heq2))]; rfl
                  have hne : ¬ ((l.getD (K + (i + 1)) 0).num = (l.getD (K + i) 0).num ∧ ((l.getD (K + (i + 1)) 0).den : Int) = (l.getD (K + i) 0).den) := fun h => heq2 (eq_parts.1 h)
                  have HCQ := Lib.hid hcp
                  obtain ⟨X, hX⟩ : ∃ X, X = l.getD (K + (i + 1)) 0 := ⟨_, rfl⟩
                  have hfs := frcs_set X m kk (by omega)
                  rw [← hX] at g0 g1 hne HCQ
                  have HFS := Lib.hid hfs
                  have HX := Lib.hid hX
                  generalize (l.getD (K + i) 0).num = yn at *
                  generalize ((l.getD (K + i) 0).den : Int) = yd at *
                  clear hcp heq2 hfs hX
                  obtain ⟨xn, hxn⟩ : ∃ r, r = X.num := ⟨_, rfl⟩
                  obtain ⟨xd, hxd⟩ : ∃ r, r = (X.den : Int) := ⟨_, rfl⟩
                  rw [← hxn] at g0 hne HFS
                  rw [← hxd] at g1 hne HFS
                  clear hxn hxd
                  have hsp : (xn = yn ∧ ¬ xd = yd) ∨ ¬ xn = yn := by
                    by_cases h1 : xn = yn
                    · exact .inl ⟨h1, fun h => hne ⟨h1, h⟩⟩
                    · exact .inr h1
                  clear hne
                  go_upto_region 11 with fail
                  go_cut [44] (fun s44 wy => s44 = .bool true ∧ Below wr.heap.size wr wy)
                  case first =>
                    rcases hsp with ⟨h1, h2⟩ | h2
                    · subst h1
                      go_quiet (fail)
                      go_wp2_with fail
                      go_meet
                      exact ⟨by first | (simp; done) | simp [h2], (by repeat (first | with_reducible exact Below.refl _ _ | with_reducible assumption | (with_reducible refine Below.trans ?_ (Below.mono (by assumption) (by first | omega | (simp <;> omega)))) | with_reducible apply Below.drew | with_reducible apply below_drewN | (with_reducible refine Below.alloc ?_ (by first | omega | (simp <;> omega)) _) | (with_reducible refine Below.setCell ?_ (by first | omega | (simp <;> omega)) _)))⟩
                    · go_quiet (fail)
                      go_wp2_with fail
                      go_meet
                      exact ⟨by first | (simp; done) | simp [h2], (by repeat (first | with_reducible exact Below.refl _ _ | with_reducible assumption | (with_reducible refine Below.trans ?_ (Below.mono (by assumption) (by first | omega | (simp <;> omega)))) | with_reducible apply Below.drew | with_reducible apply below_drewN | (with_reducible refine Below.alloc ?_ (by first | omega | (simp <;> omega)) _) | (with_reducible refine Below.setCell ?_ (by first | omega | (simp <;> omega)) _)))⟩
                  case rest =>
                    obtain ⟨rfl, hbw⟩ := hcut
                    clear hsp
                    have hzw := hbw.size
                    have hown2 := own_below (unhide HOW) hbw
                    have hC := fcells_own hown2
                    have hg2 := hC.lt
                    have hff2 := fun t => hown2.frozenAt t
                    have d0 := hC.at0 kk (by omega)
                    have d1 := hC.at1 kk (by omega)
                    have e0 : wc.cell? ⟨g, K * 2 + (i + 1) * 2, none⟩ = some (.int .i64 xn) := (hbw.cell (p := ⟨g, _, none⟩) hgx).trans g0
                    have e1 : wc.cell? ⟨g, K * 2 + (i + 1) * 2 + 1, none⟩ = some (.int .i64 xd) := (hbw.cell (p := ⟨g, _, none⟩) hgx).trans g1
                    have HG2 := hide (grown_set (grown_set (grown_only (unhide HG) hbw) (kk * 2) (.int .i64 xn)) (kk * 2 + 1) (.int .i64 xd))
                    have ho := own_set2 hown2 (kk * 2) (.int .i64 xn) (.int .i64 xd)
                    rw [HFS.out] at ho
                    have HO2 := hide ho
                    clear f0 f1 g0 g1 c0 c1 hff hbw HOW HG hown2 hC ho
                    go_wp2_with fail
                    clear d0 d1 e0 e1 hff2
                    go_roundw
                    case rel => exact ⟨kk + 1, i + 1, m.set kk X, by go_num, by go_num, by omega, by omega, by omega, hide (by rw [show K + (i + 1) + 1 = K + i + 1 + 1 by omega, HCQ.out, List.length_append, ← HKK.out]; rfl), hide (by rw [List.length_set]; exact hml),
                      hide (fun t ht => by
                        rw [show K + (i + 1) + 1 = K + i + 1 + 1 by omega, HCQ.out]
                        by_cases htk : t = kk
                        · subst htk; rw [getD_setL (by omega)]; conv => rhs; rw [HKK.out]
                          exact getD_appL.symm
                        · rw [getD_set htk, getD_app (by rw [← HKK.out]; omega)]; exact (unhide HLO) t (by omega)),
                      hide (fun t ht => by rw [getD_set (by omega)]; exact (unhide HUP) t (by omega)), unhide HG2, unhide HO2⟩
                    case measure => simp [intOf]; omega
              · have hKn : K + i + 1 = n := by omega
                have hcell : ∀ t, t < n * 2 → (wr.cell? ⟨g, t, none⟩).isSome = true := fun t ht => by
                  rw [hown.cellAt t ht, List.getElem?_eq_getElem (by rw [hown.1]; exact ht)]; rfl
                obtain ⟨vs, hvl, hrun⟩ := run_clear2 (P := Tryz.prog) wr 83 37 0 _ Tryz.underlying83 Tryz.zeroValue37 rfl g (kk * 2) (n - kk) (c - kk) (by omega) (fun t ht => hcell _ (by omega)) (fun t _ => hown.frozenAt _)
                obtain ⟨ys, hy1, hy2, hy3⟩ := own_setCells vs (kk * 2) wr _ hown
                have hgz : w.grownBy (wr.setCells g (kk * 2) vs) (some g) := ⟨hy3.os.trans hgr.os, hy3.tape.trans hgr.tape, hy3.output.trans hgr.output, Nat.le_trans hgr.size hy3.size, fun k hk hne => (hy3.block k (Nat.lt_of_lt_of_le hk hgr.size) hne).trans (hgr.block k hk hne)⟩
                have HKK' := HKK.out
                have HLO' := HLO.out
                rw [hKn] at HKK' HLO'
                have HF := hide (fc_of hy1 hy2 hml (by omega) HKK' HLO')
                have HQ := Lib.hid HKK'
                have HGZ := hide hgz
                have HR := hide hrun
                clear hcell hvl hrun hy1 hy2 hy3 hgz HKK' HLO' hown hgr
                have p1 : ¬ c = kk := by omega
                have p2 : (kk : Int) ≤ (c : Int) := by omega
                have p3 : (kk : Int) ≤ (n : Int) := by omega
                generalize wr.setCells g (kk * 2) vs = wz at *
                have hrun := unhide HR
                go_wp2_with fail
                go_ret
                exact ⟨_, by rw [← HQ.out] <;> rfl, by rw [← HQ.out]; exact unhide HF, unhide HGZ⟩
        · have hne : ¬ ((l.getD (j + 1) 0).num = (l.getD j 0).num ∧ ((l.getD (j + 1) 0).den : Int) = (l.getD j 0).den) := fun h => heq (eq_parts.1 h)
          have HU := hide (show ∀ i, i + 1 < j + 1 + 1 → l.getD (i + 1) 0 ≠ l.getD i 0 from fun i hi => by
            by_cases hij : i = j
            · subst hij; exact heq
            · exact (unhide hup) i (by omega))
          clear heq hup
          generalize (l.getD (j + 1) 0).num = xn at *
          generalize ((l.getD (j + 1) 0).den : Int) = xd at *
          generalize (l.getD j 0).num = yn at *
          generalize ((l.getD j 0).den : Int) = yd at *
          have hsp : (xn = yn ∧ ¬ xd = yd) ∨ ¬ xn = yn := by
            by_cases h1 : xn = yn
            · exact .inl ⟨h1, fun h => hne ⟨h1, h⟩⟩
            · exact .inr h1
          clear hne
          go_upto_region 6 with fail
          go_cut [25] (fun s25 wx => s25 = .bool false ∧ Below wr.heap.size wr wx)
          case first =>
            rcases hsp with ⟨h1, h2⟩ | h2
            · subst h1
              go_quiet (fail)
              go_wp2_with fail
              go_meet
              exact ⟨by first | (simp; done) | simp [h2], (by repeat (first | with_reducible exact Below.refl _ _ | with_reducible assumption | (with_reducible refine Below.trans ?_ (Below.mono (by assumption) (by first | omega | (simp <;> omega)))) | with_reducible apply Below.drew | with_reducible apply below_drewN | (with_reducible refine Below.alloc ?_ (by first | omega | (simp <;> omega)) _) | (with_reducible refine Below.setCell ?_ (by first | omega | (simp <;> omega)) _)))⟩
            · go_quiet (fail)
              go_wp2_with fail
              go_meet
              exact ⟨by first | (simp; done) | simp [h2], (by repeat (first | with_reducible exact Below.refl _ _ | with_reducible assumption | (with_reducible refine Below.trans ?_ (Below.mono (by assumption) (by first | omega | (simp <;> omega)))) | with_reducible apply Below.drew | with_reducible apply below_drewN | (with_reducible refine Below.alloc ?_ (by first | omega | (simp <;> omega)) _) | (with_reducible refine Below.setCell ?_ (by first | omega | (simp <;> omega)) _)))⟩
          case rest =>
            obtain ⟨rfl, hbwc⟩ := hcut
            have HO2 := hide (own_below (unhide HOW) hbwc)
            have HG2 := hide (grown_only (unhide HG) hbwc)
            clear f0 f1 g0 g1 hbwc HOW HG hsp
            go_wp2_with fail
            go_roundw
            case rel => exact ⟨j + 1 + 1, by go_num, by omega, by omega, HU, unhide HG2, unhide HO2⟩
            case measure => simp [intOf]; omega
      · obtain rfl : k = n := by omega
        have hcp : cpK l k = l := by rw [cpK_take k (by rw [HL.out]; exact Nat.le_refl _) (unhide hup), List.take_of_length_le (by rw [HL.out]; exact Nat.le_refl _)]
        have HE := Lib.hid hcp
        have HO := hide hown
        have HG := hide hgr
        clear hcp hown hgr
        go_wp2_with fail
        go_ret
        exact ⟨c, by rw [HE.out, HL.out] <;> rfl, by rw [HE.out, HL.out]; exact fcells_own (unhide HO), unhide HG⟩
end Go.Proofs.YtjggjegjhcpjhaaGreat

/-
  Chapter 5: ClampMap of the model.
-/
import Derived.Test.YtgkbogcmmedmbaaGreatEp
namespace Go.Proofs.YtgkbogcmmedmbaaGreat
open Go.RowKit Rm

theorem clamp3 {y lo hi : Rat} (h : ¬ hi < lo) : (cq y lo < 0 ∧ ¬ cq hi lo < 0 ∧ minR (maxR y [lo]) [hi] = lo) ∨ (¬ cq y lo < 0 ∧ cq hi y < 0 ∧ minR (maxR y [lo]) [hi] = hi) ∨ (¬ cq y lo < 0 ∧ ¬ cq hi y < 0 ∧ minR (maxR y [lo]) [hi] = y) := by
  have e1 : maxR y [lo] = if y < lo then lo else y := rfl
  have e2 : ∀ m, minR m [hi] = if hi < m then hi else m := fun _ => rfl
  rw [e2, e1, cq_lt, cq_lt, cq_lt]
  by_cases h1 : y < lo
  · rw [if_pos h1, if_neg h]; exact .inl ⟨h1, h, rfl⟩
  · rw [if_neg h1]
    by_cases h2 : hi < y
    · rw [if_pos h2]; exact .inr (.inl ⟨h1, h2, rfl⟩)
    · rw [if_neg h2]; exact .inr (.inr ⟨h1, h2, rfl⟩)

set_option maxRecDepth 100000 in
set_option maxHeartbeats 6400000 in
theorem sClampMap_map (gf mf cf bf : Nat) (fs : List QP) (lo hi : Rat) (w : World) (hf : w.ownsRow bf 50 4 (.slice (some ⟨gf, 0, none⟩) (mf + 1) cf) (mf + 1) (ptcs (fs.map qp))) (hF : GMap fs) (hlo : Un lo) (hhi : Un hi) (hle : ¬ hi < lo) :
    Calls Tryz.prog 28 #[.slice (some ⟨gf, 0, none⟩) (mf + 1) cf, .agg #[.int .i64 (lo.num), .int .i64 (lo.den)], .agg #[.int .i64 (hi.num), .int .i64 (hi.den)]] w fun e w' => PtO w.heap.size (clO fs lo hi) e w' ∧ Below w.heap.size w w' := by
  obtain ⟨i0, hi0, hz0, hz1, hz2⟩ := info_parts iPoint
  have hlf := own_lenQ hf
  have hhf := hF.hi
  rw [hlf] at hhf
  have hgfl := (hf.lt gf rfl).2
  have hgd := fun W hW => imGood_any (some ⟨gf, 0, none⟩) (mf + 1) cf bf (fs.map qp) W hW (by omega)
  rw [hF.mapB] at hgd
  have hu1 := fun W => raUnit_any lo.num lo.den W
  have hu2 := fun W => raUnit_any hi.num hi.den W
  rw [uB_of hlo] at hu1
  rw [uB_of hhi] at hu2
  have hor := fun W => raCmp_q lo hi hlo.fit hhi.fit W
  have hcd : decide (0 < cq lo hi) = false := decide_eq_false (fun h => hle (cq_gt.1 h))
  have hc1 := fun W hW => coXs_map gf (mf + 1) cf bf fs W hW (by omega)
  have hxl := (xsOf_len fs).trans hlf
  have HXU := hide (xsOf_un hF)
  have hcm : clO fs lo hi = ((bK (bqO fs) [lo, hi] 2).map (xsOf fs ++ ·)).bind fun l => mmO (srt l) (vct fs lo hi) := rfl
  have hcs : ∀ l, sK (bqO fs) [lo, hi] (xsOf fs) 2 = some l → clO fs lo hi = mmO l (vct fs lo hi) ∧ Pl l ∧ l.length ≤ 36 := by
    intro l h
    rw [sK_bK] at h
    cases hb : bK (bqO fs) [lo, hi] 2 with
    | none => rw [hb] at h; cases h
    | some b =>
      rw [hb] at h hcm
      injection h with h
      change List.foldl putL (xsOf fs) b = l at h
      rw [fput_srt (xsOf_inc hF)] at h
      obtain ⟨h1, _, h2⟩ := ct_pl hF (lo := lo) (hi := hi) (l := xsOf fs ++ b) (by unfold ctP; rw [hb]; rfl)
      have h3 := srt_len (xsOf fs ++ b)
      subst h
      exact ⟨hcm, h1, by omega⟩
  have hcn : sK (bqO fs) [lo, hi] (xsOf fs) 2 = none → clO fs lo hi = none := by
    intro h
    rw [sK_bK] at h
    rw [hcm]
    cases hb : bK (bqO fs) [lo, hi] 2 with
    | none => rfl
    | some b => rw [hb] at h; cases h
  have hyy : ∀ k, k < 2 → Un ([lo, hi].getD k 0) := fun k hk => by
    have h : k = 0 ∨ k = 1 := by omega
    rcases h with rfl | rfl
    · exact hlo
    · exact hhi
  have h3 := fun y (hy : Un y) W => raCmp_q y lo hy.fit hlo.fit W
  have h4 := fun y (hy : Un y) W => raCmp_q hi y hhi.fit hy.fit W
  have hcl := fun y => clamp3 (y := y) hle
  have H1 := hide hc1; have HF := hide hf; have HG := hide hgd; have HU1 := hide hu1; have HU2 := hide hu2; have HO := hide hor; have HXL := Lib.hid hxl; have HCS := hide hcs; have HCN := hide hcn; have HYY := hide hyy
  have H3 := hide h3; have H4 := hide h4; have HCL := hide hcl; have HLO := hide hlo
  have HLF := Lib.hid hlf
  clear hc1 hf hgd hu1 hu2 hor hxl hlf hcm hcs hcn hyy h3 h4 hcl hle
  generalize cq lo hi = cz at *
  obtain ⟨ln, hln⟩ : ∃ r, r = lo.num := ⟨_, rfl⟩
  obtain ⟨ld, hld⟩ : ∃ r, r = (lo.den : Int) := ⟨_, rfl⟩
  obtain ⟨hn', hhn⟩ : ∃ r, r = hi.num := ⟨_, rfl⟩
  obtain ⟨hd', hhd⟩ : ∃ r, r = (hi.den : Int) := ⟨_, rfl⟩
  rw [← hln, ← hld] at HU1 HO H3
  rw [← hhn, ← hhd] at HU2 HO H4
  rw [← hln, ← hld, ← hhn, ← hhd]
  have HLN := Lib.hid (And.intro hln.symm (And.intro hld.symm (And.intro hhn.symm hhd.symm)))
  clear hln hld hhn hhd hlo hhi
  go_enter Tryz.func28, Tryz.ntmps28
  go_wp2_with (first
    | (go_at_call 37; (with_reducible refine ((unhide HG) _ (own_below (unhide HF) ?pb)).mono ?_); (case pb => exact (by repeat (first | with_reducible exact Below.refl _ _ | with_reducible assumption | (with_reducible refine Below.trans ?_ (Below.mono (by assumption) (by first | omega | (simp <;> omega)))) | with_reducible apply Below.drew | with_reducible apply below_drewN | (with_reducible refine Below.alloc ?_ (by first | omega | (simp <;> omega)) _) | (with_reducible refine Below.setCell ?_ (by first | omega | (simp <;> omega)) _)))); rintro e w1 ⟨rfl, hbw1⟩; have hs1 := hbw1.size; (try simp at hs1); (skip; (try ((have kw1w0 := (bnew hbw1) (w.heap.size) ?pf); (case pf => (first | omega | (simp; done) | (simp; omega))); obtain ⟨kcw1w0, kfw1w0, klw1w0⟩ := kw1w0)); (try ((have kw1w1 := (bnew hbw1) (w.heap.size + 1) ?pf); (case pf => (first | omega | (simp; done) | (simp; omega))); obtain ⟨kcw1w1, kfw1w1, klw1w1⟩ := kw1w1))))
    | (go_at_call 44; have _t := hbw2; clear _t; (with_reducible refine ((unhide HU2) _).mono ?_); rintro e w3 ⟨rfl, hbw3⟩; obtain ⟨hcw3, hfw3⟩ := bcell hbw3; have hzw3 := hbw3.size; (try simp at hzw3); (try ((have kw3w0 := (bnew hbw3) (w.heap.size) ?pf); (case pf => (first | omega | (simp; done) | (simp; omega))); obtain ⟨kcw3w0, kfw3w0, klw3w0⟩ := kw3w0)); (try ((have kw3w1 := (bnew hbw3) (w.heap.size + 1) ?pf); (case pf => (first | omega | (simp; done) | (simp; omega))); obtain ⟨kcw3w1, kfw3w1, klw3w1⟩ := kw3w1)))
    | (go_at_call 44; (with_reducible refine ((unhide HU1) _).mono ?_); rintro e w2 ⟨rfl, hbw2⟩; obtain ⟨hcw2, hfw2⟩ := bcell hbw2; have hzw2 := hbw2.size; (try simp at hzw2); (try ((have kw2w0 := (bnew hbw2) (w.heap.size) ?pf); (case pf => (first | omega | (simp; done) | (simp; omega))); obtain ⟨kcw2w0, kfw2w0, klw2w0⟩ := kw2w0)); (try ((have kw2w1 := (bnew hbw2) (w.heap.size + 1) ?pf); (case pf => (first | omega | (simp; done) | (simp; omega))); obtain ⟨kcw2w1, kfw2w1, klw2w1⟩ := kw2w1)))
    | (go_at_call 54; (with_reducible refine ((unhide HO) _).mono ?_); rintro e w4 ⟨rfl, hbw4⟩; obtain ⟨hcw4, hfw4⟩ := bcell hbw4; have hzw4 := hbw4.size; (try simp at hzw4); (try ((have kw4w0 := (bnew hbw4) (w.heap.size) ?pf); (case pf => (first | omega | (simp; done) | (simp; omega))); obtain ⟨kcw4w0, kfw4w0, klw4w0⟩ := kw4w0)); (try ((have kw4w1 := (bnew hbw4) (w.heap.size + 1) ?pf); (case pf => (first | omega | (simp; done) | (simp; omega))); obtain ⟨kcw4w1, kfw4w1, klw4w1⟩ := kw4w1)))
    | (go_at_call 43; (with_reducible refine ((unhide H1) _ (own_below (unhide HF) ?pb)).mono ?_); (case pb => exact (by repeat (first | with_reducible exact Below.refl _ _ | with_reducible assumption | (with_reducible refine Below.trans ?_ (Below.mono (by assumption) (by first | omega | (simp <;> omega)))) | with_reducible apply Below.drew | with_reducible apply below_drewN | (with_reducible refine Below.alloc ?_ (by first | omega | (simp <;> omega)) _) | (with_reducible refine Below.setCell ?_ (by first | omega | (simp <;> omega)) _)))); rintro e w5 ⟨A1, d1, rfl, ho1, hbw5⟩; have hs5 := hbw5.size; (skip; (try ((have kw5w0 := (bnew hbw5) (w.heap.size) ?pf); (case pf => (first | omega | (simp; done) | (simp; omega))); obtain ⟨kcw5w0, kfw5w0, klw5w0⟩ := kw5w0)); (try ((have kw5w1 := (bnew hbw5) (w.heap.size + 1) ?pf); (case pf => (first | omega | (simp; done) | (simp; omega))); obtain ⟨kcw5w1, kfw5w1, klw5w1⟩ := kw5w1))); have HO1 := hide ho1; clear ho1))
  have hsz5 : w.heap.size + 1 < w5.heap.size := klw5w1
  have l0 : w5.cell? ⟨w.heap.size, 0, none⟩ = some (.int .i64 ln) := by rw [kcw5w0, kcw4w0, kcw3w0, kcw2w0, kcw1w0]; simp [go_sem]
  have l1 : w5.cell? ⟨w.heap.size, 1, none⟩ = some (.int .i64 ld) := by rw [kcw5w0, kcw4w0, kcw3w0, kcw2w0, kcw1w0]; simp [go_sem]
  have u0 : w5.cell? ⟨w.heap.size + 1, 0, none⟩ = some (.int .i64 hn') := by rw [kcw5w1, kcw4w1, kcw3w1, kcw2w1, kcw1w1]; simp [go_sem]
  have u1 : w5.cell? ⟨w.heap.size + 1, 1, none⟩ = some (.int .i64 hd') := by rw [kcw5w1, kcw4w1, kcw3w1, kcw2w1, kcw1w1]; simp [go_sem]
  have hbA : Below w5.heap.size w5 (w5.alloc (.cells #[.int .i64 ln, .int .i64 ld, .int .i64 hn', .int .i64 hd'] 46)) := (by repeat (first | with_reducible exact Below.refl _ _ | with_reducible assumption | (with_reducible refine Below.trans ?_ (Below.mono (by assumption) (by first | omega | (simp <;> omega)))) | with_reducible apply Below.drew | with_reducible apply below_drewN | (with_reducible refine Below.alloc ?_ (by first | omega | (simp <;> omega)) _) | (with_reducible refine Below.setCell ?_ (by first | omega | (simp <;> omega)) _)))
  have hbQ : Below w.heap.size w (w5.alloc (.cells #[.int .i64 ln, .int .i64 ld, .int .i64 hn', .int .i64 hd'] 46)) := (by repeat (first | with_reducible exact Below.refl _ _ | with_reducible assumption | (with_reducible refine Below.trans ?_ (Below.mono (by assumption) (by first | omega | (simp <;> omega)))) | with_reducible apply Below.drew | with_reducible apply below_drewN | (with_reducible refine Below.alloc ?_ (by first | omega | (simp <;> omega)) _) | (with_reducible refine Below.setCell ?_ (by first | omega | (simp <;> omega)) _)))
  have hfc : FCells (w5.alloc (.cells #[.int .i64 ln, .int .i64 ld, .int .i64 hn', .int .i64 hd'] 46)) w5.heap.size 2 ([lo, hi].map qf) := fcells_two (by simp) HLN.out.1 HLN.out.2.1 HLN.out.2.2.1 HLN.out.2.2.2 (by simp [go_sem]) (by simp [go_sem]) (by simp [go_sem]) (by simp [go_sem])
  have hOQ := own_below (unhide HO1) hbA
  have hmn : w.heap.size ≤ w4.heap.size := by omega
  replace l0 := (hbA.cell (p := ⟨w.heap.size, 0, none⟩) (by omega)).trans l0
  replace l1 := (hbA.cell (p := ⟨w.heap.size, 1, none⟩) (by omega)).trans l1
  replace u0 := (hbA.cell (p := ⟨w.heap.size + 1, 0, none⟩) hsz5).trans u0
  replace u1 := (hbA.cell (p := ⟨w.heap.size + 1, 1, none⟩) hsz5).trans u1
  have hsq := hbA.size
  have HOQ := hide (hOQ.mono hmn); have HBQ := hide hbQ; have HFC := hide hfc; have HL0 := hide l0; have HL1 := hide l1; have HH0 := hide u0; have HH1 := hide u1
  clear hOQ hbQ hbA hfc hbw1 hbw2 hbw3 hbw4 hbw5 HO1 H1 HG HU1 HU2 HO l0 l1 u0 u1 hmn hs1 hs5 kcw1w0 kfw1w0 klw1w0 kcw1w1 kfw1w1 klw1w1 kcw2w0 kfw2w0 klw2w0 kcw2w1 kfw2w1 klw2w1 kcw3w0 kfw3w0 klw3w0 kcw3w1 kfw3w1 klw3w1 kcw4w0 kfw4w0 klw4w0 kcw4w1 kfw4w1 klw4w1 kcw5w0 kfw5w0 klw5w0 kcw5w1 kfw5w1 klw5w1
  generalize w5.alloc (.cells #[.int .i64 ln, .int .i64 ld, .int .i64 hn', .int .i64 hd'] 46) = wq at *
  generalize w5.heap.size = GS at *
  have hwq : w.heap.size + 1 < wq.heap.size := by omega
  go_loopw [8, 45] (fun v i wr => ∃ (k : Nat) (A : Option Addr) (nn cc : Nat) (l : List Rat), i = .int .i64 k ∧ v = .slice A nn cc ∧ k ≤ 2 ∧ Hid (sK (bqO fs) [lo, hi] (xsOf fs) k = some l) ∧ Hid (nn = l.length) ∧ 1 ≤ nn ∧ nn ≤ mf + 1 + 12 * k ∧ Hid (∀ z ∈ l, Un z) ∧ wr.ownsRow w.heap.size 46 2 (.slice A nn cc) nn (frcs (l.map qf)) ∧ Below wq.heap.size wq wr) (fun _ i _ => 2 - (intOf i).toNat)
  case atStart => exact ⟨0, A1, mf + 1, d1, xsOf fs, rfl, rfl, by omega, hide rfl, hide HXL.out.symm, by omega, by omega, HXU, unhide HOQ, Below.refl _ _⟩
  case round =>
    obtain ⟨k, A, nn, cc, l, rfl, rfl, hk, HK, HN, hn1, hn2, HU, hown, hbwr⟩ := hrel
    have hsr := hbwr.size
    by_cases hlt : k < 2
    · have hC := (unhide HFC).below hbwr
      have k0 := hC.at0 k hlt
      have k1 := hC.at1 k hlt
      have hgr := hC.lt
      rw [qAtR [lo, hi] k hlt] at k0 k1
      simp only at k0 k1
      have HF' := hide (own_below (unhide HF) ((unhide HBQ).trans (hbwr.mono (unhide HBQ).size)))
      clear hC
      have hbe := fun W hW => imBefore_un gf mf cf bf fs ([lo, hi].getD k 0) W hW hF ((unhide HYY) k hlt)
      have hst := sK_step (unhide HK)
      have hbl := fun b => bqO_len hF ([lo, hi].getD k 0) b
      have hbu := fun b => bqO_un hF ([lo, hi].getD k 0) b
      have HBE := hide hbe; have HST := Lib.hid hst; have HBL := hide hbl; have HBU := hide hbu; have HO := hide hown; have HB := hide hbwr
      clear hbe hst hbl hbu hown hbwr
      cases hq : bqO fs ([lo, hi].getD k 0) with
      | none =>
        have hno : clO fs lo hi = none := (unhide HCN) (sK_none (k := k + 1) (by rw [HST.out, hq]; rfl) (2 - (k + 1)) (by omega))
        have HNO := Lib.hid hno
        have HQ := Lib.hid hq
        clear hno hq
        generalize ([lo, hi].getD k 0).num = f1 at *
        generalize (([lo, hi].getD k 0).den : Int) = f2 at *
        go_wp2_with (go_at_call 55; (with_reducible refine ((unhide HBE) _ (own_below (unhide HF') ?pb)).mono ?_); (case pb => exact (by repeat (first | with_reducible exact Below.refl _ _ | with_reducible assumption | (with_reducible refine Below.trans ?_ (Below.mono (by assumption) (by first | omega | (simp <;> omega)))) | with_reducible apply Below.drew | with_reducible apply below_drewN | (with_reducible refine Below.alloc ?_ (by first | omega | (simp <;> omega)) _) | (with_reducible refine Below.setCell ?_ (by first | omega | (simp <;> omega)) _)))); rintro e w3 ⟨_, h2, hbw3⟩; obtain rfl := h2 HQ.out; clear h2)
        have hb := (unhide HBQ).trans ((unhide HB).mono (unhide HBQ).size)
        have hz : Below w.heap.size w w3 := (by repeat (first | with_reducible exact Below.refl _ _ | with_reducible assumption | (with_reducible refine Below.trans ?_ (Below.mono (by assumption) (by first | omega | (simp <;> omega)))) | with_reducible apply Below.drew | with_reducible apply below_drewN | (with_reducible refine Below.alloc ?_ (by first | omega | (simp <;> omega)) _) | (with_reducible refine Below.setCell ?_ (by first | omega | (simp <;> omega)) _)))
        go_ret2
        refine ⟨?_, hz⟩
        rw [HNO.out]
        exact ⟨fun l h => (by cases h), fun _ => rfl⟩
      | some b =>
        have HQ := Lib.hid hq
        have hb12 := (unhide HBL) b hq
        have hbun := (unhide HBU) b hq
        have hk1 : sK (bqO fs) [lo, hi] (xsOf fs) (k + 1) = some (b.foldl putL l) := by rw [HST.out, hq]; rfl
        have HK1 := hide hk1; have HBUN := hide hbun
        clear hq hk1 hbun
        generalize ([lo, hi].getD k 0).num = f1 at *
        generalize (([lo, hi].getD k 0).den : Int) = f2 at *
        go_wp2_with (go_at_call 55; (with_reducible refine ((unhide HBE) _ (own_below (unhide HF') ?pb)).mono ?_); (case pb => exact (by repeat (first | with_reducible exact Below.refl _ _ | with_reducible assumption | (with_reducible refine Below.trans ?_ (Below.mono (by assumption) (by first | omega | (simp <;> omega)))) | with_reducible apply Below.drew | with_reducible apply below_drewN | (with_reducible refine Below.alloc ?_ (by first | omega | (simp <;> omega)) _) | (with_reducible refine Below.setCell ?_ (by first | omega | (simp <;> omega)) _)))); rintro e w3 ⟨h1, _, hbw3⟩; obtain ⟨A2, d2, rfl, ho2⟩ := h1 b HQ.out; clear h1; have hsw3 := hbw3.size; (try simp at hsw3); have HO2 := hide ho2; clear ho2)
        have hwr3 : Below wr.heap.size wr w3 := (by repeat (first | with_reducible exact Below.refl _ _ | with_reducible assumption | (with_reducible refine Below.trans ?_ (Below.mono (by assumption) (by first | omega | (simp <;> omega)))) | with_reducible apply Below.drew | with_reducible apply below_drewN | (with_reducible refine Below.alloc ?_ (by first | omega | (simp <;> omega)) _) | (with_reducible refine Below.setCell ?_ (by first | omega | (simp <;> omega)) _)))
        have HOL := hide (own_below (unhide HO) hwr3)
        have HB3 := hide ((unhide HB).trans (hwr3.mono hsr))
        have hs3 : wq.heap.size ≤ w3.heap.size := by omega
        clear hwr3 hbw3 HO HB k0 k1 HF'
        go_loopw [8, 59] (fun v i wx => ∃ (j : Nat) (A' : Option Addr) (n' c' : Nat) (l' : List Rat), i = .int .i64 j ∧ v = .slice A' n' c' ∧ j ≤ b.length ∧ Hid (l' = (b.take j).foldl putL l) ∧ Hid (n' = l'.length) ∧ 1 ≤ n' ∧ n' ≤ nn + j ∧ Hid (∀ z ∈ l', Un z) ∧ wx.ownsRow w.heap.size 46 2 (.slice A' n' c') n' (frcs (l'.map qf)) ∧ Below w3.heap.size w3 wx) (fun _ i _ => b.length - (intOf i).toNat)
        case atStart => exact ⟨0, A, nn, cc, l, rfl, rfl, by omega, hide rfl, HN, by omega, by omega, HU, unhide HOL, Below.refl _ _⟩
        case round =>
          obtain ⟨j, A', n', c', l', rfl, rfl, hj, HL', HN', hn1', hn2', HU', hown', hbwx⟩ := hrel
          have hsx := hbwx.size
          by_cases hlt2 : j < b.length
          · obtain ⟨g2, rfl, _, _⟩ := own_some (unhide HO2) (by omega)
            have hC := (fcells_own (unhide HO2)).below hbwx
            have f0 := hC.at0 j hlt2
            have f1 := hC.at1 j hlt2
            have hgx := hC.lt
            rw [qAtR b j hlt2] at f0 f1
            simp only at f0 f1
            have hyu := (unhide HBUN) _ (mem_iff_getD.2 ⟨j, hlt2, rfl⟩)
            have hput := fun W hW => imPut_any A' n' c' w.heap.size l' (b.getD j 0) W hW
            have hl' : (b.take (j + 1)).foldl putL l = putL l' (b.getD j 0) := by rw [take_sn hlt2, List.foldl_append, ← HL'.out]; rfl
            have hpl := putL_lens l' (b.getD j 0)
            rw [← HN'.out] at hpl
            have hu2 : ∀ z ∈ putL l' (b.getD j 0), Un z := fun z hz => by
              rcases putL_iff.1 hz with h | h
              · exact (unhide HU') z h
              · rw [h]; exact hyu
            have HU2 := hide hu2
            have HFY := hide hyu.fit
            have HFL := hide (fun z hz => ((unhide HU') z hz).fit)
            have HP := hide hput; have HL2 := Lib.hid hl'; have HO := hide hown'; have HB := hide hbwx
            clear hput hl' hown' hbwx hC hyu hu2
            generalize b.getD j 0 = y at *
            obtain ⟨yn, hyn⟩ : ∃ r, r = y.num := ⟨_, rfl⟩
            obtain ⟨yd, hyd⟩ : ∃ r, r = (y.den : Int) := ⟨_, rfl⟩
            rw [← hyn] at f0 HP
            rw [← hyd] at f1 HP
            clear hyn hyd
            go_wp2_with (go_at_call 45; (with_reducible refine ((unhide HP) _ (own_below (unhide HO) ?pb) ?p1 ?p2 ?p3 (unhide HFL) (unhide HFY)).mono ?_); (case pb => exact (by repeat (first | with_reducible exact Below.refl _ _ | with_reducible assumption | (with_reducible refine Below.trans ?_ (Below.mono (by assumption) (by first | omega | (simp <;> omega)))) | with_reducible apply Below.drew | with_reducible apply below_drewN | (with_reducible refine Below.alloc ?_ (by first | omega | (simp <;> omega)) _) | (with_reducible refine Below.setCell ?_ (by first | omega | (simp <;> omega)) _)))); (case p1 => first | omega | (simp; omega)); (case p2 => omega); (case p3 => (intro h; omega)); rintro e w4 ⟨v4, rfl, ho4, hbw4⟩; obtain ⟨A4, d4, rfl⟩ := own_slice ho4; have HO4 := hide ho4; clear ho4)
            have hb := unhide HB
            have hbz : Below w3.heap.size w3 w4 := (by repeat (first | with_reducible exact Below.refl _ _ | with_reducible assumption | (with_reducible refine Below.trans ?_ (Below.mono (by assumption) (by first | omega | (simp <;> omega)))) | with_reducible apply Below.drew | with_reducible apply below_drewN | (with_reducible refine Below.alloc ?_ (by first | omega | (simp <;> omega)) _) | (with_reducible refine Below.setCell ?_ (by first | omega | (simp <;> omega)) _)))
            have HBZ := hide hbz
            clear hb hbz hbw4
            go_roundw
            case rel => exact ⟨j + 1, A4, _, d4, putL l' y, by go_num, rfl, by omega, HL2.out.symm, hide rfl, by omega, by omega, HU2, unhide HO4, unhide HBZ⟩
            case measure => simp [intOf]; omega
          · obtain rfl : j = b.length := by omega
            have hl := HL'.out
            rw [List.take_of_length_le (Nat.le_refl _)] at hl
            have HLL := Lib.hid hl
            have HO := hide hown'; have HB := hide ((unhide HB3).trans (hbwx.mono hs3))
            clear hown' hbwx hl
            go_wp2_with fail
            go_roundw
            case rel => exact ⟨k + 1, A', n', c', l', by go_num, rfl, by omega, by rw [HLL.out]; exact HK1, HN', by omega, by omega, HU', unhide HO, unhide HB⟩
            case measure => simp [intOf]; omega
    · have hke : k = 2 := by omega
      obtain ⟨hcm, hpl, hl156⟩ := (unhide HCS) l (by rw [← hke]; exact unhide HK)
      clear hke
      obtain ⟨g1, rfl, _, _⟩ := own_some hown (by omega)
      have hln : l.length = nn := HN.out.symm
      have HCM := Lib.hid hcm; have HPL := hide hpl
      have HO0 := hide hown
      have HLN' := Lib.hid hln
      have hg1l := (hown.lt g1 rfl).2
      have hbq := unhide HBQ
      have c0 := (hbwr.cell (p := ⟨w.heap.size, 0, none⟩) (by (try simp only); omega)).trans (unhide HL0)
      have c1 := (hbwr.cell (p := ⟨w.heap.size, 1, none⟩) (by (try simp only); omega)).trans (unhide HL1)
      have c2 := (hbwr.cell (p := ⟨w.heap.size + 1, 0, none⟩) (by (try simp only); omega)).trans (unhide HH0)
      have c3 := (hbwr.cell (p := ⟨w.heap.size + 1, 1, none⟩) (by (try simp only); omega)).trans (unhide HH1)
      have HWL := hide (hbq.trans (hbwr.mono hbq.size))
      have hwl1 : w.heap.size + 1 < wr.heap.size := by omega
      have HC0 := hide c0; have HC1 := hide c1; have HC2 := hide c2; have HC3 := hide c3
      have hll : l.length ≤ 1000 := by omega
      have hnn40 : nn ≤ 1000 := by omega
      clear hown hbwr hcm hpl hln HK HN hbq c0 c1 c2 c3
      obtain ⟨wl, rfl⟩ : ∃ x, x = wr := ⟨wr, rfl⟩
      go_wp2_with fail
      go_loopw [15, 70] (fun v i wx => ∃ (k : Nat) (u : Value) (ps : List QP), i = .int .i64 k ∧ u = v ∧ k ≤ nn ∧ Hid (vK l (vct fs lo hi) k = some ps) ∧ wx.ownsRow wl.heap.size 50 4 u k (ptcs (ps.map qp)) ∧ Below wl.heap.size wl wx) (fun _ i _ => nn - (intOf i).toNat)
      case atStart => exact ⟨0, _, [], rfl, rfl, by omega, hide rfl, World.ownsRow_nil _ _ _ _, Below.refl _ _⟩
      case round =>
        obtain ⟨k, u, ps, rfl, rfl, hk, HK, hown, hbwr⟩ := hrel
        have hsx := hbwr.size
        by_cases hlt : k < nn
        · have hC := (fcells_own (unhide HO0)).below hbwr
          have f0 := hC.at0 k hlt
          have f1 := hC.at1 k hlt
          have hgr := hC.lt
          rw [qAtR l k (by rw [HLN'.out]; exact hlt)] at f0 f1
          simp only at f0 f1
          have hxu := (unhide HU) _ (mem_iff_getD.2 ⟨k, by rw [HLN'.out]; exact hlt, rfl⟩)
          have ha1 := fun W hW => imAt_un gf mf cf bf fs (l.getD k 0) W hW hF hxu
          have hst := vK_step (unhide HK)
          have hyu := vAt_un' hF hxu
          have hvB : ∀ j, u.ownBlock = some j → wl.heap.size ≤ j := fun j e => (hown.lt j e).1
          have v0 := (hbwr.cell (p := ⟨w.heap.size, 0, none⟩) (by (try simp only); omega)).trans (unhide HC0)
          have v1 := (hbwr.cell (p := ⟨w.heap.size, 1, none⟩) (by (try simp only); omega)).trans (unhide HC1)
          have v2 := (hbwr.cell (p := ⟨w.heap.size + 1, 0, none⟩) (by (try simp only); omega)).trans (unhide HC2)
          have v3 := (hbwr.cell (p := ⟨w.heap.size + 1, 1, none⟩) (by (try simp only); omega)).trans (unhide HC3)
          have hw1r : w.heap.size + 1 < wr.heap.size := by omega
          have hw0r : w.heap.size < wr.heap.size := by omega
          have HST := Lib.hid hst; have HO := hide hown; have HB := hide hbwr; have HVB := hide hvB
          have HF' := hide (own_below (unhide HF) ((unhide HWL).trans (hbwr.mono (unhide HWL).size)))
          clear hst hown hbwr hvB hC hxu
          cases hv : vAt fs (l.getD k 0) with
          | none =>
            rw [hv] at ha1
            have hno : clO fs lo hi = none := by
              rw [HCM.out, mmO_if, HLN'.out, vK_none (k := k + 1) (by rw [HST.out]; unfold vct; rw [hv]; rfl) (nn - (k + 1)) (by omega)]; rfl
            have HNO := Lib.hid hno; have HA1 := hide ha1
            clear ha1 hno hv hyu
            generalize (l.getD k 0).num = xn at *
            generalize ((l.getD k 0).den : Int) = xd at *
            go_wp2_with (go_at_call 46; (with_reducible refine ((unhide HA1) _ (own_below (unhide HF') ?pb)).mono ?_); (case pb => exact (by repeat (first | with_reducible exact Below.refl _ _ | with_reducible assumption | (with_reducible refine Below.trans ?_ (Below.mono (by assumption) (by first | omega | (simp <;> omega)))) | with_reducible apply Below.drew | with_reducible apply below_drewN | (with_reducible refine Below.alloc ?_ (by first | omega | (simp <;> omega)) _) | (with_reducible refine Below.setCell ?_ (by first | omega | (simp <;> omega)) _)))); rintro e w3 ⟨rfl, hbw3⟩; have hsw3 := hbw3.size; (try simp at hsw3); (skip; (try ((have kw3wr0 := (bnew hbw3) (wr.heap.size) ?pf); (case pf => (first | omega | (simp; done) | (simp; omega))); obtain ⟨kcw3wr0, kfw3wr0, klw3wr0⟩ := kw3wr0))))
            have hb0 := unhide HWL; have hb := unhide HB
            go_ret2
            refine ⟨?_, (by repeat (first | with_reducible exact Below.refl _ _ | with_reducible assumption | (with_reducible refine Below.trans ?_ (Below.mono (by assumption) (by first | omega | (simp <;> omega)))) | with_reducible apply Below.drew | with_reducible apply below_drewN | (with_reducible refine Below.alloc ?_ (by first | omega | (simp <;> omega)) _) | (with_reducible refine Below.setCell ?_ (by first | omega | (simp <;> omega)) _)))⟩
            rw [HNO.out]
            exact ⟨fun l h => (by cases h), fun _ => rfl⟩
          | some y =>
            rw [hv] at ha1
            have hyy := hyu y hv
            have hcA := (unhide H3) y hyy
            have hcB := (unhide H4) y hyy
            have hcC := (unhide H4) lo (unhide HLO)
            rw [HLN.out.1, HLN.out.2.1] at hcC
            have HK1 := hide (show vK l (vct fs lo hi) (k + 1) = some (ps ++ [(l.getD k 0, minR (maxR y [lo]) [hi])]) by rw [HST.out]; unfold vct; rw [hv]; rfl)
            have hpt := ptq_sn ps (l.getD k 0) (minR (maxR y [lo]) [hi])
            have h3c := (unhide HCL) y
            have HA1 := hide ha1
            clear ha1 hyu hv HST hyy
            simp only [oN_some, oD_some, Option.isSome_some] at HA1
            obtain ⟨z, hz⟩ : ∃ z, z = minR (maxR y [lo]) [hi] := ⟨_, rfl⟩
            rw [← hz] at HK1 hpt h3c
            clear hz
            have HPT := Lib.hid hpt; clear hpt
            generalize l.getD k 0 = X at *
            obtain ⟨xn, hxn⟩ : ∃ r, r = X.num := ⟨_, rfl⟩
            obtain ⟨xd, hxd⟩ : ∃ r, r = (X.den : Int) := ⟨_, rfl⟩
            rw [← hxn] at f0 HA1 HPT
            rw [← hxd] at f1 HA1 HPT
            clear hxn hxd
            rcases h3c with ⟨e1, e2, ez⟩ | ⟨e1, e2, ez⟩ | ⟨e1, e2, ez⟩
            · have g1 : decide (cq y lo < 0) = true := decide_eq_true (by omega)
              have g2 : decide (cq hi lo < 0) = false := decide_eq_false (by omega)
              have hpt := HPT.out
              rw [ez, HLN.out.1, HLN.out.2.1] at hpt
              rw [ez] at HK1
              have HPT2 := Lib.hid hpt
              have HCA := hide hcA; have HCB := hide hcC
              clear e1 e2 hpt HPT hcA hcB hcC ez
              generalize cq y lo = cz1 at *
              generalize cq hi lo = cz2 at *
              obtain ⟨yn, hyn⟩ : ∃ r, r = y.num := ⟨_, rfl⟩
              obtain ⟨yd, hyd⟩ : ∃ r, r = (y.den : Int) := ⟨_, rfl⟩
              rw [← hyn, ← hyd] at HA1 HCA
              clear hyn hyd
              go_wp2_with (first
                | (go_at_call 46; (with_reducible refine ((unhide HA1) _ (own_below (unhide HF') ?pb)).mono ?_); (case pb => exact (by repeat (first | with_reducible exact Below.refl _ _ | with_reducible assumption | (with_reducible refine Below.trans ?_ (Below.mono (by assumption) (by first | omega | (simp <;> omega)))) | with_reducible apply Below.drew | with_reducible apply below_drewN | (with_reducible refine Below.alloc ?_ (by first | omega | (simp <;> omega)) _) | (with_reducible refine Below.setCell ?_ (by first | omega | (simp <;> omega)) _)))); rintro e w3 ⟨rfl, hbw3⟩; have hsw3 := hbw3.size; (try simp at hsw3); (skip; (try ((have kw3wr0 := (bnew hbw3) (wr.heap.size) ?pf); (case pf => (first | omega | (simp; done) | (simp; omega))); obtain ⟨kcw3wr0, kfw3wr0, klw3wr0⟩ := kw3wr0)); (try ((have kw3w.heap.sizeX0 := (bnew hbw3) (w.heap.size) ?pf); (case pf => (first | omega | (simp; done) | (simp; omega))); obtain ⟨kcw3w.heap.sizeX0, kfw3w.heap.sizeX0, klw3w.heap.sizeX0⟩ := kw3w.heap.sizeX0)); (try ((have kw3w.heap.sizeX1 := (bnew hbw3) (w.heap.size + 1) ?pf); (case pf => (first | omega | (simp; done) | (simp; omega))); obtain ⟨kcw3w.heap.sizeX1, kfw3w.heap.sizeX1, klw3w.heap.sizeX1⟩ := kw3w.heap.sizeX1))))
                | ((go_at_call 54; have _t := hbw4; clear _t; (with_reducible refine ((unhide HCB) _).mono ?_); rintro e w5 ⟨rfl, hbw5⟩; obtain ⟨hcw5, hfw5⟩ := bcell hbw5; have hzw5 := hbw5.size; (try simp at hzw5); (try ((have kw5wr0 := (bnew hbw5) (wr.heap.size) ?pf); (case pf => (first | omega | (simp; done) | (simp; omega))); obtain ⟨kcw5wr0, kfw5wr0, klw5wr0⟩ := kw5wr0)); (try ((have kw5w30 := (bnew hbw5) (w3.heap.size) ?pf); (case pf => (first | omega | (simp; done) | (simp; omega))); obtain ⟨kcw5w30, kfw5w30, klw5w30⟩ := kw5w30)); (try ((have kw5w.heap.sizeX0 := (bnew hbw5) (w.heap.size) ?pf); (case pf => (first | omega | (simp; done) | (simp; omega))); obtain ⟨kcw5w.heap.sizeX0, kfw5w.heap.sizeX0, klw5w.heap.sizeX0⟩ := kw5w.heap.sizeX0)); (try ((have kw5w.heap.sizeX1 := (bnew hbw5) (w.heap.size + 1) ?pf); (case pf => (first | omega | (simp; done) | (simp; omega))); obtain ⟨kcw5w.heap.sizeX1, kfw5w.heap.sizeX1, klw5w.heap.sizeX1⟩ := kw5w.heap.sizeX1))))
                | ((go_at_call 54; (with_reducible refine ((unhide HCA) _).mono ?_); rintro e w4 ⟨rfl, hbw4⟩; obtain ⟨hcw4, hfw4⟩ := bcell hbw4; have hzw4 := hbw4.size; (try simp at hzw4); (try ((have kw4wr0 := (bnew hbw4) (wr.heap.size) ?pf); (case pf => (first | omega | (simp; done) | (simp; omega))); obtain ⟨kcw4wr0, kfw4wr0, klw4wr0⟩ := kw4wr0)); (try ((have kw4w30 := (bnew hbw4) (w3.heap.size) ?pf); (case pf => (first | omega | (simp; done) | (simp; omega))); obtain ⟨kcw4w30, kfw4w30, klw4w30⟩ := kw4w30)); (try ((have kw4w.heap.sizeX0 := (bnew hbw4) (w.heap.size) ?pf); (case pf => (first | omega | (simp; done) | (simp; omega))); obtain ⟨kcw4w.heap.sizeX0, kfw4w.heap.sizeX0, klw4w.heap.sizeX0⟩ := kw4w.heap.sizeX0)); (try ((have kw4w.heap.sizeX1 := (bnew hbw4) (w.heap.size + 1) ?pf); (case pf => (first | omega | (simp; done) | (simp; omega))); obtain ⟨kcw4w.heap.sizeX1, kfw4w.heap.sizeX1, klw4w.heap.sizeX1⟩ := kw4w.heap.sizeX1))); have n0 : w4.cell? ⟨w3.heap.size, 0, none⟩ = some (.int .i64 yn) := (by rw [kcw4w30]; simp [go_sem]); have n1 : w4.cell? ⟨w3.heap.size, 1, none⟩ = some (.int .i64 yd) := (by rw [kcw4w30]; simp [go_sem]); have nz : ∀ o, w4.frozen? ⟨w3.heap.size, o, none⟩ = false := (fun o => by rw [kfw4w30]; simp [go_sem]))
                | (at_builtin; refine wpl_append rfl _ _ _ rfl wl.heap.size 50 i0 _ 4 32 Tryz.underlying24 hi0 hz0 hz1 hz2 rfl (by omega) u k _ rfl (own_below (unhide HO) (show Below wr.heap.size wr _ from (by repeat (first | with_reducible exact Below.refl _ _ | with_reducible assumption | (with_reducible refine Below.trans ?_ (Below.mono (by assumption) (by first | omega | (simp <;> omega)))) | with_reducible apply Below.drew | with_reducible apply below_drewN | (with_reducible refine Below.alloc ?_ (by first | omega | (simp <;> omega)) _) | (with_reducible refine Below.setCell ?_ (by first | omega | (simp <;> omega)) _))))) _ 1 [.int .i64 xn, .int .i64 xd, .int .i64 ln, .int .i64 ld] rfl (lies4 (by simp [go_sem, *]) (by simp [go_sem, *]) (by simp [go_sem, *]) (by simp [go_sem, *])) rfl (by simp [Value.oneCell']) (Nat.le_trans (by omega) maxLen_ge) (by omega) (by first | omega | (simp <;> omega)) (k + 1) rfl ?_; intro A6 c6 w6 hown6 hgrow6))
              have hb := unhide HB
              have hbz : Below wl.heap.size wl w6 := Below.grown (show Below wl.heap.size wl _ from (by repeat (first | with_reducible exact Below.refl _ _ | with_reducible assumption | (with_reducible refine Below.trans ?_ (Below.mono (by assumption) (by first | omega | (simp <;> omega)))) | with_reducible apply Below.drew | with_reducible apply below_drewN | (with_reducible refine Below.alloc ?_ (by first | omega | (simp <;> omega)) _) | (with_reducible refine Below.setCell ?_ (by first | omega | (simp <;> omega)) _)))) hgrow6 (by first | omega | (simp <;> omega)) (unhide HVB)
              rw [HPT2.out] at hown6
              have HO6 := hide hown6
              have HBZ := hide hbz
              clear hown6 hgrow6 hb hbz
              go_wp2_with fail
              go_roundw
              case rel => exact ⟨k + 1, _, _, by go_num, rfl, by omega, HK1, unhide HO6, unhide HBZ⟩
              case measure => simp [intOf]; omega
            · have g1 : decide (cq y lo < 0) = false := decide_eq_false (by omega)
              have g2 : decide (cq hi y < 0) = true := decide_eq_true (by omega)
              have hpt := HPT.out
              rw [ez, HLN.out.2.2.1, HLN.out.2.2.2] at hpt
              rw [ez] at HK1
              have HPT2 := Lib.hid hpt
              have HCA := hide hcA; have HCB := hide hcB
              clear e1 e2 hpt HPT hcA hcB hcC ez
              generalize cq y lo = cz1 at *
              generalize cq hi y = cz2 at *
              obtain ⟨yn, hyn⟩ : ∃ r, r = y.num := ⟨_, rfl⟩
              obtain ⟨yd, hyd⟩ : ∃ r, r = (y.den : Int) := ⟨_, rfl⟩
              rw [← hyn, ← hyd] at HA1 HCA HCB
              clear hyn hyd
              go_wp2_with (first
                | (go_at_call 46; (with_reducible refine ((unhide HA1) _ (own_below (unhide HF') ?pb)).mono ?_); (case pb => exact (by repeat (first | with_reducible exact Below.refl _ _ | with_reducible assumption | (with_reducible refine Below.trans ?_ (Below.mono (by assumption) (by first | omega | (simp <;> omega)))) | with_reducible apply Below.drew | with_reducible apply below_drewN | (with_reducible refine Below.alloc ?_ (by first | omega | (simp <;> omega)) _) | (with_reducible refine Below.setCell ?_ (by first | omega | (simp <;> omega)) _)))); rintro e w3 ⟨rfl, hbw3⟩; have hsw3 := hbw3.size; (try simp at hsw3); (skip; (try ((have kw3wr0 := (bnew hbw3) (wr.heap.size) ?pf); (case pf => (first | omega | (simp; done) | (simp; omega))); obtain ⟨kcw3wr0, kfw3wr0, klw3wr0⟩ := kw3wr0)); (try ((have kw3w.heap.sizeX0 := (bnew hbw3) (w.heap.size) ?pf); (case pf => (first | omega | (simp; done) | (simp; omega))); obtain ⟨kcw3w.heap.sizeX0, kfw3w.heap.sizeX0, klw3w.heap.sizeX0⟩ := kw3w.heap.sizeX0)); (try ((have kw3w.heap.sizeX1 := (bnew hbw3) (w.heap.size + 1) ?pf); (case pf => (first | omega | (simp; done) | (simp; omega))); obtain ⟨kcw3w.heap.sizeX1, kfw3w.heap.sizeX1, klw3w.heap.sizeX1⟩ := kw3w.heap.sizeX1))))
                | ((go_at_call 54; have _t := hbw4; clear _t; (with_reducible refine ((unhide HCB) _).mono ?_); rintro e w5 ⟨rfl, hbw5⟩; obtain ⟨hcw5, hfw5⟩ := bcell hbw5; have hzw5 := hbw5.size; (try simp at hzw5); (try ((have kw5wr0 := (bnew hbw5) (wr.heap.size) ?pf); (case pf => (first | omega | (simp; done) | (simp; omega))); obtain ⟨kcw5wr0, kfw5wr0, klw5wr0⟩ := kw5wr0)); (try ((have kw5w30 := (bnew hbw5) (w3.heap.size) ?pf); (case pf => (first | omega | (simp; done) | (simp; omega))); obtain ⟨kcw5w30, kfw5w30, klw5w30⟩ := kw5w30)); (try ((have kw5w.heap.sizeX0 := (bnew hbw5) (w.heap.size) ?pf); (case pf => (first | omega | (simp; done) | (simp; omega))); obtain ⟨kcw5w.heap.sizeX0, kfw5w.heap.sizeX0, klw5w.heap.sizeX0⟩ := kw5w.heap.sizeX0)); (try ((have kw5w.heap.sizeX1 := (bnew hbw5) (w.heap.size + 1) ?pf); (case pf => (first | omega | (simp; done) | (simp; omega))); obtain ⟨kcw5w.heap.sizeX1, kfw5w.heap.sizeX1, klw5w.heap.sizeX1⟩ := kw5w.heap.sizeX1))))
                | ((go_at_call 54; (with_reducible refine ((unhide HCA) _).mono ?_); rintro e w4 ⟨rfl, hbw4⟩; obtain ⟨hcw4, hfw4⟩ := bcell hbw4; have hzw4 := hbw4.size; (try simp at hzw4); (try ((have kw4wr0 := (bnew hbw4) (wr.heap.size) ?pf); (case pf => (first | omega | (simp; done) | (simp; omega))); obtain ⟨kcw4wr0, kfw4wr0, klw4wr0⟩ := kw4wr0)); (try ((have kw4w30 := (bnew hbw4) (w3.heap.size) ?pf); (case pf => (first | omega | (simp; done) | (simp; omega))); obtain ⟨kcw4w30, kfw4w30, klw4w30⟩ := kw4w30)); (try ((have kw4w.heap.sizeX0 := (bnew hbw4) (w.heap.size) ?pf); (case pf => (first | omega | (simp; done) | (simp; omega))); obtain ⟨kcw4w.heap.sizeX0, kfw4w.heap.sizeX0, klw4w.heap.sizeX0⟩ := kw4w.heap.sizeX0)); (try ((have kw4w.heap.sizeX1 := (bnew hbw4) (w.heap.size + 1) ?pf); (case pf => (first | omega | (simp; done) | (simp; omega))); obtain ⟨kcw4w.heap.sizeX1, kfw4w.heap.sizeX1, klw4w.heap.sizeX1⟩ := kw4w.heap.sizeX1))); have n0 : w4.cell? ⟨w3.heap.size, 0, none⟩ = some (.int .i64 yn) := (by rw [kcw4w30]; simp [go_sem]); have n1 : w4.cell? ⟨w3.heap.size, 1, none⟩ = some (.int .i64 yd) := (by rw [kcw4w30]; simp [go_sem]); have nz : ∀ o, w4.frozen? ⟨w3.heap.size, o, none⟩ = false := (fun o => by rw [kfw4w30]; simp [go_sem]))
                | (at_builtin; refine wpl_append rfl _ _ _ rfl wl.heap.size 50 i0 _ 4 32 Tryz.underlying24 hi0 hz0 hz1 hz2 rfl (by omega) u k _ rfl (own_below (unhide HO) (show Below wr.heap.size wr _ from (by repeat (first | with_reducible exact Below.refl _ _ | with_reducible assumption | (with_reducible refine Below.trans ?_ (Below.mono (by assumption) (by first | omega | (simp <;> omega)))) | with_reducible apply Below.drew | with_reducible apply below_drewN | (with_reducible refine Below.alloc ?_ (by first | omega | (simp <;> omega)) _) | (with_reducible refine Below.setCell ?_ (by first | omega | (simp <;> omega)) _))))) _ 1 [.int .i64 xn, .int .i64 xd, .int .i64 hn', .int .i64 hd'] rfl (lies4 (by simp [go_sem, *]) (by simp [go_sem, *]) (by simp [go_sem, *]) (by simp [go_sem, *])) rfl (by simp [Value.oneCell']) (Nat.le_trans (by omega) maxLen_ge) (by omega) (by first | omega | (simp <;> omega)) (k + 1) rfl ?_; intro A6 c6 w6 hown6 hgrow6))
              have hb := unhide HB
              have hbz : Below wl.heap.size wl w6 := Below.grown (show Below wl.heap.size wl _ from (by repeat (first | with_reducible exact Below.refl _ _ | with_reducible assumption | (with_reducible refine Below.trans ?_ (Below.mono (by assumption) (by first | omega | (simp <;> omega)))) | with_reducible apply Below.drew | with_reducible apply below_drewN | (with_reducible refine Below.alloc ?_ (by first | omega | (simp <;> omega)) _) | (with_reducible refine Below.setCell ?_ (by first | omega | (simp <;> omega)) _)))) hgrow6 (by first | omega | (simp <;> omega)) (unhide HVB)
              rw [HPT2.out] at hown6
              have HO6 := hide hown6
              have HBZ := hide hbz
              clear hown6 hgrow6 hb hbz
              go_wp2_with fail
              go_roundw
              case rel => exact ⟨k + 1, _, _, by go_num, rfl, by omega, HK1, unhide HO6, unhide HBZ⟩
              case measure => simp [intOf]; omega
            · have g1 : decide (cq y lo < 0) = false := decide_eq_false (by omega)
              have g2 : decide (cq hi y < 0) = false := decide_eq_false (by omega)
              have hpt := HPT.out
              rw [ez] at hpt
              rw [ez] at HK1
              have HPT2 := Lib.hid hpt
              have HCA := hide hcA; have HCB := hide hcB
              clear e1 e2 hpt HPT hcA hcB hcC ez
              generalize cq y lo = cz1 at *
              generalize cq hi y = cz2 at *
              obtain ⟨yn, hyn⟩ : ∃ r, r = y.num := ⟨_, rfl⟩
              obtain ⟨yd, hyd⟩ : ∃ r, r = (y.den : Int) := ⟨_, rfl⟩
              rw [← hyn, ← hyd] at HA1 HCA HCB HPT2
              clear hyn hyd
              go_wp2_with (first
                | (go_at_call 46; (with_reducible refine ((unhide HA1) _ (own_below (unhide HF') ?pb)).mono ?_); (case pb => exact (by repeat (first | with_reducible exact Below.refl _ _ | with_reducible assumption | (with_reducible refine Below.trans ?_ (Below.mono (by assumption) (by first | omega | (simp <;> omega)))) | with_reducible apply Below.drew | with_reducible apply below_drewN | (with_reducible refine Below.alloc ?_ (by first | omega | (simp <;> omega)) _) | (with_reducible refine Below.setCell ?_ (by first | omega | (simp <;> omega)) _)))); rintro e w3 ⟨rfl, hbw3⟩; have hsw3 := hbw3.size; (try simp at hsw3); (skip; (try ((have kw3wr0 := (bnew hbw3) (wr.heap.size) ?pf); (case pf => (first | omega | (simp; done) | (simp; omega))); obtain ⟨kcw3wr0, kfw3wr0, klw3wr0⟩ := kw3wr0)); (try ((have kw3w.heap.sizeX0 := (bnew hbw3) (w.heap.size) ?pf); (case pf => (first | omega | (simp; done) | (simp; omega))); obtain ⟨kcw3w.heap.sizeX0, kfw3w.heap.sizeX0, klw3w.heap.sizeX0⟩ := kw3w.heap.sizeX0)); (try ((have kw3w.heap.sizeX1 := (bnew hbw3) (w.heap.size + 1) ?pf); (case pf => (first | omega | (simp; done) | (simp; omega))); obtain ⟨kcw3w.heap.sizeX1, kfw3w.heap.sizeX1, klw3w.heap.sizeX1⟩ := kw3w.heap.sizeX1))))
                | ((go_at_call 54; have _t := hbw4; clear _t; (with_reducible refine ((unhide HCB) _).mono ?_); rintro e w5 ⟨rfl, hbw5⟩; obtain ⟨hcw5, hfw5⟩ := bcell hbw5; have hzw5 := hbw5.size; (try simp at hzw5); (try ((have kw5wr0 := (bnew hbw5) (wr.heap.size) ?pf); (case pf => (first | omega | (simp; done) | (simp; omega))); obtain ⟨kcw5wr0, kfw5wr0, klw5wr0⟩ := kw5wr0)); (try ((have kw5w30 := (bnew hbw5) (w3.heap.size) ?pf); (case pf => (first | omega | (simp; done) | (simp; omega))); obtain ⟨kcw5w30, kfw5w30, klw5w30⟩ := kw5w30)); (try ((have kw5w.heap.sizeX0 := (bnew hbw5) (w.heap.size) ?pf); (case pf => (first | omega | (simp; done) | (simp; omega))); obtain ⟨kcw5w.heap.sizeX0, kfw5w.heap.sizeX0, klw5w.heap.sizeX0⟩ := kw5w.heap.sizeX0)); (try ((have kw5w.heap.sizeX1 := (bnew hbw5) (w.heap.size + 1) ?pf); (case pf => (first | omega | (simp; done) | (simp; omega))); obtain ⟨kcw5w.heap.sizeX1, kfw5w.heap.sizeX1, klw5w.heap.sizeX1⟩ := kw5w.heap.sizeX1))))
                | ((go_at_call 54; (with_reducible refine ((unhide HCA) _).mono ?_); rintro e w4 ⟨rfl, hbw4⟩; obtain ⟨hcw4, hfw4⟩ := bcell hbw4; have hzw4 := hbw4.size; (try simp at hzw4); (try ((have kw4wr0 := (bnew hbw4) (wr.heap.size) ?pf); (case pf => (first | omega | (simp; done) | (simp; omega))); obtain ⟨kcw4wr0, kfw4wr0, klw4wr0⟩ := kw4wr0)); (try ((have kw4w30 := (bnew hbw4) (w3.heap.size) ?pf); (case pf => (first | omega | (simp; done) | (simp; omega))); obtain ⟨kcw4w30, kfw4w30, klw4w30⟩ := kw4w30)); (try ((have kw4w.heap.sizeX0 := (bnew hbw4) (w.heap.size) ?pf); (case pf => (first | omega | (simp; done) | (simp; omega))); obtain ⟨kcw4w.heap.sizeX0, kfw4w.heap.sizeX0, klw4w.heap.sizeX0⟩ := kw4w.heap.sizeX0)); (try ((have kw4w.heap.sizeX1 := (bnew hbw4) (w.heap.size + 1) ?pf); (case pf => (first | omega | (simp; done) | (simp; omega))); obtain ⟨kcw4w.heap.sizeX1, kfw4w.heap.sizeX1, klw4w.heap.sizeX1⟩ := kw4w.heap.sizeX1))); have n0 : w4.cell? ⟨w3.heap.size, 0, none⟩ = some (.int .i64 yn) := (by rw [kcw4w30]; simp [go_sem]); have n1 : w4.cell? ⟨w3.heap.size, 1, none⟩ = some (.int .i64 yd) := (by rw [kcw4w30]; simp [go_sem]); have nz : ∀ o, w4.frozen? ⟨w3.heap.size, o, none⟩ = false := (fun o => by rw [kfw4w30]; simp [go_sem]))
                | (at_builtin; refine wpl_append rfl _ _ _ rfl wl.heap.size 50 i0 _ 4 32 Tryz.underlying24 hi0 hz0 hz1 hz2 rfl (by omega) u k _ rfl (own_below (unhide HO) (show Below wr.heap.size wr _ from (by repeat (first | with_reducible exact Below.refl _ _ | with_reducible assumption | (with_reducible refine Below.trans ?_ (Below.mono (by assumption) (by first | omega | (simp <;> omega)))) | with_reducible apply Below.drew | with_reducible apply below_drewN | (with_reducible refine Below.alloc ?_ (by first | omega | (simp <;> omega)) _) | (with_reducible refine Below.setCell ?_ (by first | omega | (simp <;> omega)) _))))) _ 1 [.int .i64 xn, .int .i64 xd, .int .i64 yn, .int .i64 yd] rfl (lies4 (by simp [go_sem, *]) (by simp [go_sem, *]) (by simp [go_sem, *]) (by simp [go_sem, *])) rfl (by simp [Value.oneCell']) (Nat.le_trans (by omega) maxLen_ge) (by omega) (by first | omega | (simp <;> omega)) (k + 1) rfl ?_; intro A6 c6 w6 hown6 hgrow6))
              have hb := unhide HB
              have hbz : Below wl.heap.size wl w6 := Below.grown (show Below wl.heap.size wl _ from (by repeat (first | with_reducible exact Below.refl _ _ | with_reducible assumption | (with_reducible refine Below.trans ?_ (Below.mono (by assumption) (by first | omega | (simp <;> omega)))) | with_reducible apply Below.drew | with_reducible apply below_drewN | (with_reducible refine Below.alloc ?_ (by first | omega | (simp <;> omega)) _) | (with_reducible refine Below.setCell ?_ (by first | omega | (simp <;> omega)) _)))) hgrow6 (by first | omega | (simp <;> omega)) (unhide HVB)
              rw [HPT2.out] at hown6
              have HO6 := hide hown6
              have HBZ := hide hbz
              clear hown6 hgrow6 hb hbz
              go_wp2_with fail
              go_roundw
              case rel => exact ⟨k + 1, _, _, by go_num, rfl, by omega, HK1, unhide HO6, unhide HBZ⟩
              case measure => simp [intOf]; omega
        · have hke : k = nn := by omega
          have hps := vK_len (unhide HK)
          have hv : vK l (vct fs lo hi) l.length = some ps := by rw [HLN'.out, ← hke]; exact unhide HK
          have hS := (unhide HPL).points (by rw [HLN'.out]; exact hnn40) hv
          have hif : clO fs lo hi = ifO ps := by rw [HCM.out, mmO_if, hv]; rfl
          obtain ⟨A6, d6, rfl⟩ := own_slice hown
          obtain ⟨g6, rfl, hg6, _⟩ := own_some hown (by omega)
          have hco := coIf_any g6 k d6 wl.heap.size ps wr hown (by omega) (by omega) hS
          rw [← hif] at hco
          have HC := hide hco
          have hz := (unhide HWL).trans (hbwr.mono (unhide HWL).size)
          have HZ := hide hz
          have hsz := hz.size
          clear hco hown hbwr hv hS hif hz hke hps
          go_wp2_with fail
          refine (unhide HC).mono ?_
          rintro e w7 ⟨⟨h1, h2⟩, hb7⟩
          have hz7 := (unhide HZ).trans (hb7.mono hsz)
          cases hcq : clO fs lo hi with
          | none =>
            have HCQ := Lib.hid hcq
            obtain rfl := h2 hcq
            clear h1 h2 hcq
            have HZ7 := hide hz7
            clear hz7 hb7
            go_wp2_with fail
            go_ret2
            refine ⟨?_, unhide HZ7⟩
            rw [HCQ.out]
            exact ⟨fun l h => (by cases h), fun _ => rfl⟩
          | some r =>
            have HCQ := Lib.hid hcq
            obtain ⟨A7, d7, rfl, ho7⟩ := h1 r hcq
            have HO7 := hide (ho7.mono hsz)
            have HZ7 := hide hz7
            clear h1 h2 ho7 hz7 hb7 hcq
            go_wp2_with fail
            go_ret2
            refine ⟨?_, unhide HZ7⟩
            rw [HCQ.out]
            exact ⟨fun l h => (by injection h with h; subst h; exact ⟨A7, d7, rfl, unhide HO7⟩), fun h => (by cases h)⟩

set_option maxRecDepth 100000 in
set_option maxHeartbeats 3200000 in
theorem sClampMap_any (A : Option Addr) (n c b1 : Nat) (ps : List Pt) (a b p q : Int) (w : World) (ha : w.ownsRow b1 50 4 (.slice A n c) n (ptcs ps)) (hn : n ≤ 1048576) :
    Calls Tryz.prog 28 #[.slice A n c, .agg #[.int .i64 (a), .int .i64 (b)], .agg #[.int .i64 (p), .int .i64 (q)]] w fun e w' => GivesP w.heap.size (((clP ps a b p q).getD []).map qp) (clP ps a b p q).isSome e w' ∧ Below w.heap.size w w' := by
  have hm1 := fun W hW => imGood_any A n c b1 ps W hW hn
  have hu1 := fun W => raUnit_any a b W
  have hu2 := fun W => raUnit_any p q W
  cases h1 : mapB ps with
  | false =>
    rw [clP_no (.inl h1)]
    rw [h1] at hm1
    have HM := hide hm1; have HA := hide ha
    clear hm1 h1 ha hu1 hu2
    go_enter Tryz.func28, Tryz.ntmps28
    go_wp2_with (go_at_call 37; (with_reducible refine ((unhide HM) _ (own_below (unhide HA) ?pb)).mono ?_); (case pb => exact (by repeat (first | with_reducible exact Below.refl _ _ | with_reducible assumption | (with_reducible refine Below.trans ?_ (Below.mono (by assumption) (by first | omega | (simp <;> omega)))) | with_reducible apply Below.drew | with_reducible apply below_drewN | (with_reducible refine Below.alloc ?_ (by first | omega | (simp <;> omega)) _) | (with_reducible refine Below.setCell ?_ (by first | omega | (simp <;> omega)) _)))); rintro e w1 ⟨rfl, hbw1⟩; have hs1 := hbw1.size; (try simp at hs1); (skip; (try ((have kw1w0 := (bnew hbw1) (w.heap.size) ?pf); (case pf => (first | omega | (simp; done) | (simp; omega))); obtain ⟨kcw1w0, kfw1w0, klw1w0⟩ := kw1w0)); (try ((have kw1w1 := (bnew hbw1) (w.heap.size + 1) ?pf); (case pf => (first | omega | (simp; done) | (simp; omega))); obtain ⟨kcw1w1, kfw1w1, klw1w1⟩ := kw1w1))))
    go_ret2
    exact ⟨gives_pt ⟨fun l h => (by cases h), fun _ => rfl⟩, (by repeat (first | with_reducible exact Below.refl _ _ | with_reducible assumption | (with_reducible refine Below.trans ?_ (Below.mono (by assumption) (by first | omega | (simp <;> omega)))) | with_reducible apply Below.drew | with_reducible apply below_drewN | (with_reducible refine Below.alloc ?_ (by first | omega | (simp <;> omega)) _) | (with_reducible refine Below.setCell ?_ (by first | omega | (simp <;> omega)) _)))⟩
  | true =>
    rw [h1] at hm1
    have HM := hide hm1; have HA := hide ha; clear hm1
    cases h2 : uB a b with
    | false =>
      rw [clP_no (.inr (.inl h2))]
      rw [h2] at hu1
      have HU1 := hide hu1
      clear h1 h2 ha hu1 hu2
      go_enter Tryz.func28, Tryz.ntmps28
      go_wp2_with (first
        | (go_at_call 37; (with_reducible refine ((unhide HM) _ (own_below (unhide HA) ?pb)).mono ?_); (case pb => exact (by repeat (first | with_reducible exact Below.refl _ _ | with_reducible assumption | (with_reducible refine Below.trans ?_ (Below.mono (by assumption) (by first | omega | (simp <;> omega)))) | with_reducible apply Below.drew | with_reducible apply below_drewN | (with_reducible refine Below.alloc ?_ (by first | omega | (simp <;> omega)) _) | (with_reducible refine Below.setCell ?_ (by first | omega | (simp <;> omega)) _)))); rintro e w1 ⟨rfl, hbw1⟩; have hs1 := hbw1.size; (try simp at hs1); (skip; (try ((have kw1w0 := (bnew hbw1) (w.heap.size) ?pf); (case pf => (first | omega | (simp; done) | (simp; omega))); obtain ⟨kcw1w0, kfw1w0, klw1w0⟩ := kw1w0)); (try ((have kw1w1 := (bnew hbw1) (w.heap.size + 1) ?pf); (case pf => (first | omega | (simp; done) | (simp; omega))); obtain ⟨kcw1w1, kfw1w1, klw1w1⟩ := kw1w1))))
        | (go_at_call 44; (with_reducible refine ((unhide HU1) _).mono ?_); rintro e w2 ⟨rfl, hbw2⟩; obtain ⟨hcw2, hfw2⟩ := bcell hbw2; have hzw2 := hbw2.size; (try simp at hzw2); (try ((have kw2w0 := (bnew hbw2) (w.heap.size) ?pf); (case pf => (first | omega | (simp; done) | (simp; omega))); obtain ⟨kcw2w0, kfw2w0, klw2w0⟩ := kw2w0)); (try ((have kw2w1 := (bnew hbw2) (w.heap.size + 1) ?pf); (case pf => (first | omega | (simp; done) | (simp; omega))); obtain ⟨kcw2w1, kfw2w1, klw2w1⟩ := kw2w1))))
      go_ret2
      exact ⟨gives_pt ⟨fun l h => (by cases h), fun _ => rfl⟩, (by repeat (first | with_reducible exact Below.refl _ _ | with_reducible assumption | (with_reducible refine Below.trans ?_ (Below.mono (by assumption) (by first | omega | (simp <;> omega)))) | with_reducible apply Below.drew | with_reducible apply below_drewN | (with_reducible refine Below.alloc ?_ (by first | omega | (simp <;> omega)) _) | (with_reducible refine Below.setCell ?_ (by first | omega | (simp <;> omega)) _)))⟩
    | true =>
      cases h3 : uB p q with
      | false =>
        rw [clP_no (.inr (.inr h3))]
        rw [h2] at hu1
        rw [h3] at hu2
        have HU1 := hide hu1; have HU2 := hide hu2
        clear h1 h2 h3 ha hu1 hu2
        go_enter Tryz.func28, Tryz.ntmps28
        go_wp2_with (first
          | (go_at_call 37; (with_reducible refine ((unhide HM) _ (own_below (unhide HA) ?pb)).mono ?_); (case pb => exact (by repeat (first | with_reducible exact Below.refl _ _ | with_reducible assumption | (with_reducible refine Below.trans ?_ (Below.mono (by assumption) (by first | omega | (simp <;> omega)))) | with_reducible apply Below.drew | with_reducible apply below_drewN | (with_reducible refine Below.alloc ?_ (by first | omega | (simp <;> omega)) _) | (with_reducible refine Below.setCell ?_ (by first | omega | (simp <;> omega)) _)))); rintro e w1 ⟨rfl, hbw1⟩; have hs1 := hbw1.size; (try simp at hs1); (skip; (try ((have kw1w0 := (bnew hbw1) (w.heap.size) ?pf); (case pf => (first | omega | (simp; done) | (simp; omega))); obtain ⟨kcw1w0, kfw1w0, klw1w0⟩ := kw1w0)); (try ((have kw1w1 := (bnew hbw1) (w.heap.size + 1) ?pf); (case pf => (first | omega | (simp; done) | (simp; omega))); obtain ⟨kcw1w1, kfw1w1, klw1w1⟩ := kw1w1))))
          | (go_at_call 44; have _t := hbw2; clear _t; (with_reducible refine ((unhide HU2) _).mono ?_); rintro e w3 ⟨rfl, hbw3⟩; obtain ⟨hcw3, hfw3⟩ := bcell hbw3; have hzw3 := hbw3.size; (try simp at hzw3); (try ((have kw3w0 := (bnew hbw3) (w.heap.size) ?pf); (case pf => (first | omega | (simp; done) | (simp; omega))); obtain ⟨kcw3w0, kfw3w0, klw3w0⟩ := kw3w0)); (try ((have kw3w1 := (bnew hbw3) (w.heap.size + 1) ?pf); (case pf => (first | omega | (simp; done) | (simp; omega))); obtain ⟨kcw3w1, kfw3w1, klw3w1⟩ := kw3w1)))
          | (go_at_call 44; (with_reducible refine ((unhide HU1) _).mono ?_); rintro e w2 ⟨rfl, hbw2⟩; obtain ⟨hcw2, hfw2⟩ := bcell hbw2; have hzw2 := hbw2.size; (try simp at hzw2); (try ((have kw2w0 := (bnew hbw2) (w.heap.size) ?pf); (case pf => (first | omega | (simp; done) | (simp; omega))); obtain ⟨kcw2w0, kfw2w0, klw2w0⟩ := kw2w0)); (try ((have kw2w1 := (bnew hbw2) (w.heap.size + 1) ?pf); (case pf => (first | omega | (simp; done) | (simp; omega))); obtain ⟨kcw2w1, kfw2w1, klw2w1⟩ := kw2w1))))
        go_ret2
        exact ⟨gives_pt ⟨fun l h => (by cases h), fun _ => rfl⟩, (by repeat (first | with_reducible exact Below.refl _ _ | with_reducible assumption | (with_reducible refine Below.trans ?_ (Below.mono (by assumption) (by first | omega | (simp <;> omega)))) | with_reducible apply Below.drew | with_reducible apply below_drewN | (with_reducible refine Below.alloc ?_ (by first | omega | (simp <;> omega)) _) | (with_reducible refine Below.setCell ?_ (by first | omega | (simp <;> omega)) _)))⟩
      | true =>
        rw [h2] at hu1
        rw [h3] at hu2
        obtain ⟨lo, rfl, rfl, hlof, hlo0, hlo1⟩ := uB_rat h2
        have hlo : Un lo := ⟨hlof, hlo0, hlo1⟩
        obtain ⟨hi, rfl, rfl, hhif, hhi0, hhi1⟩ := uB_rat h3
        have hhi : Un hi := ⟨hhif, hhi0, hhi1⟩
        have hor := fun W => raCmp_q lo hi hlo.fit hhi.fit W
        obtain ⟨g, m1, fs, rfl, rfl, rfl, hgf, hlf⟩ := own_form ha h1
        by_cases hc : hi < lo
        · have hcd : decide (0 < cq lo hi) = true := decide_eq_true (cq_gt.2 hc)
          rw [clP_gt hc]
          have HU1 := hide hu1; have HU2 := hide hu2; have HO := hide hor
          clear h1 h2 h3 ha hu1 hu2 hor hgf hlf hc hlo hhi hlof hlo0 hlo1 hhif hhi0 hhi1
          generalize cq lo hi = cz at *
          generalize lo.num = ln at *
          generalize (lo.den : Int) = ld at *
          generalize hi.num = hn' at *
          generalize (hi.den : Int) = hd' at *
          go_enter Tryz.func28, Tryz.ntmps28
          go_wp2_with (first
            | (go_at_call 37; (with_reducible refine ((unhide HM) _ (own_below (unhide HA) ?pb)).mono ?_); (case pb => exact (by repeat (first | with_reducible exact Below.refl _ _ | with_reducible assumption | (with_reducible refine Below.trans ?_ (Below.mono (by assumption) (by first | omega | (simp <;> omega)))) | with_reducible apply Below.drew | with_reducible apply below_drewN | (with_reducible refine Below.alloc ?_ (by first | omega | (simp <;> omega)) _) | (with_reducible refine Below.setCell ?_ (by first | omega | (simp <;> omega)) _)))); rintro e w1 ⟨rfl, hbw1⟩; have hs1 := hbw1.size; (try simp at hs1); (skip; (try ((have kw1w0 := (bnew hbw1) (w.heap.size) ?pf); (case pf => (first | omega | (simp; done) | (simp; omega))); obtain ⟨kcw1w0, kfw1w0, klw1w0⟩ := kw1w0)); (try ((have kw1w1 := (bnew hbw1) (w.heap.size + 1) ?pf); (case pf => (first | omega | (simp; done) | (simp; omega))); obtain ⟨kcw1w1, kfw1w1, klw1w1⟩ := kw1w1))))
            | (go_at_call 44; have _t := hbw2; clear _t; (with_reducible refine ((unhide HU2) _).mono ?_); rintro e w3 ⟨rfl, hbw3⟩; obtain ⟨hcw3, hfw3⟩ := bcell hbw3; have hzw3 := hbw3.size; (try simp at hzw3); (try ((have kw3w0 := (bnew hbw3) (w.heap.size) ?pf); (case pf => (first | omega | (simp; done) | (simp; omega))); obtain ⟨kcw3w0, kfw3w0, klw3w0⟩ := kw3w0)); (try ((have kw3w1 := (bnew hbw3) (w.heap.size + 1) ?pf); (case pf => (first | omega | (simp; done) | (simp; omega))); obtain ⟨kcw3w1, kfw3w1, klw3w1⟩ := kw3w1)))
            | (go_at_call 44; (with_reducible refine ((unhide HU1) _).mono ?_); rintro e w2 ⟨rfl, hbw2⟩; obtain ⟨hcw2, hfw2⟩ := bcell hbw2; have hzw2 := hbw2.size; (try simp at hzw2); (try ((have kw2w0 := (bnew hbw2) (w.heap.size) ?pf); (case pf => (first | omega | (simp; done) | (simp; omega))); obtain ⟨kcw2w0, kfw2w0, klw2w0⟩ := kw2w0)); (try ((have kw2w1 := (bnew hbw2) (w.heap.size + 1) ?pf); (case pf => (first | omega | (simp; done) | (simp; omega))); obtain ⟨kcw2w1, kfw2w1, klw2w1⟩ := kw2w1)))
            | (go_at_call 54; (with_reducible refine ((unhide HO) _).mono ?_); rintro e w4 ⟨rfl, hbw4⟩; obtain ⟨hcw4, hfw4⟩ := bcell hbw4; have hzw4 := hbw4.size; (try simp at hzw4); (try ((have kw4w0 := (bnew hbw4) (w.heap.size) ?pf); (case pf => (first | omega | (simp; done) | (simp; omega))); obtain ⟨kcw4w0, kfw4w0, klw4w0⟩ := kw4w0)); (try ((have kw4w1 := (bnew hbw4) (w.heap.size + 1) ?pf); (case pf => (first | omega | (simp; done) | (simp; omega))); obtain ⟨kcw4w1, kfw4w1, klw4w1⟩ := kw4w1))))
          go_ret2
          exact ⟨gives_pt ⟨fun l h => (by cases h), fun _ => rfl⟩, (by repeat (first | with_reducible exact Below.refl _ _ | with_reducible assumption | (with_reducible refine Below.trans ?_ (Below.mono (by assumption) (by first | omega | (simp <;> omega)))) | with_reducible apply Below.drew | with_reducible apply below_drewN | (with_reducible refine Below.alloc ?_ (by first | omega | (simp <;> omega)) _) | (with_reducible refine Below.setCell ?_ (by first | omega | (simp <;> omega)) _)))⟩
        · rw [clP_yes hgf hlo hhi hc]
          exact (sClampMap_map g m1 c b1 fs lo hi w ha hgf hlo hhi hc).mono fun e w' ⟨h1, h2⟩ => ⟨gives_pt h1, h2⟩
end Go.Proofs.YtgkbogcmmedmbaaGreat

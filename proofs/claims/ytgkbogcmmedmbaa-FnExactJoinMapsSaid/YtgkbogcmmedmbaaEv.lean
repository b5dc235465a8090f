/-
  Chapter 5: JoinMaps of the model.
-/
import Derived.Test.YtgkbogcmmedmbaaEu
namespace Go.Proofs.Ytgkbogcmmedmbaa
open Go.RowKit Rm

theorem tkq {l : List QP} {k : Nat} (h : k < l.length) : l.take (k + 1) = l.take k ++ [qAt l k] := by
  rw [List.take_add_one, List.getElem?_eq_getElem h, ← qAt_elem h]; rfl
theorem fltq_yes {p : QP → Bool} {l : List QP} {k : Nat} (hk : k < l.length) (h : p (qAt l k) = true) : (l.take (k + 1)).filter p = (l.take k).filter p ++ [qAt l k] := by
  rw [tkq hk, List.filter_append, List.filter_cons_of_pos h]; rfl
theorem fltq_no {p : QP → Bool} {l : List QP} {k : Nat} (hk : k < l.length) (h : p (qAt l k) = false) : (l.take (k + 1)).filter p = (l.take k).filter p := by
  rw [tkq hk, List.filter_append, List.filter_cons_of_neg (by rw [h]; simp)]; simp

set_option maxRecDepth 100000 in
set_option maxHeartbeats 6400000 in
theorem sJoinMaps_map (gf mf cf bf gg mg cg bg : Nat) (fs gs : List QP) (a y : Rat) (w : World) (hf : w.ownsRow bf 43 4 (.slice (some ⟨gf, 0, none⟩) (mf + 1) cf) (mf + 1) (ptcs (fs.map qp))) (hg : w.ownsRow bg 43 4 (.slice (some ⟨gg, 0, none⟩) (mg + 1) cg) (mg + 1) (ptcs (gs.map qp))) (hF : GMap fs) (hG : GMap gs) (ha : Un a) (hy : vAt fs a = some y) (hy2 : vAt gs a = some y) :
    Calls Try.prog 15 #[.slice (some ⟨gf, 0, none⟩) (mf + 1) cf, .slice (some ⟨gg, 0, none⟩) (mg + 1) cg, .agg #[.int .i64 (a.num), .int .i64 (a.den)]] w fun e w' => PtO w.heap.size (ifO (jnL fs gs a y)) e w' ∧ Below w.heap.size w w' := by
  obtain ⟨i0, hi0, hz0, hz1, hz2⟩ := info_parts iPoint
  have hlf := own_lenQ hf
  have hlg := own_lenQ hg
  have hhf := hF.hi
  have hhg := hG.hi
  rw [hlf] at hhf
  rw [hlg] at hhg
  have hgfl := (hf.lt gf rfl).2
  have hggl := (hg.lt gg rfl).2
  have ht := fun W hW hV => coTwo_any (some ⟨gf, 0, none⟩) (some ⟨gg, 0, none⟩) (mf + 1) (mg + 1) cf cg bf bg (fs.map qp) (gs.map qp) W hW hV (by omega) (by omega)
  rw [hF.mapB, hG.mapB] at ht
  have hu := fun W => raUnit_any a.num a.den W
  rw [uB_of ha] at hu
  have h1 := fun W hW => imAt_un gf mf cf bf fs a W hW hF ha
  have h2 := fun W hW => imAt_un gg mg cg bg gs a W hW hG ha
  rw [hy] at h1
  rw [hy2] at h2
  simp only [oN_some, oD_some, Option.isSome_some] at h1 h2
  have hcF := fun k (hk : k < mf + 1) W => raCmp_q (qAt fs k).1 a (hF.un (i := k) (by omega)).1.fit ha.fit W
  have hcG := fun k (hk : k < mg + 1) W => raCmp_q a (qAt gs k).1 ha.fit (hG.un (i := k) (by omega)).1.fit W
  have hcells1 := fun (W : World) hW k hk => q_cells (w := W) (k := k) (own_below hf hW) hk
  have hcells2 := fun (W : World) hW k hk => q_cells (w := W) (k := k) (own_below hg hW) hk
  have hpl := jn_pl hF hG ha
  have hjl := jn_len hF hG a
  have hsl := srt_len (jnP fs gs a)
  have hS := fun hc => hpl.points (by omega) (jn_vK hF hG hy) hc
  have hjL : jnL fs gs a y = ((fs.take (mf + 1)).filter (fun p => decide (p.1 < a)) ++ [(a, y)]) ++ (gs.take (mg + 1)).filter (fun p => decide (a < p.1)) := by
    rw [List.take_of_length_le (by omega), List.take_of_length_le (by omega), List.append_assoc]; rfl
  have HF := hide hf; have HG := hide hg; have HT := hide ht; have HU := hide hu; have H1 := hide h1; have H2 := hide h2; have HCF := hide hcF; have HCG := hide hcG; have HQF := hide hcells1; have HQG := hide hcells2; have HS := hide hS; have HJL := Lib.hid hjL
  have HLF := Lib.hid hlf; have HLG := Lib.hid hlg
  have HPA := Lib.hid (fun l => ptq_sn l a y)
  clear hf hg ht hu h1 h2 hcF hcG hcells1 hcells2 hpl hjl hsl hS hjL hlf hlg ha hy hy2
  obtain ⟨an, han⟩ : ∃ r, r = a.num := ⟨_, rfl⟩
  obtain ⟨ad, had⟩ : ∃ r, r = (a.den : Int) := ⟨_, rfl⟩
  obtain ⟨yn, hyn⟩ : ∃ r, r = y.num := ⟨_, rfl⟩
  obtain ⟨yd, hyd⟩ : ∃ r, r = (y.den : Int) := ⟨_, rfl⟩
  rw [← han, ← had] at HU H1 H2 HCF HCG HPA
  rw [← hyn, ← hyd] at H1 H2 HPA
  rw [← han, ← had]
  clear han had hyn hyd
  go_enter Try.func15, Try.ntmps15
  go_wp2_with (first
    | (go_at_call 22; (with_reducible refine ((unhide HT) _ (own_below (unhide HF) ?p1) (own_below (unhide HG) ?p2)).mono ?_); (case p1 => exact (by repeat (first | with_reducible exact Below.refl _ _ | with_reducible assumption | (with_reducible refine Below.trans ?_ (Below.mono (by assumption) (by first | omega | (simp <;> omega)))) | with_reducible apply Below.drew | with_reducible apply below_drewN | (with_reducible refine Below.alloc ?_ (by first | omega | (simp <;> omega)) _) | (with_reducible refine Below.setCell ?_ (by first | omega | (simp <;> omega)) _)))); (case p2 => exact (by repeat (first | with_reducible exact Below.refl _ _ | with_reducible assumption | (with_reducible refine Below.trans ?_ (Below.mono (by assumption) (by first | omega | (simp <;> omega)))) | with_reducible apply Below.drew | with_reducible apply below_drewN | (with_reducible refine Below.alloc ?_ (by first | omega | (simp <;> omega)) _) | (with_reducible refine Below.setCell ?_ (by first | omega | (simp <;> omega)) _)))); rintro e w0 ⟨rfl, hbw0⟩; have hs0 := hbw0.size; (try simp at hs0); (skip; (try ((have kw0w0 := (bnew hbw0) (w.heap.size) ?pf); (case pf => (first | omega | (simp; done) | (simp; omega))); obtain ⟨kcw0w0, kfw0w0, klw0w0⟩ := kw0w0))))
    | (go_at_call 39; (with_reducible refine ((unhide HU) _).mono ?_); rintro e w1 ⟨rfl, hbw1⟩; obtain ⟨hcw1, hfw1⟩ := bcell hbw1; have hzw1 := hbw1.size; (try simp at hzw1); (try ((have kw1w0 := (bnew hbw1) (w.heap.size) ?pf); (case pf => (first | omega | (simp; done) | (simp; omega))); obtain ⟨kcw1w0, kfw1w0, klw1w0⟩ := kw1w0)))
    | (go_at_call 40; (with_reducible refine ((unhide H2) _ (own_below (unhide HG) ?pb)).mono ?_); (case pb => exact (by repeat (first | with_reducible exact Below.refl _ _ | with_reducible assumption | (with_reducible refine Below.trans ?_ (Below.mono (by assumption) (by first | omega | (simp <;> omega)))) | with_reducible apply Below.drew | with_reducible apply below_drewN | (with_reducible refine Below.alloc ?_ (by first | omega | (simp <;> omega)) _) | (with_reducible refine Below.setCell ?_ (by first | omega | (simp <;> omega)) _)))); rintro e w3 ⟨rfl, hbw3⟩; have hs3 := hbw3.size; (try simp at hs3); (skip; (try ((have kw3w0 := (bnew hbw3) (w.heap.size) ?pf); (case pf => (first | omega | (simp; done) | (simp; omega))); obtain ⟨kcw3w0, kfw3w0, klw3w0⟩ := kw3w0)); (try ((have kw3w20 := (bnew hbw3) (w2.heap.size) ?pf); (case pf => (first | omega | (simp; done) | (simp; omega))); obtain ⟨kcw3w20, kfw3w20, klw3w20⟩ := kw3w20))))
    | (go_at_call 40; (with_reducible refine ((unhide H1) _ (own_below (unhide HF) ?pb)).mono ?_); (case pb => exact (by repeat (first | with_reducible exact Below.refl _ _ | with_reducible assumption | (with_reducible refine Below.trans ?_ (Below.mono (by assumption) (by first | omega | (simp <;> omega)))) | with_reducible apply Below.drew | with_reducible apply below_drewN | (with_reducible refine Below.alloc ?_ (by first | omega | (simp <;> omega)) _) | (with_reducible refine Below.setCell ?_ (by first | omega | (simp <;> omega)) _)))); rintro e w2 ⟨rfl, hbw2⟩; have hs2 := hbw2.size; (try simp at hs2); (skip; (try ((have kw2w0 := (bnew hbw2) (w.heap.size) ?pf); (case pf => (first | omega | (simp; done) | (simp; omega))); obtain ⟨kcw2w0, kfw2w0, klw2w0⟩ := kw2w0)))))
  have a0 : w3.cell? ⟨w.heap.size, 0, none⟩ = some (.int .i64 an) := by rw [kcw3w0]; simp [go_sem, *]
  have a1 : w3.cell? ⟨w.heap.size, 1, none⟩ = some (.int .i64 ad) := by rw [kcw3w0]; simp [go_sem, *]
  have y0 : w3.cell? ⟨w2.heap.size, 0, none⟩ = some (.int .i64 yn) := by rw [kcw3w20]; simp [go_sem]
  have y1 : w3.cell? ⟨w2.heap.size, 1, none⟩ = some (.int .i64 yd) := by rw [kcw3w20]; simp [go_sem]
  have hbW : Below w.heap.size w (w3.alloc (.cells #[.int .i64 yn, .int .i64 yd] 31)) := (by repeat (first | with_reducible exact Below.refl _ _ | with_reducible assumption | (with_reducible refine Below.trans ?_ (Below.mono (by assumption) (by first | omega | (simp <;> omega)))) | with_reducible apply Below.drew | with_reducible apply below_drewN | (with_reducible refine Below.alloc ?_ (by first | omega | (simp <;> omega)) _) | (with_reducible refine Below.setCell ?_ (by first | omega | (simp <;> omega)) _)))
  have hbA : Below w3.heap.size w3 (w3.alloc (.cells #[.int .i64 yn, .int .i64 yd] 31)) := (by repeat (first | with_reducible exact Below.refl _ _ | with_reducible assumption | (with_reducible refine Below.trans ?_ (Below.mono (by assumption) (by first | omega | (simp <;> omega)))) | with_reducible apply Below.drew | with_reducible apply below_drewN | (with_reducible refine Below.alloc ?_ (by first | omega | (simp <;> omega)) _) | (with_reducible refine Below.setCell ?_ (by first | omega | (simp <;> omega)) _)))
  have hsa : w.heap.size < w3.heap.size := klw3w0
  have hsy : w2.heap.size < w3.heap.size := klw3w20
  replace a0 := (hbA.cell (p := ⟨w.heap.size, 0, none⟩) hsa).trans a0
  replace a1 := (hbA.cell (p := ⟨w.heap.size, 1, none⟩) hsa).trans a1
  replace y0 := (hbA.cell (p := ⟨w2.heap.size, 0, none⟩) hsy).trans y0
  replace y1 := (hbA.cell (p := ⟨w2.heap.size, 1, none⟩) hsy).trans y1
  have hsl := hbA.size
  have HBW := hide hbW; have HA0 := hide a0; have HA1 := hide a1; have HY0 := hide y0; have HY1 := hide y1
  clear hbW hbA hbw0 hbw1 hbw2 hbw3 HT HU H1 H2 a0 a1 y0 y1 hcw1 hfw1 kcw0w0 kfw0w0 klw0w0 kcw1w0 kfw1w0 klw1w0 kcw2w0 kfw2w0 klw2w0 kcw3w0 kfw3w0 klw3w0 kcw3w20 kfw3w20 klw3w20 hs0 hs2 hs3
  generalize w3.alloc (.cells #[.int .i64 yn, .int .i64 yd] 31) = wl at *
  have hwa : w.heap.size < wl.heap.size := by omega
  have hwy : w2.heap.size < wl.heap.size := by omega
  generalize w2.heap.size = Y at *
  go_loopw [12, 51] (fun v i wr => ∃ (k nn : Nat) (u : Value) (l : List QP), i = .int .i64 k ∧ u = v ∧ k ≤ (mf + 1) ∧ Hid (l = (fs.take k).filter (fun p => decide (p.1 < a))) ∧ Hid (nn = l.length) ∧ nn ≤ k ∧ wr.ownsRow wl.heap.size 43 4 u nn (ptcs (l.map qp)) ∧ Below wl.heap.size wl wr) (fun _ i _ => (mf + 1) - (intOf i).toNat)
  case atStart => exact ⟨0, 0, _, [], rfl, rfl, by omega, hide (by simp), hide rfl, by omega, World.ownsRow_nil _ _ _ _, Below.refl _ _⟩
  case round =>
    obtain ⟨k, nn, u, l, rfl, rfl, hk, HL, HN, hn2, hown, hbwr⟩ := hrel
    have hsr := hbwr.size
    by_cases hlt : k < (mf + 1)
    · obtain ⟨f0, f1, f2, f3⟩ := (unhide HQF) wr ((unhide HBW).trans (hbwr.mono (unhide HBW).size)) k hlt
      have b0 := (hbwr.cell (p := ⟨w.heap.size, 0, none⟩) hwa).trans (unhide HA0)
      have b1 := (hbwr.cell (p := ⟨w.heap.size, 1, none⟩) hwa).trans (unhide HA1)
      have hgr : gf < wr.heap.size := by omega
      have hwr : w.heap.size < wr.heap.size := by omega
      have hcm := fun W => (unhide HCF) k hlt W
      have hvB : ∀ j, u.ownBlock = some j → wl.heap.size ≤ j := fun j e => (hown.lt j e).1
      have HO := hide hown; have HB := hide hbwr; have HVB := hide hvB; have HCM := hide hcm
      clear hown hbwr hvB hcm
      have hpt := ptq_sn l (qAt fs k).1 (qAt fs k).2
      by_cases hz : (qAt fs k).1 < a
      · have hcd : decide (cq (qAt fs k).1 a < 0) = true := decide_eq_true (cq_lt.2 hz)
        have hfl := fltq_yes (p := fun p => decide (p.1 < a)) (l := fs) (k := k) (by rw [HLF.out]; exact hlt) (decide_eq_true hz)
        have HL2 := Lib.hid (show l ++ [(qAt fs k)] = (fs.take (k + 1)).filter (fun p => decide (p.1 < a)) by rw [hfl, HL.out])
        have HPT := Lib.hid (show ptcs (l.map qp) ++ [.int .i64 (qAt fs k).1.num, .int .i64 (qAt fs k).1.den, .int .i64 (qAt fs k).2.num, .int .i64 (qAt fs k).2.den] = ptcs ((l ++ [(qAt fs k)]).map qp) from hpt)
        clear hz hfl hpt
        generalize cq (qAt fs k).1 a = cz at *
        generalize qAt fs k = X at *
        obtain ⟨x1, hx1⟩ : ∃ r, r = X.1.num := ⟨_, rfl⟩
        obtain ⟨x2, hx2⟩ : ∃ r, r = (X.1.den : Int) := ⟨_, rfl⟩
        obtain ⟨x3, hx3⟩ : ∃ r, r = X.2.num := ⟨_, rfl⟩
        obtain ⟨x4, hx4⟩ : ∃ r, r = (X.2.den : Int) := ⟨_, rfl⟩
        rw [← hx1] at f0 HCM HPT
        rw [← hx2] at f1 HCM HPT
        rw [← hx3] at f2 HPT
        rw [← hx4] at f3 HPT
        clear hx1 hx2 hx3 hx4
        go_wp2_with (first
          | (go_at_call 34; (with_reducible refine ((unhide HCM) _).mono ?_); rintro e w5 ⟨rfl, hbw5⟩; obtain ⟨hcw5, hfw5⟩ := bcell hbw5; have hzw5 := hbw5.size; (try simp at hzw5); (try ((have kw5wr0 := (bnew hbw5) (wr.heap.size) ?pf); (case pf => (first | omega | (simp; done) | (simp; omega))); obtain ⟨kcw5wr0, kfw5wr0, klw5wr0⟩ := kw5wr0)); (try ((have kw5w.heap.sizeX0 := (bnew hbw5) (w.heap.size) ?pf); (case pf => (first | omega | (simp; done) | (simp; omega))); obtain ⟨kcw5w.heap.sizeX0, kfw5w.heap.sizeX0, klw5w.heap.sizeX0⟩ := kw5w.heap.sizeX0)))
          | (at_builtin; refine wpl_append rfl _ _ _ rfl wl.heap.size 43 i0 _ 4 32 Try.underlying26 hi0 hz0 hz1 hz2 rfl (by omega) u nn _ rfl (own_below (unhide HO) (show Below wr.heap.size wr _ from (by repeat (first | with_reducible exact Below.refl _ _ | with_reducible assumption | (with_reducible refine Below.trans ?_ (Below.mono (by assumption) (by first | omega | (simp <;> omega)))) | with_reducible apply Below.drew | with_reducible apply below_drewN | (with_reducible refine Below.alloc ?_ (by first | omega | (simp <;> omega)) _) | (with_reducible refine Below.setCell ?_ (by first | omega | (simp <;> omega)) _))))) _ 1 [.int .i64 x1, .int .i64 x2, .int .i64 x3, .int .i64 x4] rfl (lies4 (by simp [go_sem, *]) (by simp [go_sem, *]) (by simp [go_sem, *]) (by simp [go_sem, *])) rfl (by simp [Value.oneCell']) (Nat.le_trans (by omega) maxLen_ge) (by omega) (by first | omega | (simp <;> omega)) (nn + 1) rfl ?_; intro A6 c6 w6 hown6 hgrow6))
        have hb := unhide HB
        have hbz : Below wl.heap.size wl w6 := Below.grown (show Below wl.heap.size wl _ from (by repeat (first | with_reducible exact Below.refl _ _ | with_reducible assumption | (with_reducible refine Below.trans ?_ (Below.mono (by assumption) (by first | omega | (simp <;> omega)))) | with_reducible apply Below.drew | with_reducible apply below_drewN | (with_reducible refine Below.alloc ?_ (by first | omega | (simp <;> omega)) _) | (with_reducible refine Below.setCell ?_ (by first | omega | (simp <;> omega)) _)))) hgrow6 (by first | omega | (simp <;> omega)) (unhide HVB)
        rw [HPT.out] at hown6
        have HO6 := hide hown6
        have HBZ := hide hbz
        have HN6 := hide (show nn + 1 = (l ++ [X]).length by rw [List.length_append]; have := HN.out; simp; omega)
        clear hown6 hgrow6 hb hbz
        go_wp2_with fail
        go_roundw
        case rel => exact ⟨k + 1, nn + 1, _, l ++ [X], by go_num, rfl, by omega, hide HL2.out, HN6, by omega, unhide HO6, unhide HBZ⟩
        case measure => simp [intOf]; omega
      · have hcd : decide (cq (qAt fs k).1 a < 0) = false := decide_eq_false (fun h => hz (cq_lt.1 h))
        have hfl := fltq_no (p := fun p => decide (p.1 < a)) (l := fs) (k := k) (by rw [HLF.out]; exact hlt) (decide_eq_false hz)
        have HL2 := Lib.hid (show l = (fs.take (k + 1)).filter (fun p => decide (p.1 < a)) by rw [hfl]; exact HL.out)
        clear hz hfl hpt
        generalize cq (qAt fs k).1 a = cz at *
        generalize (qAt fs k).1.num = x1 at *
        generalize ((qAt fs k).1.den : Int) = x2 at *
        generalize (qAt fs k).2.num = x3 at *
        generalize ((qAt fs k).2.den : Int) = x4 at *
        go_wp2_with ((go_at_call 34; (with_reducible refine ((unhide HCM) _).mono ?_); rintro e w5 ⟨rfl, hbw5⟩; obtain ⟨hcw5, hfw5⟩ := bcell hbw5; have hzw5 := hbw5.size; (try simp at hzw5); (try ((have kw5wr0 := (bnew hbw5) (wr.heap.size) ?pf); (case pf => (first | omega | (simp; done) | (simp; omega))); obtain ⟨kcw5wr0, kfw5wr0, klw5wr0⟩ := kw5wr0)); (try ((have kw5w.heap.sizeX0 := (bnew hbw5) (w.heap.size) ?pf); (case pf => (first | omega | (simp; done) | (simp; omega))); obtain ⟨kcw5w.heap.sizeX0, kfw5w.heap.sizeX0, klw5w.heap.sizeX0⟩ := kw5w.heap.sizeX0))))
        have hbx : Below wr.heap.size wr w5 := (by repeat (first | with_reducible exact Below.refl _ _ | with_reducible assumption | (with_reducible refine Below.trans ?_ (Below.mono (by assumption) (by first | omega | (simp <;> omega)))) | with_reducible apply Below.drew | with_reducible apply below_drewN | (with_reducible refine Below.alloc ?_ (by first | omega | (simp <;> omega)) _) | (with_reducible refine Below.setCell ?_ (by first | omega | (simp <;> omega)) _)))
        have hb := unhide HB
        have HO6 := hide (own_below (unhide HO) hbx); have HBZ := hide (hb.trans (hbx.mono hb.size))
        clear hb hbx
        go_roundw
        case rel => exact ⟨k + 1, nn, u, l, by go_num, rfl, by omega, hide HL2.out, HN, by omega, unhide HO6, unhide HBZ⟩
        case measure => simp [intOf]; omega
    · have hke : k = mf + 1 := by omega
      have hlk := HL.out
      rw [hke] at hlk
      have hn13 : nn ≤ 12 := by omega
      have b0 := (hbwr.cell (p := ⟨w.heap.size, 0, none⟩) hwa).trans (unhide HA0)
      have b1 := (hbwr.cell (p := ⟨w.heap.size, 1, none⟩) hwa).trans (unhide HA1)
      have v0 := (hbwr.cell (p := ⟨Y, 0, none⟩) hwy).trans (unhide HY0)
      have v1 := (hbwr.cell (p := ⟨Y, 1, none⟩) hwy).trans (unhide HY1)
      have hwr : w.heap.size < wr.heap.size := by omega
      have hYr : Y < wr.heap.size := by omega
      have hvB : ∀ j, u.ownBlock = some j → wl.heap.size ≤ j := fun j e => (hown.lt j e).1
      obtain ⟨n1, rfl⟩ : ∃ x, x = nn := ⟨nn, rfl⟩
      obtain ⟨l1, rfl⟩ : ∃ x, x = l := ⟨l, rfl⟩
      have HO := hide hown; have HLK := Lib.hid hlk; have HB := hide hbwr; have HVB := hide hvB; have HN1 := HN
      clear hown hlk hbwr hvB hke HL HN
      go_wp2_with (at_builtin; refine wpl_append rfl _ _ _ rfl wl.heap.size 43 i0 _ 4 32 Try.underlying26 hi0 hz0 hz1 hz2 rfl (by omega) u n1 _ rfl (own_below (unhide HO) (show Below wr.heap.size wr _ from (by repeat (first | with_reducible exact Below.refl _ _ | with_reducible assumption | (with_reducible refine Below.trans ?_ (Below.mono (by assumption) (by first | omega | (simp <;> omega)))) | with_reducible apply Below.drew | with_reducible apply below_drewN | (with_reducible refine Below.alloc ?_ (by first | omega | (simp <;> omega)) _) | (with_reducible refine Below.setCell ?_ (by first | omega | (simp <;> omega)) _))))) _ 1 [.int .i64 an, .int .i64 ad, .int .i64 yn, .int .i64 yd] rfl (lies4 (by simp [go_sem, *]) (by simp [go_sem, *]) (by simp [go_sem, *]) (by simp [go_sem, *])) rfl (by simp [Value.oneCell']) (Nat.le_trans (by omega) maxLen_ge) (by omega) (by first | omega | (simp <;> omega)) (n1 + 1) rfl ?_; intro A6 c6 w6 hown6 hgrow6)
      have hb := unhide HB
      have hbz : Below wl.heap.size wl w6 := Below.grown (show Below wl.heap.size wl _ from (by repeat (first | with_reducible exact Below.refl _ _ | with_reducible assumption | (with_reducible refine Below.trans ?_ (Below.mono (by assumption) (by first | omega | (simp <;> omega)))) | with_reducible apply Below.drew | with_reducible apply below_drewN | (with_reducible refine Below.alloc ?_ (by first | omega | (simp <;> omega)) _) | (with_reducible refine Below.setCell ?_ (by first | omega | (simp <;> omega)) _)))) hgrow6 (by first | omega | (simp <;> omega)) (unhide HVB)
      rw [HPA.out] at hown6
      have HO6 := hide hown6; have HBZ := hide hbz
      have HN6 := hide (show n1 + 1 = (l1 ++ [(a, y)]).length by rw [List.length_append]; have := HN1.out; simp; omega)
      clear hown6 hgrow6 hb hbz HO HB HVB HN1 b0 b1 v0 v1 hwr hYr
      go_wp2_with fail
      go_loopw [12, 73] (fun v i wr => ∃ (k nn : Nat) (u : Value) (l : List QP), i = .int .i64 k ∧ u = v ∧ k ≤ (mg + 1) ∧ Hid (l = (l1 ++ [(a, y)]) ++ (gs.take k).filter (fun p => decide (a < p.1))) ∧ Hid (nn = l.length) ∧ nn ≤ n1 + 1 + k ∧ wr.ownsRow wl.heap.size 43 4 u nn (ptcs (l.map qp)) ∧ Below wl.heap.size wl wr) (fun _ i _ => (mg + 1) - (intOf i).toNat)
      case atStart => exact ⟨0, n1 + 1, _, l1 ++ [(a, y)], rfl, rfl, by omega, hide (by simp), HN6, by omega, unhide HO6, unhide HBZ⟩
      case round =>
        obtain ⟨k, nn, u, l, rfl, rfl, hk, HL, HN, hn2, hown, hbwr⟩ := hrel
        have hsr := hbwr.size
        by_cases hlt : k < (mg + 1)
        · obtain ⟨f0, f1, f2, f3⟩ := (unhide HQG) wr ((unhide HBW).trans (hbwr.mono (unhide HBW).size)) k hlt
          have b0 := (hbwr.cell (p := ⟨w.heap.size, 0, none⟩) hwa).trans (unhide HA0)
          have b1 := (hbwr.cell (p := ⟨w.heap.size, 1, none⟩) hwa).trans (unhide HA1)
          have hgr : gg < wr.heap.size := by omega
          have hwr : w.heap.size < wr.heap.size := by omega
          have hcm := fun W => (unhide HCG) k hlt W
          have hvB : ∀ j, u.ownBlock = some j → wl.heap.size ≤ j := fun j e => (hown.lt j e).1
          have HO := hide hown; have HB := hide hbwr; have HVB := hide hvB; have HCM := hide hcm
          clear hown hbwr hvB hcm
          have hpt := ptq_sn l (qAt gs k).1 (qAt gs k).2
          by_cases hz : a < (qAt gs k).1
          · have hcd : decide (cq a (qAt gs k).1 < 0) = true := decide_eq_true (cq_lt.2 hz)
            have hfl := fltq_yes (p := fun p => decide (a < p.1)) (l := gs) (k := k) (by rw [HLG.out]; exact hlt) (decide_eq_true hz)
            have HL2 := Lib.hid (show l ++ [(qAt gs k)] = (l1 ++ [(a, y)]) ++ (gs.take (k + 1)).filter (fun p => decide (a < p.1)) by rw [hfl, HL.out, List.append_assoc])
            have HPT := Lib.hid (show ptcs (l.map qp) ++ [.int .i64 (qAt gs k).1.num, .int .i64 (qAt gs k).1.den, .int .i64 (qAt gs k).2.num, .int .i64 (qAt gs k).2.den] = ptcs ((l ++ [(qAt gs k)]).map qp) from hpt)
            clear hz hfl hpt
            generalize cq a (qAt gs k).1 = cz at *
            generalize qAt gs k = X at *
            obtain ⟨x1, hx1⟩ : ∃ r, r = X.1.num := ⟨_, rfl⟩
            obtain ⟨x2, hx2⟩ : ∃ r, r = (X.1.den : Int) := ⟨_, rfl⟩
            obtain ⟨x3, hx3⟩ : ∃ r, r = X.2.num := ⟨_, rfl⟩
            obtain ⟨x4, hx4⟩ : ∃ r, r = (X.2.den : Int) := ⟨_, rfl⟩
            rw [← hx1] at f0 HCM HPT
            rw [← hx2] at f1 HCM HPT
            rw [← hx3] at f2 HPT
            rw [← hx4] at f3 HPT
            clear hx1 hx2 hx3 hx4
            go_wp2_with (first
              | (go_at_call 34; (with_reducible refine ((unhide HCM) _).mono ?_); rintro e w5 ⟨rfl, hbw5⟩; obtain ⟨hcw5, hfw5⟩ := bcell hbw5; have hzw5 := hbw5.size; (try simp at hzw5); (try ((have kw5wr0 := (bnew hbw5) (wr.heap.size) ?pf); (case pf => (first | omega | (simp; done) | (simp; omega))); obtain ⟨kcw5wr0, kfw5wr0, klw5wr0⟩ := kw5wr0)); (try ((have kw5w.heap.sizeX0 := (bnew hbw5) (w.heap.size) ?pf); (case pf => (first | omega | (simp; done) | (simp; omega))); obtain ⟨kcw5w.heap.sizeX0, kfw5w.heap.sizeX0, klw5w.heap.sizeX0⟩ := kw5w.heap.sizeX0)))
              | (at_builtin; refine wpl_append rfl _ _ _ rfl wl.heap.size 43 i0 _ 4 32 Try.underlying26 hi0 hz0 hz1 hz2 rfl (by omega) u nn _ rfl (own_below (unhide HO) (show Below wr.heap.size wr _ from (by repeat (first | with_reducible exact Below.refl _ _ | with_reducible assumption | (with_reducible refine Below.trans ?_ (Below.mono (by assumption) (by first | omega | (simp <;> omega)))) | with_reducible apply Below.drew | with_reducible apply below_drewN | (with_reducible refine Below.alloc ?_ (by first | omega | (simp <;> omega)) _) | (with_reducible refine Below.setCell ?_ (by first | omega | (simp <;> omega)) _))))) _ 1 [.int .i64 x1, .int .i64 x2, .int .i64 x3, .int .i64 x4] rfl (lies4 (by simp [go_sem, *]) (by simp [go_sem, *]) (by simp [go_sem, *]) (by simp [go_sem, *])) rfl (by simp [Value.oneCell']) (Nat.le_trans (by omega) maxLen_ge) (by omega) (by first | omega | (simp <;> omega)) (nn + 1) rfl ?_; intro A6 c6 w6 hown6 hgrow6))
            have hb := unhide HB
            have hbz : Below wl.heap.size wl w6 := Below.grown (show Below wl.heap.size wl _ from (by repeat (first | with_reducible exact Below.refl _ _ | with_reducible assumption | (with_reducible refine Below.trans ?_ (Below.mono (by assumption) (by first | omega | (simp <;> omega)))) | with_reducible apply Below.drew | with_reducible apply below_drewN | (with_reducible refine Below.alloc ?_ (by first | omega | (simp <;> omega)) _) | (with_reducible refine Below.setCell ?_ (by first | omega | (simp <;> omega)) _)))) hgrow6 (by first | omega | (simp <;> omega)) (unhide HVB)
            rw [HPT.out] at hown6
            have HO6 := hide hown6
            have HBZ := hide hbz
            have HN6 := hide (show nn + 1 = (l ++ [X]).length by rw [List.length_append]; have := HN.out; simp; omega)
            clear hown6 hgrow6 hb hbz
            go_wp2_with fail
            go_roundw
            case rel => exact ⟨k + 1, nn + 1, _, l ++ [X], by go_num, rfl, by omega, hide HL2.out, HN6, by omega, unhide HO6, unhide HBZ⟩
            case measure => simp [intOf]; omega
          · have hcd : decide (cq a (qAt gs k).1 < 0) = false := decide_eq_false (fun h => hz (cq_lt.1 h))
            have hfl := fltq_no (p := fun p => decide (a < p.1)) (l := gs) (k := k) (by rw [HLG.out]; exact hlt) (decide_eq_false hz)
            have HL2 := Lib.hid (show l = (l1 ++ [(a, y)]) ++ (gs.take (k + 1)).filter (fun p => decide (a < p.1)) by rw [hfl]; exact HL.out)
            clear hz hfl hpt
            generalize cq a (qAt gs k).1 = cz at *
            generalize (qAt gs k).1.num = x1 at *
            generalize ((qAt gs k).1.den : Int) = x2 at *
            generalize (qAt gs k).2.num = x3 at *
            generalize ((qAt gs k).2.den : Int) = x4 at *
            go_wp2_with ((go_at_call 34; (with_reducible refine ((unhide HCM) _).mono ?_); rintro e w5 ⟨rfl, hbw5⟩; obtain ⟨hcw5, hfw5⟩ := bcell hbw5; have hzw5 := hbw5.size; (try simp at hzw5); (try ((have kw5wr0 := (bnew hbw5) (wr.heap.size) ?pf); (case pf => (first | omega | (simp; done) | (simp; omega))); obtain ⟨kcw5wr0, kfw5wr0, klw5wr0⟩ := kw5wr0)); (try ((have kw5w.heap.sizeX0 := (bnew hbw5) (w.heap.size) ?pf); (case pf => (first | omega | (simp; done) | (simp; omega))); obtain ⟨kcw5w.heap.sizeX0, kfw5w.heap.sizeX0, klw5w.heap.sizeX0⟩ := kw5w.heap.sizeX0))))
            have hbx : Below wr.heap.size wr w5 := (by repeat (first | with_reducible exact Below.refl _ _ | with_reducible assumption | (with_reducible refine Below.trans ?_ (Below.mono (by assumption) (by first | omega | (simp <;> omega)))) | with_reducible apply Below.drew | with_reducible apply below_drewN | (with_reducible refine Below.alloc ?_ (by first | omega | (simp <;> omega)) _) | (with_reducible refine Below.setCell ?_ (by first | omega | (simp <;> omega)) _)))
            have hb := unhide HB
            have HO6 := hide (own_below (unhide HO) hbx); have HBZ := hide (hb.trans (hbx.mono hb.size))
            clear hb hbx
            go_roundw
            case rel => exact ⟨k + 1, nn, u, l, by go_num, rfl, by omega, hide HL2.out, HN, by omega, unhide HO6, unhide HBZ⟩
            case measure => simp [intOf]; omega
        · have hke : k = mg + 1 := by omega
          have hlj : l = jnL fs gs a y := by rw [HJL.out, HL.out, HLK.out, hke]
          have hnl := HN.out
          obtain ⟨A7, d7, rfl⟩ := own_slice hown
          have hpos : 0 < nn := by
            rw [hnl, hlj]; unfold jnL; rw [List.length_append, List.length_cons]; omega
          obtain ⟨g7, rfl, hg7, _⟩ := own_some hown hpos
          have hco := coIf_any g7 nn d7 wl.heap.size l wr hown (by omega) (by omega) (by rw [hlj]; exact unhide HS)
          rw [hlj] at hco
          have hz := (unhide HBW).trans (hbwr.mono (unhide HBW).size)
          have HCO := hide hco; have HZ := hide hz
          have hsz := hz.size
          clear hco hz hown hbwr hlj hnl hke hpos HL HN
          go_wp2_with fail
          refine (unhide HCO).mono ?_
          rintro e w7 ⟨⟨h1, h2⟩, hb7⟩
          have hz7 := (unhide HZ).trans (hb7.mono hsz)
          cases hcq : ifO (jnL fs gs a y) with
          | none =>
            obtain rfl := h2 hcq
            have HCQ := Lib.hid hcq
            have HZ7 := hide hz7
            clear h1 h2 hz7 hb7 hcq
            go_wp2_with fail
            go_ret2
            refine ⟨?_, unhide HZ7⟩
            rw [HCQ.out]
            exact ⟨fun l h => (by cases h), fun _ => rfl⟩
          | some r =>
            obtain ⟨A8, d8, rfl, ho8⟩ := h1 r hcq
            have HCQ := Lib.hid hcq
            have HO8 := hide (ho8.mono hsz)
            have HZ7 := hide hz7
            clear h1 h2 ho8 hz7 hb7 hcq
            go_wp2_with fail
            go_ret2
            refine ⟨?_, unhide HZ7⟩
            rw [HCQ.out]
            exact ⟨fun l h => (by injection h with h; subst h; exact ⟨A8, d8, rfl, unhide HO8⟩), fun h => (by cases h)⟩

set_option maxRecDepth 100000 in
set_option maxHeartbeats 3200000 in
theorem sJoinMaps_any (A : Option Addr) (n c b1 : Nat) (ps : List Pt) (B : Option Addr) (m d b2 : Nat) (qs : List Pt) (a b : Int) (w : World) (ha : w.ownsRow b1 43 4 (.slice A n c) n (ptcs ps)) (hn : n ≤ 1048576) (hb : w.ownsRow b2 43 4 (.slice B m d) m (ptcs qs)) (hm : m ≤ 1048576) :
    Calls Try.prog 15 #[.slice A n c, .slice B m d, .agg #[.int .i64 (a), .int .i64 (b)]] w fun e w' => GivesP w.heap.size (((jnM ps qs a b).getD []).map qp) (jnM ps qs a b).isSome e w' ∧ Below w.heap.size w w' := by
  have ht := fun W hW hV => coTwo_any A B n m c d b1 b2 ps qs W hW hV hn hm
  have hu := fun W => raUnit_any a b W
  cases hz : (mapB ps && mapB qs) with
  | false =>
    have hno : jnM ps qs a b = none := by
      cases h1 : mapB ps with
      | false => exact jnM_no (.inl (valO_no (.inr h1)))
      | true => rw [h1, Bool.true_and] at hz; exact jnM_no (.inr (valO_no (.inr hz)))
    rw [hz] at ht
    rw [hno]
    have HA := hide ha; have HB := hide hb; have HT := hide ht; clear ha hb ht hz hno hu
    go_enter Try.func15, Try.ntmps15
    go_wp2_with (go_at_call 22; (with_reducible refine ((unhide HT) _ (own_below (unhide HA) ?p1) (own_below (unhide HB) ?p2)).mono ?_); (case p1 => exact (by repeat (first | with_reducible exact Below.refl _ _ | with_reducible assumption | (with_reducible refine Below.trans ?_ (Below.mono (by assumption) (by first | omega | (simp <;> omega)))) | with_reducible apply Below.drew | with_reducible apply below_drewN | (with_reducible refine Below.alloc ?_ (by first | omega | (simp <;> omega)) _) | (with_reducible refine Below.setCell ?_ (by first | omega | (simp <;> omega)) _)))); (case p2 => exact (by repeat (first | with_reducible exact Below.refl _ _ | with_reducible assumption | (with_reducible refine Below.trans ?_ (Below.mono (by assumption) (by first | omega | (simp <;> omega)))) | with_reducible apply Below.drew | with_reducible apply below_drewN | (with_reducible refine Below.alloc ?_ (by first | omega | (simp <;> omega)) _) | (with_reducible refine Below.setCell ?_ (by first | omega | (simp <;> omega)) _)))); rintro e w0 ⟨rfl, hbw0⟩; have hs0 := hbw0.size; (try simp at hs0); (skip; (try ((have kw0w0 := (bnew hbw0) (w.heap.size) ?pf); (case pf => (first | omega | (simp; done) | (simp; omega))); obtain ⟨kcw0w0, kfw0w0, klw0w0⟩ := kw0w0))))
    go_ret2
    exact ⟨gives_pt ⟨fun l h => (by cases h), fun _ => rfl⟩, (by repeat (first | with_reducible exact Below.refl _ _ | with_reducible assumption | (with_reducible refine Below.trans ?_ (Below.mono (by assumption) (by first | omega | (simp <;> omega)))) | with_reducible apply Below.drew | with_reducible apply below_drewN | (with_reducible refine Below.alloc ?_ (by first | omega | (simp <;> omega)) _) | (with_reducible refine Below.setCell ?_ (by first | omega | (simp <;> omega)) _)))⟩
  | true =>
    rw [hz] at ht
    rw [Bool.and_eq_true] at hz
    cases hub : uB a b with
    | false =>
      rw [jnM_no (.inl (valO_no (.inl hub)))]
      rw [hub] at hu
      have HA := hide ha; have HB := hide hb; have HT := hide ht; have HU := hide hu; clear ha hb ht hz hu hub
      go_enter Try.func15, Try.ntmps15
      go_wp2_with (first
        | (go_at_call 22; (with_reducible refine ((unhide HT) _ (own_below (unhide HA) ?p1) (own_below (unhide HB) ?p2)).mono ?_); (case p1 => exact (by repeat (first | with_reducible exact Below.refl _ _ | with_reducible assumption | (with_reducible refine Below.trans ?_ (Below.mono (by assumption) (by first | omega | (simp <;> omega)))) | with_reducible apply Below.drew | with_reducible apply below_drewN | (with_reducible refine Below.alloc ?_ (by first | omega | (simp <;> omega)) _) | (with_reducible refine Below.setCell ?_ (by first | omega | (simp <;> omega)) _)))); (case p2 => exact (by repeat (first | with_reducible exact Below.refl _ _ | with_reducible assumption | (with_reducible refine Below.trans ?_ (Below.mono (by assumption) (by first | omega | (simp <;> omega)))) | with_reducible apply Below.drew | with_reducible apply below_drewN | (with_reducible refine Below.alloc ?_ (by first | omega | (simp <;> omega)) _) | (with_reducible refine Below.setCell ?_ (by first | omega | (simp <;> omega)) _)))); rintro e w0 ⟨rfl, hbw0⟩; have hs0 := hbw0.size; (try simp at hs0); (skip; (try ((have kw0w0 := (bnew hbw0) (w.heap.size) ?pf); (case pf => (first | omega | (simp; done) | (simp; omega))); obtain ⟨kcw0w0, kfw0w0, klw0w0⟩ := kw0w0))))
        | (go_at_call 39; (with_reducible refine ((unhide HU) _).mono ?_); rintro e w1 ⟨rfl, hbw1⟩; obtain ⟨hcw1, hfw1⟩ := bcell hbw1; have hzw1 := hbw1.size; (try simp at hzw1); (try ((have kw1w0 := (bnew hbw1) (w.heap.size) ?pf); (case pf => (first | omega | (simp; done) | (simp; omega))); obtain ⟨kcw1w0, kfw1w0, klw1w0⟩ := kw1w0))))
      go_ret2
      exact ⟨gives_pt ⟨fun l h => (by cases h), fun _ => rfl⟩, (by repeat (first | with_reducible exact Below.refl _ _ | with_reducible assumption | (with_reducible refine Below.trans ?_ (Below.mono (by assumption) (by first | omega | (simp <;> omega)))) | with_reducible apply Below.drew | with_reducible apply below_drewN | (with_reducible refine Below.alloc ?_ (by first | omega | (simp <;> omega)) _) | (with_reducible refine Below.setCell ?_ (by first | omega | (simp <;> omega)) _)))⟩
    | true =>
      obtain ⟨x, rfl, rfl, hxf, hx0, hx1⟩ := uB_rat hub
      have hx : Un x := ⟨hxf, hx0, hx1⟩
      obtain ⟨g, m1, fs, rfl, rfl, rfl, hgx, hlx⟩ := own_form ha hz.1
      obtain ⟨g', m2, gs, rfl, rfl, rfl, hgy, hly⟩ := own_form hb hz.2
      have h1 := fun W hW => imAt_un g m1 c b1 fs x W hW hgx hx
      have h2 := fun W hW => imAt_un g' m2 d b2 gs x W hW hgy hx
      have e1 := valO_eq hgx hub
      have e2 := valO_eq hgy hub
      cases hv1 : vAt fs x with
      | some y =>
        cases hv2 : vAt gs x with
        | some z =>
          by_cases hc : y = z
          · subst hc
            rw [jnM_yes (e1.trans hv1) (e2.trans hv2)]
            exact (sJoinMaps_map g m1 c b1 g' m2 d b2 fs gs x y w ha hb hgx hgy hx hv1 hv2).mono fun e w' ⟨h1, h2⟩ => ⟨gives_pt h1, h2⟩
          · rw [jnM_ne (e1.trans hv1) (e2.trans hv2) hc]
            have hne : ¬ y.num = z.num ∨ (y.num = z.num ∧ ¬ (y.den : Int) = (z.den : Int)) := by
              by_cases e1 : y.num = z.num
              · refine .inr ⟨e1, fun e2 => hc ?_⟩
                exact Rat.ext e1 (by omega)
              · exact .inl e1
            rw [hub] at hu
            rw [hv1] at h1
            rw [hv2] at h2
            simp only [oN_some, oD_some, Option.isSome_some] at h1 h2
            have HA := hide ha; have HB := hide hb; have HT := hide ht; have HU := hide hu; have H1 := hide h1; have H2 := hide h2
            clear ha hb ht hz hu hub h1 h2 e1 e2 hv1 hv2 hc hx hxf hx0 hx1 hgx hgy hlx hly
            generalize x.num = xn at *
            generalize (x.den : Int) = xd at *
            generalize y.num = yn at *
            generalize (y.den : Int) = yd at *
            generalize z.num = zn at *
            generalize (z.den : Int) = zd at *
            rcases hne with hne | ⟨rfl, hne⟩
            all_goals
              go_enter Try.func15, Try.ntmps15
              go_wp2_with (first | (go_at_call 22; (with_reducible refine ((unhide HT) _ (own_below (unhide HA) ?p1) (own_below (unhide HB) ?p2)).mono ?_); (case p1 => exact (by repeat (first | with_reducible exact Below.refl _ _ | with_reducible assumption | (with_reducible refine Below.trans ?_ (Below.mono (by assumption) (by first | omega | (simp <;> omega)))) | with_reducible apply Below.drew | with_reducible apply below_drewN | (with_reducible refine Below.alloc ?_ (by first | omega | (simp <;> omega)) _) | (with_reducible refine Below.setCell ?_ (by first | omega | (simp <;> omega)) _)))); (case p2 => exact (by repeat (first | with_reducible exact Below.refl _ _ | with_reducible assumption | (with_reducible refine Below.trans ?_ (Below.mono (by assumption) (by first | omega | (simp <;> omega)))) | with_reducible apply Below.drew | with_reducible apply below_drewN | (with_reducible refine Below.alloc ?_ (by first | omega | (simp <;> omega)) _) | (with_reducible refine Below.setCell ?_ (by first | omega | (simp <;> omega)) _)))); rintro e w0 ⟨rfl, hbw0⟩; have hs0 := hbw0.size; (try simp at hs0); (skip; (try ((have kw0w0 := (bnew hbw0) (w.heap.size) ?pf); (case pf => (first | omega | (simp; done) | (simp; omega))); obtain ⟨kcw0w0, kfw0w0, klw0w0⟩ := kw0w0)))) | (go_at_call 39; (with_reducible refine ((unhide HU) _).mono ?_); rintro e w1 ⟨rfl, hbw1⟩; obtain ⟨hcw1, hfw1⟩ := bcell hbw1; have hzw1 := hbw1.size; (try simp at hzw1); (try ((have kw1w0 := (bnew hbw1) (w.heap.size) ?pf); (case pf => (first | omega | (simp; done) | (simp; omega))); obtain ⟨kcw1w0, kfw1w0, klw1w0⟩ := kw1w0))) | (go_at_call 40; (with_reducible refine ((unhide H2) _ (own_below (unhide HB) ?pb)).mono ?_); (case pb => exact (by repeat (first | with_reducible exact Below.refl _ _ | with_reducible assumption | (with_reducible refine Below.trans ?_ (Below.mono (by assumption) (by first | omega | (simp <;> omega)))) | with_reducible apply Below.drew | with_reducible apply below_drewN | (with_reducible refine Below.alloc ?_ (by first | omega | (simp <;> omega)) _) | (with_reducible refine Below.setCell ?_ (by first | omega | (simp <;> omega)) _)))); rintro e w3 ⟨rfl, hbw3⟩; have hs3 := hbw3.size; (try simp at hs3); (skip; (try ((have kw3w0 := (bnew hbw3) (w.heap.size) ?pf); (case pf => (first | omega | (simp; done) | (simp; omega))); obtain ⟨kcw3w0, kfw3w0, klw3w0⟩ := kw3w0)); (try ((have kw3w20 := (bnew hbw3) (w2.heap.size) ?pf); (case pf => (first | omega | (simp; done) | (simp; omega))); obtain ⟨kcw3w20, kfw3w20, klw3w20⟩ := kw3w20)))) | (go_at_call 40; (with_reducible refine ((unhide H1) _ (own_below (unhide HA) ?pb)).mono ?_); (case pb => exact (by repeat (first | with_reducible exact Below.refl _ _ | with_reducible assumption | (with_reducible refine Below.trans ?_ (Below.mono (by assumption) (by first | omega | (simp <;> omega)))) | with_reducible apply Below.drew | with_reducible apply below_drewN | (with_reducible refine Below.alloc ?_ (by first | omega | (simp <;> omega)) _) | (with_reducible refine Below.setCell ?_ (by first | omega | (simp <;> omega)) _)))); rintro e w2 ⟨rfl, hbw2⟩; have hs2 := hbw2.size; (try simp at hs2); (skip; (try ((have kw2w0 := (bnew hbw2) (w.heap.size) ?pf); (case pf => (first | omega | (simp; done) | (simp; omega))); obtain ⟨kcw2w0, kfw2w0, klw2w0⟩ := kw2w0)))))
              go_ret2
              exact ⟨gives_pt ⟨fun l h => (by cases h), fun _ => rfl⟩, (by repeat (first | with_reducible exact Below.refl _ _ | with_reducible assumption | (with_reducible refine Below.trans ?_ (Below.mono (by assumption) (by first | omega | (simp <;> omega)))) | with_reducible apply Below.drew | with_reducible apply below_drewN | (with_reducible refine Below.alloc ?_ (by first | omega | (simp <;> omega)) _) | (with_reducible refine Below.setCell ?_ (by first | omega | (simp <;> omega)) _)))⟩
        | none =>
          rw [jnM_no (.inr (e2.trans hv2))]
          rw [hub] at hu
          rw [hv1] at h1
          rw [hv2] at h2
          simp only [oN_some, oD_some, Option.isSome_some, oN_none, oD_none, Option.isSome_none] at h1 h2
          have HA := hide ha; have HB := hide hb; have HT := hide ht; have HU := hide hu; have H1 := hide h1; have H2 := hide h2
          clear ha hb ht hz hu hub h1 h2 e1 e2 hv1 hv2 hx hxf hx0 hx1 hgx hgy hlx hly
          generalize x.num = xn at *
          generalize (x.den : Int) = xd at *
          generalize y.num = yn at *
          generalize (y.den : Int) = yd at *
          go_enter Try.func15, Try.ntmps15
          go_wp2_with (first | (go_at_call 22; (with_reducible refine ((unhide HT) _ (own_below (unhide HA) ?p1) (own_below (unhide HB) ?p2)).mono ?_); (case p1 => exact (by repeat (first | with_reducible exact Below.refl _ _ | with_reducible assumption | (with_reducible refine Below.trans ?_ (Below.mono (by assumption) (by first | omega | (simp <;> omega)))) | with_reducible apply Below.drew | with_reducible apply below_drewN | (with_reducible refine Below.alloc ?_ (by first | omega | (simp <;> omega)) _) | (with_reducible refine Below.setCell ?_ (by first | omega | (simp <;> omega)) _)))); (case p2 => exact (by repeat (first | with_reducible exact Below.refl _ _ | with_reducible assumption | (with_reducible refine Below.trans ?_ (Below.mono (by assumption) (by first | omega | (simp <;> omega)))) | with_reducible apply Below.drew | with_reducible apply below_drewN | (with_reducible refine Below.alloc ?_ (by first | omega | (simp <;> omega)) _) | (with_reducible refine Below.setCell ?_ (by first | omega | (simp <;> omega)) _)))); rintro e w0 ⟨rfl, hbw0⟩; have hs0 := hbw0.size; (try simp at hs0); (skip; (try ((have kw0w0 := (bnew hbw0) (w.heap.size) ?pf); (case pf => (first | omega | (simp; done) | (simp; omega))); obtain ⟨kcw0w0, kfw0w0, klw0w0⟩ := kw0w0)))) | (go_at_call 39; (with_reducible refine ((unhide HU) _).mono ?_); rintro e w1 ⟨rfl, hbw1⟩; obtain ⟨hcw1, hfw1⟩ := bcell hbw1; have hzw1 := hbw1.size; (try simp at hzw1); (try ((have kw1w0 := (bnew hbw1) (w.heap.size) ?pf); (case pf => (first | omega | (simp; done) | (simp; omega))); obtain ⟨kcw1w0, kfw1w0, klw1w0⟩ := kw1w0))) | (go_at_call 40; (with_reducible refine ((unhide H2) _ (own_below (unhide HB) ?pb)).mono ?_); (case pb => exact (by repeat (first | with_reducible exact Below.refl _ _ | with_reducible assumption | (with_reducible refine Below.trans ?_ (Below.mono (by assumption) (by first | omega | (simp <;> omega)))) | with_reducible apply Below.drew | with_reducible apply below_drewN | (with_reducible refine Below.alloc ?_ (by first | omega | (simp <;> omega)) _) | (with_reducible refine Below.setCell ?_ (by first | omega | (simp <;> omega)) _)))); rintro e w3 ⟨rfl, hbw3⟩; have hs3 := hbw3.size; (try simp at hs3); (skip; (try ((have kw3w0 := (bnew hbw3) (w.heap.size) ?pf); (case pf => (first | omega | (simp; done) | (simp; omega))); obtain ⟨kcw3w0, kfw3w0, klw3w0⟩ := kw3w0)); (try ((have kw3w20 := (bnew hbw3) (w2.heap.size) ?pf); (case pf => (first | omega | (simp; done) | (simp; omega))); obtain ⟨kcw3w20, kfw3w20, klw3w20⟩ := kw3w20)))) | (go_at_call 40; (with_reducible refine ((unhide H1) _ (own_below (unhide HA) ?pb)).mono ?_); (case pb => exact (by repeat (first | with_reducible exact Below.refl _ _ | with_reducible assumption | (with_reducible refine Below.trans ?_ (Below.mono (by assumption) (by first | omega | (simp <;> omega)))) | with_reducible apply Below.drew | with_reducible apply below_drewN | (with_reducible refine Below.alloc ?_ (by first | omega | (simp <;> omega)) _) | (with_reducible refine Below.setCell ?_ (by first | omega | (simp <;> omega)) _)))); rintro e w2 ⟨rfl, hbw2⟩; have hs2 := hbw2.size; (try simp at hs2); (skip; (try ((have kw2w0 := (bnew hbw2) (w.heap.size) ?pf); (case pf => (first | omega | (simp; done) | (simp; omega))); obtain ⟨kcw2w0, kfw2w0, klw2w0⟩ := kw2w0)))))
          go_ret2
          exact ⟨gives_pt ⟨fun l h => (by cases h), fun _ => rfl⟩, (by repeat (first | with_reducible exact Below.refl _ _ | with_reducible assumption | (with_reducible refine Below.trans ?_ (Below.mono (by assumption) (by first | omega | (simp <;> omega)))) | with_reducible apply Below.drew | with_reducible apply below_drewN | (with_reducible refine Below.alloc ?_ (by first | omega | (simp <;> omega)) _) | (with_reducible refine Below.setCell ?_ (by first | omega | (simp <;> omega)) _)))⟩
      | none =>
        rw [jnM_no (.inl (e1.trans hv1))]
        rw [hub] at hu
        rw [hv1] at h1
        have HA := hide ha; have HB := hide hb; have HT := hide ht; have HU := hide hu; have H1 := hide h1; have H2 := hide h2
        clear ha hb ht hz hu hub h1 h2 e1 e2 hv1 hx hxf hx0 hx1 hgx hgy hlx hly
        simp only [oN_none, oD_none, Option.isSome_none] at H1
        generalize vAt gs x = r at *
        generalize oN r = rn at *
        generalize oD r = rd at *
        generalize r.isSome = rz at *
        generalize x.num = xn at *
        generalize (x.den : Int) = xd at *
        go_enter Try.func15, Try.ntmps15
        go_wp2_with (first | (go_at_call 22; (with_reducible refine ((unhide HT) _ (own_below (unhide HA) ?p1) (own_below (unhide HB) ?p2)).mono ?_); (case p1 => exact (by repeat (first | with_reducible exact Below.refl _ _ | with_reducible assumption | (with_reducible refine Below.trans ?_ (Below.mono (by assumption) (by first | omega | (simp <;> omega)))) | with_reducible apply Below.drew | with_reducible apply below_drewN | (with_reducible refine Below.alloc ?_ (by first | omega | (simp <;> omega)) _) | (with_reducible refine Below.setCell ?_ (by first | omega | (simp <;> omega)) _)))); (case p2 => exact (by repeat (first | with_reducible exact Below.refl _ _ | with_reducible assumption | (with_reducible refine Below.trans ?_ (Below.mono (by assumption) (by first | omega | (simp <;> omega)))) | with_reducible apply Below.drew | with_reducible apply below_drewN | (with_reducible refine Below.alloc ?_ (by first | omega | (simp <;> omega)) _) | (with_reducible refine Below.setCell ?_ (by first | omega | (simp <;> omega)) _)))); rintro e w0 ⟨rfl, hbw0⟩; have hs0 := hbw0.size; (try simp at hs0); (skip; (try ((have kw0w0 := (bnew hbw0) (w.heap.size) ?pf); (case pf => (first | omega | (simp; done) | (simp; omega))); obtain ⟨kcw0w0, kfw0w0, klw0w0⟩ := kw0w0)))) | (go_at_call 39; (with_reducible refine ((unhide HU) _).mono ?_); rintro e w1 ⟨rfl, hbw1⟩; obtain ⟨hcw1, hfw1⟩ := bcell hbw1; have hzw1 := hbw1.size; (try simp at hzw1); (try ((have kw1w0 := (bnew hbw1) (w.heap.size) ?pf); (case pf => (first | omega | (simp; done) | (simp; omega))); obtain ⟨kcw1w0, kfw1w0, klw1w0⟩ := kw1w0))) | (go_at_call 40; (with_reducible refine ((unhide H2) _ (own_below (unhide HB) ?pb)).mono ?_); (case pb => exact (by repeat (first | with_reducible exact Below.refl _ _ | with_reducible assumption | (with_reducible refine Below.trans ?_ (Below.mono (by assumption) (by first | omega | (simp <;> omega)))) | with_reducible apply Below.drew | with_reducible apply below_drewN | (with_reducible refine Below.alloc ?_ (by first | omega | (simp <;> omega)) _) | (with_reducible refine Below.setCell ?_ (by first | omega | (simp <;> omega)) _)))); rintro e w3 ⟨rfl, hbw3⟩; have hs3 := hbw3.size; (try simp at hs3); (skip; (try ((have kw3w0 := (bnew hbw3) (w.heap.size) ?pf); (case pf => (first | omega | (simp; done) | (simp; omega))); obtain ⟨kcw3w0, kfw3w0, klw3w0⟩ := kw3w0)); (try ((have kw3w20 := (bnew hbw3) (w2.heap.size) ?pf); (case pf => (first | omega | (simp; done) | (simp; omega))); obtain ⟨kcw3w20, kfw3w20, klw3w20⟩ := kw3w20)))) | (go_at_call 40; (with_reducible refine ((unhide H1) _ (own_below (unhide HA) ?pb)).mono ?_); (case pb => exact (by repeat (first | with_reducible exact Below.refl _ _ | with_reducible assumption | (with_reducible refine Below.trans ?_ (Below.mono (by assumption) (by first | omega | (simp <;> omega)))) | with_reducible apply Below.drew | with_reducible apply below_drewN | (with_reducible refine Below.alloc ?_ (by first | omega | (simp <;> omega)) _) | (with_reducible refine Below.setCell ?_ (by first | omega | (simp <;> omega)) _)))); rintro e w2 ⟨rfl, hbw2⟩; have hs2 := hbw2.size; (try simp at hs2); (skip; (try ((have kw2w0 := (bnew hbw2) (w.heap.size) ?pf); (case pf => (first | omega | (simp; done) | (simp; omega))); obtain ⟨kcw2w0, kfw2w0, klw2w0⟩ := kw2w0)))))
        go_ret2
        exact ⟨gives_pt ⟨fun l h => (by cases h), fun _ => rfl⟩, (by repeat (first | with_reducible exact Below.refl _ _ | with_reducible assumption | (with_reducible refine Below.trans ?_ (Below.mono (by assumption) (by first | omega | (simp <;> omega)))) | with_reducible apply Below.drew | with_reducible apply below_drewN | (with_reducible refine Below.alloc ?_ (by first | omega | (simp <;> omega)) _) | (with_reducible refine Below.setCell ?_ (by first | omega | (simp <;> omega)) _)))⟩
end Go.Proofs.Ytgkbogcmmedmbaa

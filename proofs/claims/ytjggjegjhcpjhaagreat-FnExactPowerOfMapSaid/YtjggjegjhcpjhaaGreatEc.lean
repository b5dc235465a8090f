/-
  Chapter 5: the model's composition.
-/
import Derived.Test.YtjggjegjhcpjhaaGreatEb
import Derived.Test.YtjggjegjhcpjhaaGreatDc
namespace Go.Proofs.YtjggjegjhcpjhaaGreat
open Go.RowKit Rm

/-- The composition, if there is one. -/
def cmO (fs gs : List QP) : Option (List QP) := (cmP fs gs).bind fun l => mmO (srt l) (vcm fs gs)
theorem cmP_pl {fs gs : List QP} (hF : GMap fs) (hG : GMap gs) {l : List Rat} (h : cmP fs gs = some l) : Pl (srt l) ∧ 1 ≤ l.length ∧ l.length ≤ 156 := by
  unfold cmP at h
  cases hb : bK (bqO gs) (xsOf fs) fs.length with
  | none => rw [hb] at h; cases h
  | some b =>
    rw [hb] at h
    injection h with h
    subst h
    have h1 := bK_len (N := 12) (bqO_len hG) hb
    have h2 := hF.hi
    have h3 := hG.hi
    have h4 := hG.lo
    refine ⟨srt_pl (fun x hx => ?_) (by simp [xsOf_zero hG]) (by simp [xsOf_one hG]), by rw [List.length_append, xsOf_len]; omega, by rw [List.length_append, xsOf_len]; omega⟩
    rcases List.mem_append.1 hx with h | h
    · exact xsOf_un hG x h
    · exact bK_all (p := Un) (bqO_un hG) hb x h
theorem vK_len {xs : List Rat} {vm : Rat → Option Rat} {k : Nat} {l : List QP} (h : vK xs vm k = some l) : l.length = k := (vK_some h).1
theorem vK_step {xs : List Rat} {vm : Rat → Option Rat} {k : Nat} {l : List QP} (h : vK xs vm k = some l) : vK xs vm (k + 1) = (vm (xs.getD k 0)).map fun y => l ++ [(xs.getD k 0, y)] := by simp only [vK, h]; rfl
theorem sK_step {bq : Rat → Option (List Rat)} {ys l0 l : List Rat} {k : Nat} (h : sK bq ys l0 k = some l) : sK bq ys l0 (k + 1) = (bq (ys.getD k 0)).map fun b => b.foldl putL l := by simp only [sK, h]; rfl

set_option maxRecDepth 100000 in
set_option maxHeartbeats 6400000 in
theorem coCompose_any (gf mf cf bf gg mg cg bg : Nat) (fs gs : List QP) (w : World) (hf : w.ownsRow bf 63 4 (.slice (some ⟨gf, 0, none⟩) (mf + 1) cf) (mf + 1) (ptcs (fs.map qp))) (hg : w.ownsRow bg 63 4 (.slice (some ⟨gg, 0, none⟩) (mg + 1) cg) (mg + 1) (ptcs (gs.map qp))) (hF : GMap fs) (hG : GMap gs) :
    Calls Tryz.prog 41 #[.slice (some ⟨gf, 0, none⟩) (mf + 1) cf, .slice (some ⟨gg, 0, none⟩) (mg + 1) cg] w fun e w' => PtO w.heap.size (cmO fs gs) e w' ∧ Below w.heap.size w w' := by
  obtain ⟨i0, hi0, hz0, hz1, hz2⟩ := info_parts iPoint
  have hlf := own_lenQ hf
  have hlg := own_lenQ hg
  have hhf := hF.hi
  have hhg := hG.hi
  rw [hlf] at hhf
  rw [hlg] at hhg
  have hgfl := (hf.lt gf rfl).2
  have hggl := (hg.lt gg rfl).2
  have hc1 := coXs_map gg (mg + 1) cg bg gs w hg (by omega)
  have hxl := (xsOf_len gs).trans hlg
  have hyl := (xsOf_len fs).trans hlf
  have HXU := hide (xsOf_un hG)
  have HYU := hide (xsOf_un hF)
  have hcm : cmO fs gs = ((bK (bqO gs) (xsOf fs) (mf + 1)).map (xsOf gs ++ ·)).bind fun l => mmO (srt l) (vcm fs gs) := by unfold cmO cmP; rw [hlf]
  have hcs : ∀ l, sK (bqO gs) (xsOf fs) (xsOf gs) (mf + 1) = some l → cmO fs gs = mmO l (vcm fs gs) ∧ Pl l ∧ l.length ≤ 156 := by
    intro l h
    rw [sK_bK] at h
    cases hb : bK (bqO gs) (xsOf fs) (mf + 1) with
    | none => rw [hb] at h; cases h
    | some b =>
      rw [hb] at h hcm
      injection h with h
      change List.foldl putL (xsOf gs) b = l at h
      rw [fput_srt (xsOf_inc hG)] at h
      obtain ⟨h1, _, h2⟩ := cmP_pl hF hG (l := xsOf gs ++ b) (by unfold cmP; rw [hlf, hb]; rfl)
      have h3 := srt_len (xsOf gs ++ b)
      subst h
      exact ⟨hcm, h1, by omega⟩
  have hcn : sK (bqO gs) (xsOf fs) (xsOf gs) (mf + 1) = none → cmO fs gs = none := by
    intro h
    rw [sK_bK] at h
    rw [hcm]
    cases hb : bK (bqO gs) (xsOf fs) (mf + 1) with
    | none => rfl
    | some b => rw [hb] at h; cases h
  have H1 := hide hc1; have HF := hide hf; have HG := hide hg; have HXL := Lib.hid hxl; have HYL := Lib.hid hyl; have HCS := hide hcs; have HCN := hide hcn
  have HLF := Lib.hid hlf
  clear hc1 hf hg hxl hyl hlf hlg hcm hcs hcn
  go_enter Tryz.func41, Tryz.ntmps41
  go_wp2_with (go_at_call 82; (with_reducible refine (unhide H1).mono ?_); rintro e w1 ⟨A1, d1, rfl, ho1, hbw1⟩; have hs1 := hbw1.size; have HO1 := hide ho1; clear ho1)
  have HBW1 := hide hbw1
  clear hbw1 H1
  go_loopw [6, 24] (fun v i wr => ∃ (k : Nat) (A : Option Addr) (nn cc : Nat) (l : List Rat), i = .int .i64 k ∧ v = .slice A nn cc ∧ k ≤ mf + 1 ∧ Hid (sK (bqO gs) (xsOf fs) (xsOf gs) k = some l) ∧ Hid (nn = l.length) ∧ 1 ≤ nn ∧ nn ≤ mg + 1 + 12 * k ∧ Hid (∀ z ∈ l, Un z) ∧ wr.ownsRow w.heap.size 37 2 (.slice A nn cc) nn (frcs (l.map qf)) ∧ Below w.heap.size w wr) (fun _ i _ => mf + 1 - (intOf i).toNat)
  case atStart => exact ⟨0, A1, mg + 1, d1, xsOf gs, rfl, rfl, by omega, hide rfl, hide HXL.out.symm, by omega, by omega, HXU, unhide HO1, unhide HBW1⟩
  case round =>
    obtain ⟨k, A, nn, cc, l, rfl, rfl, hk, HK, HN, hn1, hn2, HU, hown, hbwr⟩ := hrel
    have hsr := hbwr.size
    by_cases hlt : k < mf + 1
    · obtain ⟨k0, k1, k2, k3⟩ := q_cells (own_below (unhide HF) hbwr) (k := k) hlt
      have hgr : gf < wr.heap.size := by omega
      have hbe := fun W hW => imBefore_un gg mg cg bg gs ((xsOf fs).getD k 0) W hW hG ((unhide HYU) _ (mem_iff_getD.2 ⟨k, by rw [HYL.out]; exact hlt, rfl⟩))
      have hst := sK_step (unhide HK)
      have hbl := fun b => bqO_len hG ((xsOf fs).getD k 0) b
      have hbu := fun b => bqO_un hG ((xsOf fs).getD k 0) b
      have exk : (xsOf fs).getD k 0 = (qAt fs k).1 := xsOf_get (by rw [HLF.out]; exact hlt)
      rw [exk] at hbe hst hbl hbu
      have HBE := hide hbe; have HST := Lib.hid hst; have HBL := hide hbl; have HBU := hide hbu; have HO := hide hown; have HB := hide hbwr
      clear hbe hst hbl hbu exk hown hbwr
      cases hq : bqO gs (qAt fs k).1 with
      | none =>
        have hno : cmO fs gs = none := (unhide HCN) (sK_none (k := k + 1) (by rw [HST.out, hq]; rfl) (mf + 1 - (k + 1)) (by omega))
        have HNO := Lib.hid hno
        have HQ := Lib.hid hq
        clear hno hq
        generalize (qAt fs k).1.num = f1 at *
        generalize ((qAt fs k).1.den : Int) = f2 at *
        generalize (qAt fs k).2.num = f3 at *
        generalize ((qAt fs k).2.den : Int) = f4 at *
        go_wp2_with (go_at_call 83; (with_reducible refine ((unhide HBE) _ (own_below (unhide HG) ?pb)).mono ?_); (case pb => have hb := unhide HB; exact (by repeat (first | with_reducible exact Below.refl _ _ | with_reducible assumption | (with_reducible refine Below.trans ?_ (Below.mono (by assumption) (by first | omega | (simp <;> omega)))) | with_reducible apply Below.drew | with_reducible apply below_drewN | (with_reducible refine Below.alloc ?_ (by first | omega | (simp <;> omega)) _) | (with_reducible refine Below.setCell ?_ (by first | omega | (simp <;> omega)) _)))); rintro e w3 ⟨_, h2, hbw3⟩; obtain rfl := h2 HQ.out; clear h2)
        have hb := unhide HB
        have hz : Below w.heap.size w w3 := (by repeat (first | with_reducible exact Below.refl _ _ | with_reducible assumption | (with_reducible refine Below.trans ?_ (Below.mono (by assumption) (by first | omega | (simp <;> omega)))) | with_reducible apply Below.drew | with_reducible apply below_drewN | (with_reducible refine Below.alloc ?_ (by first | omega | (simp <;> omega)) _) | (with_reducible refine Below.setCell ?_ (by first | omega | (simp <;> omega)) _)))
        go_ret2
        refine ⟨?_, hz⟩
        rw [HNO.out]
        exact ⟨fun l h => (by cases h), fun _ => rfl⟩
      | some b =>
        have HQ := Lib.hid hq
        have hb12 := (unhide HBL) b hq
        have hbun := (unhide HBU) b hq
        have hk1 : sK (bqO gs) (xsOf fs) (xsOf gs) (k + 1) = some (b.foldl putL l) := by rw [HST.out, hq]; rfl
        have HK1 := hide hk1; have HBUN := hide hbun
        clear hq hk1 hbun
        generalize (qAt fs k).1.num = f1 at *
        generalize ((qAt fs k).1.den : Int) = f2 at *
        generalize (qAt fs k).2.num = f3 at *
        generalize ((qAt fs k).2.den : Int) = f4 at *
        go_wp2_with (go_at_call 83; (with_reducible refine ((unhide HBE) _ (own_below (unhide HG) ?pb)).mono ?_); (case pb => have hb := unhide HB; exact (by repeat (first | with_reducible exact Below.refl _ _ | with_reducible assumption | (with_reducible refine Below.trans ?_ (Below.mono (by assumption) (by first | omega | (simp <;> omega)))) | with_reducible apply Below.drew | with_reducible apply below_drewN | (with_reducible refine Below.alloc ?_ (by first | omega | (simp <;> omega)) _) | (with_reducible refine Below.setCell ?_ (by first | omega | (simp <;> omega)) _)))); rintro e w3 ⟨h1, _, hbw3⟩; obtain ⟨A2, d2, rfl, ho2⟩ := h1 b HQ.out; clear h1; have hsw3 := hbw3.size; (try simp at hsw3); have HO2 := hide ho2; clear ho2)
        have hwr3 : Below wr.heap.size wr w3 := (by repeat (first | with_reducible exact Below.refl _ _ | with_reducible assumption | (with_reducible refine Below.trans ?_ (Below.mono (by assumption) (by first | omega | (simp <;> omega)))) | with_reducible apply Below.drew | with_reducible apply below_drewN | (with_reducible refine Below.alloc ?_ (by first | omega | (simp <;> omega)) _) | (with_reducible refine Below.setCell ?_ (by first | omega | (simp <;> omega)) _)))
        have HOL := hide (own_below (unhide HO) hwr3)
        have HB3 := hide ((unhide HB).trans (hwr3.mono hsr))
        have hs3 : w.heap.size ≤ w3.heap.size := by omega
        clear hwr3 hbw3 HO HB k0 k1 k2 k3
        go_loopw [6, 39] (fun v i wx => ∃ (j : Nat) (A' : Option Addr) (n' c' : Nat) (l' : List Rat), i = .int .i64 j ∧ v = .slice A' n' c' ∧ j ≤ b.length ∧ Hid (l' = (b.take j).foldl putL l) ∧ Hid (n' = l'.length) ∧ 1 ≤ n' ∧ n' ≤ nn + j ∧ Hid (∀ z ∈ l', Un z) ∧ wx.ownsRow w.heap.size 37 2 (.slice A' n' c') n' (frcs (l'.map qf)) ∧ Below w3.heap.size w3 wx) (fun _ i _ => b.length - (intOf i).toNat)
        case atStart => exact ⟨0, A, nn, cc, l, rfl, rfl, by omega, hide rfl, HN, by omega, by omega, HU, unhide HOL, Below.refl _ _⟩
        case round =>
          obtain ⟨j, A', n', c', l', rfl, rfl, hj, HL', HN', hn1', hn2', HU', hown', hbwx⟩ := hrel
          have hsx := hbwx.size
          by_cases hlt2 : j < b.length
          · obtain ⟨g2, rfl, _, _⟩ := own_some (unhide HO2) (by omega)
            have hC := (fcells_own (unhide HO2)).below hbwx
            have f0 := hC.at0 j hlt2
            have f1 := hC.at1 j hlt2
            have hgx := hC.lt
            rw [qAtR b j hlt2] at f0 f1
            simp only at f0 f1
            have hyu := (unhide HBUN) _ (mem_iff_getD.2 ⟨j, hlt2, rfl⟩)
            have hput := fun W hW => imPut_any A' n' c' w.heap.size l' (b.getD j 0) W hW
            have hl' : (b.take (j + 1)).foldl putL l = putL l' (b.getD j 0) := by rw [take_sn hlt2, List.foldl_append, ← HL'.out]; rfl
            have hpl := putL_lens l' (b.getD j 0)
            rw [← HN'.out] at hpl
            have hu2 : ∀ z ∈ putL l' (b.getD j 0), Un z := fun z hz => by
              rcases putL_iff.1 hz with h | h
              · exact (unhide HU') z h
              · rw [h]; exact hyu
            have HU2 := hide hu2
            have HFY := hide hyu.fit
            have HFL := hide (fun z hz => ((unhide HU') z hz).fit)
            have HP := hide hput; have HL2 := Lib.hid hl'; have HO := hide hown'; have HB := hide hbwx
            clear hput hl' hown' hbwx hC hyu hu2
            generalize b.getD j 0 = y at *
            obtain ⟨yn, hyn⟩ : ∃ r, r = y.num := ⟨_, rfl⟩
            obtain ⟨yd, hyd⟩ : ∃ r, r = (y.den : Int) := ⟨_, rfl⟩
            rw [← hyn] at f0 HP
            rw [← hyd] at f1 HP
            clear hyn hyd
            go_wp2_with (go_at_call 84; (with_reducible refine ((unhide HP) _ (own_below (unhide HO) ?pb) ?p1 ?p2 ?p3 (unhide HFL) (unhide HFY)).mono ?_); (case pb => exact (by repeat (first | with_reducible exact Below.refl _ _ | with_reducible assumption | (with_reducible refine Below.trans ?_ (Below.mono (by assumption) (by first | omega | (simp <;> omega)))) | with_reducible apply Below.drew | with_reducible apply below_drewN | (with_reducible refine Below.alloc ?_ (by first | omega | (simp <;> omega)) _) | (with_reducible refine Below.setCell ?_ (by first | omega | (simp <;> omega)) _)))); (case p1 => first | omega | (simp; omega)); (case p2 => omega); (case p3 => (intro h; omega)); rintro e w4 ⟨v4, rfl, ho4, hbw4⟩; obtain ⟨A4, d4, rfl⟩ := own_slice ho4; have HO4 := hide ho4; clear ho4)
            have hb := unhide HB
            have hbz : Below w3.heap.size w3 w4 := (by repeat (first | with_reducible exact Below.refl _ _ | with_reducible assumption | (with_reducible refine Below.trans ?_ (Below.mono (by assumption) (by first | omega | (simp <;> omega)))) | with_reducible apply Below.drew | with_reducible apply below_drewN | (with_reducible refine Below.alloc ?_ (by first | omega | (simp <;> omega)) _) | (with_reducible refine Below.setCell ?_ (by first | omega | (simp <;> omega)) _)))
            have HBZ := hide hbz
            clear hb hbz hbw4
            go_roundw
            case rel => exact ⟨j + 1, A4, _, d4, putL l' y, by go_num, rfl, by omega, HL2.out.symm, hide rfl, by omega, by omega, HU2, unhide HO4, unhide HBZ⟩
            case measure => simp [intOf]; omega
          · obtain rfl : j = b.length := by omega
            have hl := HL'.out
            rw [List.take_of_length_le (Nat.le_refl _)] at hl
            have HLL := Lib.hid hl
            have HO := hide hown'; have HB := hide ((unhide HB3).trans (hbwx.mono hs3))
            clear hown' hbwx hl
            go_wp2_with fail
            go_roundw
            case rel => exact ⟨k + 1, A', n', c', l', by go_num, rfl, by omega, by rw [HLL.out]; exact HK1, HN', by omega, by omega, HU', unhide HO, unhide HB⟩
            case measure => simp [intOf]; omega
    · have hke : k = mf + 1 := by omega
      obtain ⟨hcm, hpl, hl156⟩ := (unhide HCS) l (by rw [← hke]; exact unhide HK)
      clear hke
      obtain ⟨g1, rfl, _, _⟩ := own_some hown (by omega)
      have hln : l.length = nn := HN.out.symm
      have HCM := Lib.hid hcm; have HPL := hide hpl
      have HO0 := hide hown; have HB0 := hide hbwr
      have HLN := Lib.hid hln
      have hg1l := (hown.lt g1 rfl).2
      clear hown hbwr hcm hpl hln HK HN
      obtain ⟨wl, rfl⟩ : ∃ x, x = wr := ⟨wr, rfl⟩
      go_wp2_with fail
      go_loopw [13, 50] (fun v i wx => ∃ (k : Nat) (u : Value) (ps : List QP), i = .int .i64 k ∧ u = v ∧ k ≤ nn ∧ Hid (vK l (vcm fs gs) k = some ps) ∧ wx.ownsRow wl.heap.size 63 4 u k (ptcs (ps.map qp)) ∧ Below wl.heap.size wl wx) (fun _ i _ => nn - (intOf i).toNat)
      case atStart => exact ⟨0, _, [], rfl, rfl, by omega, hide rfl, World.ownsRow_nil _ _ _ _, Below.refl _ _⟩
      case round =>
        obtain ⟨k, u, ps, rfl, rfl, hk, HK, hown, hbwr⟩ := hrel
        have hsx := hbwr.size
        by_cases hlt : k < nn
        · have hC := (fcells_own (unhide HO0)).below hbwr
          have f0 := hC.at0 k hlt
          have f1 := hC.at1 k hlt
          have hgr := hC.lt
          rw [qAtR l k (by rw [HLN.out]; exact hlt)] at f0 f1
          simp only at f0 f1
          have hxu := (unhide HU) _ (mem_iff_getD.2 ⟨k, by rw [HLN.out]; exact hlt, rfl⟩)
          have ha1 := fun W hW => imAt_un gg mg cg bg gs (l.getD k 0) W hW hG hxu
          have hst := vK_step (unhide HK)
          have hyu := vAt_un' hG hxu
          have hvB : ∀ j, u.ownBlock = some j → wl.heap.size ≤ j := fun j e => (hown.lt j e).1
          have HST := Lib.hid hst; have HO := hide hown; have HB := hide hbwr; have HVB := hide hvB
          clear hst hown hbwr hvB hC hxu
          cases hv : vAt gs (l.getD k 0) with
          | none =>
            rw [hv] at ha1
            have hno : cmO fs gs = none := by
              rw [HCM.out, mmO_if, HLN.out, vK_none (k := k + 1) (by rw [HST.out]; unfold vcm; rw [hv]; rfl) (nn - (k + 1)) (by omega)]; rfl
            have HNO := Lib.hid hno; have HA1 := hide ha1
            clear ha1 hno hv hyu
            generalize (l.getD k 0).num = xn at *
            generalize ((l.getD k 0).den : Int) = xd at *
            go_wp2_with (go_at_call 85; (with_reducible refine ((unhide HA1) _ (own_below (unhide HG) ?pb)).mono ?_); (case pb => have hb0 := unhide HB0; have hb := unhide HB; exact (by repeat (first | with_reducible exact Below.refl _ _ | with_reducible assumption | (with_reducible refine Below.trans ?_ (Below.mono (by assumption) (by first | omega | (simp <;> omega)))) | with_reducible apply Below.drew | with_reducible apply below_drewN | (with_reducible refine Below.alloc ?_ (by first | omega | (simp <;> omega)) _) | (with_reducible refine Below.setCell ?_ (by first | omega | (simp <;> omega)) _)))); rintro e w3 ⟨rfl, hbw3⟩; have hsw3 := hbw3.size; (try simp at hsw3); (skip; (try ((have kw3wr0 := (bnew hbw3) (wr.heap.size) ?pf); (case pf => (first | omega | (simp; done) | (simp; omega))); obtain ⟨kcw3wr0, kfw3wr0, klw3wr0⟩ := kw3wr0))))
            have hb0 := unhide HB0; have hb := unhide HB
            go_ret2
            refine ⟨?_, (by repeat (first | with_reducible exact Below.refl _ _ | with_reducible assumption | (with_reducible refine Below.trans ?_ (Below.mono (by assumption) (by first | omega | (simp <;> omega)))) | with_reducible apply Below.drew | with_reducible apply below_drewN | (with_reducible refine Below.alloc ?_ (by first | omega | (simp <;> omega)) _) | (with_reducible refine Below.setCell ?_ (by first | omega | (simp <;> omega)) _)))⟩
            rw [HNO.out]
            exact ⟨fun l h => (by cases h), fun _ => rfl⟩
          | some y =>
            rw [hv] at ha1
            have ha2 := fun W hW => imAt_un gf mf cf bf fs y W hW hF (hyu y hv)
            have HA1 := hide ha1
            have HV := Lib.hid hv
            clear ha1 hyu hv
            cases hv2 : vAt fs y with
            | none =>
              rw [hv2] at ha2
              have hno : cmO fs gs = none := by
                rw [HCM.out, mmO_if, HLN.out, vK_none (k := k + 1) (by rw [HST.out]; unfold vcm; rw [HV.out]; simp only [Option.bind_some]; rw [hv2]; rfl) (nn - (k + 1)) (by omega)]; rfl
              have HNO := Lib.hid hno; have HA2 := hide ha2
              clear ha2 hno hv2 HV HST
              simp only [oN_some, oD_some, Option.isSome_some] at HA1
              generalize (l.getD k 0).num = xn at *
              generalize ((l.getD k 0).den : Int) = xd at *
              generalize y.num = yn at *
              generalize (y.den : Int) = yd at *
              go_wp2_with (first
                | (go_at_call 85; (with_reducible refine ((unhide HA1) _ (own_below (unhide HG) ?pb)).mono ?_); (case pb => have hb0 := unhide HB0; have hb := unhide HB; exact (by repeat (first | with_reducible exact Below.refl _ _ | with_reducible assumption | (with_reducible refine Below.trans ?_ (Below.mono (by assumption) (by first | omega | (simp <;> omega)))) | with_reducible apply Below.drew | with_reducible apply below_drewN | (with_reducible refine Below.alloc ?_ (by first | omega | (simp <;> omega)) _) | (with_reducible refine Below.setCell ?_ (by first | omega | (simp <;> omega)) _)))); rintro e w3 ⟨rfl, hbw3⟩; have hsw3 := hbw3.size; (try simp at hsw3); (skip; (try ((have kw3wr0 := (bnew hbw3) (wr.heap.size) ?pf); (case pf => (first | omega | (simp; done) | (simp; omega))); obtain ⟨kcw3wr0, kfw3wr0, klw3wr0⟩ := kw3wr0))))
                | (go_at_call 85; (with_reducible refine ((unhide HA2) _ (own_below (unhide HF) ?pb)).mono ?_); (case pb => have hb0 := unhide HB0; have hb := unhide HB; exact (by repeat (first | with_reducible exact Below.refl _ _ | with_reducible assumption | (with_reducible refine Below.trans ?_ (Below.mono (by assumption) (by first | omega | (simp <;> omega)))) | with_reducible apply Below.drew | with_reducible apply below_drewN | (with_reducible refine Below.alloc ?_ (by first | omega | (simp <;> omega)) _) | (with_reducible refine Below.setCell ?_ (by first | omega | (simp <;> omega)) _)))); rintro e w4 ⟨rfl, hbw4⟩; have hsw4 := hbw4.size; (try simp at hsw4); (skip; (try ((have kw4wr0 := (bnew hbw4) (wr.heap.size) ?pf); (case pf => (first | omega | (simp; done) | (simp; omega))); obtain ⟨kcw4wr0, kfw4wr0, klw4wr0⟩ := kw4wr0)); (try ((have kw4w30 := (bnew hbw4) (w3.heap.size) ?pf); (case pf => (first | omega | (simp; done) | (simp; omega))); obtain ⟨kcw4w30, kfw4w30, klw4w30⟩ := kw4w30)))))
              have hb0 := unhide HB0; have hb := unhide HB
              go_ret2
              refine ⟨?_, (by repeat (first | with_reducible exact Below.refl _ _ | with_reducible assumption | (with_reducible refine Below.trans ?_ (Below.mono (by assumption) (by first | omega | (simp <;> omega)))) | with_reducible apply Below.drew | with_reducible apply below_drewN | (with_reducible refine Below.alloc ?_ (by first | omega | (simp <;> omega)) _) | (with_reducible refine Below.setCell ?_ (by first | omega | (simp <;> omega)) _)))⟩
              rw [HNO.out]
              exact ⟨fun l h => (by cases h), fun _ => rfl⟩
            | some z =>
              rw [hv2] at ha2
              have HK1 := hide (show vK l (vcm fs gs) (k + 1) = some (ps ++ [(l.getD k 0, z)]) by rw [HST.out]; unfold vcm; rw [HV.out]; simp only [Option.bind_some]; rw [hv2]; rfl)
              have HPT := Lib.hid (ptq_sn ps (l.getD k 0) z)
              have HA2 := hide ha2
              clear ha2 hv2 HV HST
              simp only [oN_some, oD_some, Option.isSome_some] at HA1 HA2
              generalize l.getD k 0 = X at *
              obtain ⟨xn, hxn⟩ : ∃ r, r = X.num := ⟨_, rfl⟩
              obtain ⟨xd, hxd⟩ : ∃ r, r = (X.den : Int) := ⟨_, rfl⟩
              obtain ⟨zn, hzn⟩ : ∃ r, r = z.num := ⟨_, rfl⟩
              obtain ⟨zd, hzd⟩ : ∃ r, r = (z.den : Int) := ⟨_, rfl⟩
              rw [← hxn] at f0 HA1 HPT
              rw [← hxd] at f1 HA1 HPT
              rw [← hzn, ← hzd] at HA2 HPT
              clear hxn hxd hzn hzd
              generalize y.num = yn at *
              generalize (y.den : Int) = yd at *
              go_wp2_with (first
                | (go_at_call 85; (with_reducible refine ((unhide HA1) _ (own_below (unhide HG) ?pb)).mono ?_); (case pb => have hb0 := unhide HB0; have hb := unhide HB; exact (by repeat (first | with_reducible exact Below.refl _ _ | with_reducible assumption | (with_reducible refine Below.trans ?_ (Below.mono (by assumption) (by first | omega | (simp <;> omega)))) | with_reducible apply Below.drew | with_reducible apply below_drewN | (with_reducible refine Below.alloc ?_ (by first | omega | (simp <;> omega)) _) | (with_reducible refine Below.setCell ?_ (by first | omega | (simp <;> omega)) _)))); rintro e w3 ⟨rfl, hbw3⟩; have hsw3 := hbw3.size; (try simp at hsw3); (skip; (try ((have kw3wr0 := (bnew hbw3) (wr.heap.size) ?pf); (case pf => (first | omega | (simp; done) | (simp; omega))); obtain ⟨kcw3wr0, kfw3wr0, klw3wr0⟩ := kw3wr0))))
                | (go_at_call 85; (with_reducible refine ((unhide HA2) _ (own_below (unhide HF) ?pb)).mono ?_); (case pb => have hb0 := unhide HB0; have hb := unhide HB; exact (by repeat (first | with_reducible exact Below.refl _ _ | with_reducible assumption | (with_reducible refine Below.trans ?_ (Below.mono (by assumption) (by first | omega | (simp <;> omega)))) | with_reducible apply Below.drew | with_reducible apply below_drewN | (with_reducible refine Below.alloc ?_ (by first | omega | (simp <;> omega)) _) | (with_reducible refine Below.setCell ?_ (by first | omega | (simp <;> omega)) _)))); rintro e w4 ⟨rfl, hbw4⟩; have hsw4 := hbw4.size; (try simp at hsw4); (skip; (try ((have kw4wr0 := (bnew hbw4) (wr.heap.size) ?pf); (case pf => (first | omega | (simp; done) | (simp; omega))); obtain ⟨kcw4wr0, kfw4wr0, klw4wr0⟩ := kw4wr0)); (try ((have kw4w30 := (bnew hbw4) (w3.heap.size) ?pf); (case pf => (first | omega | (simp; done) | (simp; omega))); obtain ⟨kcw4w30, kfw4w30, klw4w30⟩ := kw4w30))))
                | (at_builtin; refine wpl_append rfl _ _ _ rfl wl.heap.size 63 i0 _ 4 32 Tryz.underlying24 hi0 hz0 hz1 hz2 rfl (by omega) u k _ rfl (own_below (unhide HO) (show Below wr.heap.size wr _ from (by repeat (first | with_reducible exact Below.refl _ _ | with_reducible assumption | (with_reducible refine Below.trans ?_ (Below.mono (by assumption) (by first | omega | (simp <;> omega)))) | with_reducible apply Below.drew | with_reducible apply below_drewN | (with_reducible refine Below.alloc ?_ (by first | omega | (simp <;> omega)) _) | (with_reducible refine Below.setCell ?_ (by first | omega | (simp <;> omega)) _))))) _ 1 [.int .i64 xn, .int .i64 xd, .int .i64 zn, .int .i64 zd] rfl (lies4 (by simp [go_sem, *]) (by simp [go_sem, *]) (by simp [go_sem, *]) (by simp [go_sem, *])) rfl (by simp [Value.oneCell']) (Nat.le_trans (by omega) maxLen_ge) (by omega) (by first | omega | (simp <;> omega)) (k + 1) rfl ?_; intro A6 c6 w6 hown6 hgrow6))
              have hb := unhide HB
              have hbz : Below wl.heap.size wl w6 := Below.grown (show Below wl.heap.size wl _ from (by repeat (first | with_reducible exact Below.refl _ _ | with_reducible assumption | (with_reducible refine Below.trans ?_ (Below.mono (by assumption) (by first | omega | (simp <;> omega)))) | with_reducible apply Below.drew | with_reducible apply below_drewN | (with_reducible refine Below.alloc ?_ (by first | omega | (simp <;> omega)) _) | (with_reducible refine Below.setCell ?_ (by first | omega | (simp <;> omega)) _)))) hgrow6 (by first | omega | (simp <;> omega)) (unhide HVB)
              rw [HPT.out] at hown6
              have HO6 := hide hown6
              have HBZ := hide hbz
              clear hown6 hgrow6 hb hbz
              go_wp2_with fail
              go_roundw
              case rel => exact ⟨k + 1, _, _, by go_num, rfl, by omega, HK1, unhide HO6, unhide HBZ⟩
              case measure => simp [intOf]; omega
        · obtain rfl : k = nn := by omega
          have hps := vK_len (unhide HK)
          have hv : vK l (vcm fs gs) l.length = some ps := by rw [HLN.out]; exact unhide HK
          have hS := (unhide HPL).points (by omega) hv
          have hif : cmO fs gs = ifO ps := by rw [HCM.out, mmO_if, hv]; rfl
          obtain ⟨A6, d6, rfl⟩ := own_slice hown
          obtain ⟨g6, rfl, hg6, _⟩ := own_some hown (by omega)
          have hco := coIf_any g6 k d6 wl.heap.size ps wr hown (by omega) (by omega) hS
          rw [← hif] at hco
          have HC := hide hco
          have hz := (unhide HB0).trans (hbwr.mono (unhide HB0).size)
          have HZ := hide hz
          have hsz := hz.size
          clear hco hown hbwr hv hS hif hz
          go_wp2_with fail
          refine (unhide HC).mono ?_
          rintro e w7 ⟨⟨h1, h2⟩, hb7⟩
          have hz7 := (unhide HZ).trans (hb7.mono hsz)
          cases hcq : cmO fs gs with
          | none =>
            have HCQ := Lib.hid hcq
            obtain rfl := h2 hcq
            clear h1 h2 hcq
            have HZ7 := hide hz7
            clear hz7 hb7
            go_wp2_with fail
            go_ret2
            refine ⟨?_, unhide HZ7⟩
            rw [HCQ.out]
            exact ⟨fun l h => (by cases h), fun _ => rfl⟩
          | some r =>
            have HCQ := Lib.hid hcq
            obtain ⟨A7, d7, rfl, ho7⟩ := h1 r hcq
            have HO7 := hide (ho7.mono hsz)
            have HZ7 := hide hz7
            clear h1 h2 ho7 hz7 hb7 hcq
            go_wp2_with fail
            go_ret2
            refine ⟨?_, unhide HZ7⟩
            rw [HCQ.out]
            exact ⟨fun l h => (by injection h with h; subst h; exact ⟨A7, d7, rfl, unhide HO7⟩), fun h => (by cases h)⟩
end Go.Proofs.YtjggjegjhcpjhaaGreat

/-
  Chapter 5: the model: the places of two maps; points made simple if they are a map.
-/
import Derived.Test.YtgkbogcmmedmbaaCs
import Derived.Test.YtgkbogcmmedmbaaDf
import Derived.Test.YtgkbogcmmedmbaaSims
namespace Go.Proofs.Ytgkbogcmmedmbaa
open Go.RowKit Rm

set_option maxRecDepth 100000 in
set_option maxHeartbeats 1600000 in
theorem coBoth_any (gf mf cf bf gg mg cg bg : Nat) (fs gs : List QP) (w : World) (hf : w.ownsRow bf 43 4 (.slice (some ⟨gf, 0, none⟩) (mf + 1) cf) (mf + 1) (ptcs (fs.map qp))) (hg : w.ownsRow bg 43 4 (.slice (some ⟨gg, 0, none⟩) (mg + 1) cg) (mg + 1) (ptcs (gs.map qp))) (hF : GMap fs) (hG : GMap gs) :
    Calls Try.prog 50 #[.slice (some ⟨gf, 0, none⟩) (mf + 1) cf, .slice (some ⟨gg, 0, none⟩) (mg + 1) cg] w fun e w' => ∃ (g d : Nat), e = .returned (.slice (some ⟨g, 0, none⟩) (srt (xsOf fs ++ xsOf gs)).length d) ∧ w'.ownsRow w.heap.size 31 2 (.slice (some ⟨g, 0, none⟩) (srt (xsOf fs ++ xsOf gs)).length d) (srt (xsOf fs ++ xsOf gs)).length (frcs ((srt (xsOf fs ++ xsOf gs)).map qf)) ∧ Below w.heap.size w w' := by
  have hlf := own_lenQ hf
  have hlg := own_lenQ hg
  have hhf := hF.hi
  have hhg := hG.hi
  rw [hlf] at hhf
  rw [hlg] at hhg
  have hc1 := coXs_map gf (mf + 1) cf bf fs w hf (by omega)
  have hc2 := fun W hW => coXs_map gg (mg + 1) cg bg gs W hW (by omega)
  have hxu := xsOf_un hF
  have hyu := xsOf_un hG
  have hxl := (xsOf_len fs).trans hlf
  have hyl := (xsOf_len gs).trans hlg
  rw [← fput_srt (xsOf_inc hF)]
  generalize xsOf fs = xs at *
  generalize xsOf gs = ys at *
  have hbd := fput_len ys xs
  have H1 := hide hc1; have H2 := hide hc2; have HXU := hide (fun z hz => (hxu z hz).fit); have HYU := hide (fun z hz => (hyu z hz).fit)
  have HG := hide hg; have HXL := Lib.hid hxl; have HYL := Lib.hid hyl
  clear hc1 hc2 hxu hyu hf hg hxl hyl hF hG hlf hlg
  go_enter Try.func50, Try.ntmps50
  go_wp2_with (first
    | (go_at_call 71; (with_reducible refine (unhide H1).mono ?_); rintro e w1 ⟨A1, d1, rfl, ho1, hbw1⟩; have hs1 := hbw1.size; have HO1 := hide ho1; clear ho1)
    | (go_at_call 71; (with_reducible refine ((unhide H2) _ (own_below (unhide HG) ?pb)).mono ?_); (case pb => exact (by repeat (first | with_reducible exact Below.refl _ _ | with_reducible assumption | (with_reducible refine Below.trans ?_ (Below.mono (by assumption) (by first | omega | (simp <;> omega)))) | with_reducible apply Below.drew | with_reducible apply below_drewN | (with_reducible refine Below.alloc ?_ (by first | omega | (simp <;> omega)) _) | (with_reducible refine Below.setCell ?_ (by first | omega | (simp <;> omega)) _)))); rintro e w2 ⟨A2, d2, rfl, ho2, hbw2⟩; obtain ⟨g2, rfl, _, _⟩ := own_some ho2 (by omega); have hs2 := hbw2.size; have HO2 := hide ho2; clear ho2))
  have hw2 : Below w.heap.size w w2 := (by repeat (first | with_reducible exact Below.refl _ _ | with_reducible assumption | (with_reducible refine Below.trans ?_ (Below.mono (by assumption) (by first | omega | (simp <;> omega)))) | with_reducible apply Below.drew | with_reducible apply below_drewN | (with_reducible refine Below.alloc ?_ (by first | omega | (simp <;> omega)) _) | (with_reducible refine Below.setCell ?_ (by first | omega | (simp <;> omega)) _)))
  have HO1' := hide (own_below (unhide HO1) hbw2)
  have HW2 := hide hw2
  have hz2 := hw2.size
  clear HO1 hw2 hbw1 hbw2 H1 H2 HG
  go_loopw [5, 13] (fun v i wr => ∃ (k : Nat) (A : Option Addr) (nn cc : Nat) (l : List Rat), i = .int .i64 k ∧ v = .slice A nn cc ∧ k ≤ mg + 1 ∧ Hid (l = (ys.take k).foldl putL xs) ∧ Hid (nn = l.length) ∧ 1 ≤ nn ∧ nn ≤ mf + 1 + k ∧ Hid (∀ z ∈ l, fits z = true) ∧ wr.ownsRow w.heap.size 31 2 (.slice A nn cc) nn (frcs (l.map qf)) ∧ Below w2.heap.size w2 wr) (fun _ i _ => mg + 1 - (intOf i).toNat)
  case atStart => exact ⟨0, A1, mf + 1, d1, xs, rfl, rfl, by omega, hide rfl, hide HXL.out.symm, by omega, by omega, HXU, unhide HO1', Below.refl _ _⟩
  case round =>
    obtain ⟨k, A, nn, cc, l, rfl, rfl, hk, HL, HN, hn1, hn2, HF, hown, hbwr⟩ := hrel
    have hsr := hbwr.size
    by_cases hlt : k < mg + 1
    · have hC := (fcells_own (unhide HO2)).below hbwr
      have f0 := hC.at0 k hlt
      have f1 := hC.at1 k hlt
      have hgr := hC.lt
      rw [qAtR ys k (by rw [HYL.out]; exact hlt)] at f0 f1
      simp only at f0 f1
      have hym : ys.getD k 0 ∈ ys := mem_iff_getD.2 ⟨k, by rw [HYL.out]; exact hlt, rfl⟩
      have hput := fun W hW => imPut_any A nn cc w.heap.size l (ys.getD k 0) W hW
      have hl' : (ys.take (k + 1)).foldl putL xs = putL l (ys.getD k 0) := by
        rw [take_sn (by rw [HYL.out]; exact hlt), List.foldl_append, ← HL.out]; rfl
      have hpl := putL_lens l (ys.getD k 0)
      rw [← HN.out] at hpl
      have HF' := hide (putL_fits (unhide HF) ((unhide HYU) _ hym))
      have HFY := hide ((unhide HYU) _ hym)
      have HP := hide hput; have HL' := Lib.hid hl'; have HO := hide hown; have HB := hide hbwr
      clear hput hl' hown hbwr hC hym
      generalize ys.getD k 0 = y at *
      obtain ⟨yn, hyn⟩ : ∃ r, r = y.num := ⟨_, rfl⟩
      obtain ⟨yd, hyd⟩ : ∃ r, r = (y.den : Int) := ⟨_, rfl⟩
      rw [← hyn] at f0 HP
      rw [← hyd] at f1 HP
      clear hyn hyd
      go_wp2_with (go_at_call 72; (with_reducible refine ((unhide HP) _ (own_below (unhide HO) ?pb) ?p1 ?p2 ?p3 (unhide HF) (unhide HFY)).mono ?_); (case pb => exact (by repeat (first | with_reducible exact Below.refl _ _ | with_reducible assumption | (with_reducible refine Below.trans ?_ (Below.mono (by assumption) (by first | omega | (simp <;> omega)))) | with_reducible apply Below.drew | with_reducible apply below_drewN | (with_reducible refine Below.alloc ?_ (by first | omega | (simp <;> omega)) _) | (with_reducible refine Below.setCell ?_ (by first | omega | (simp <;> omega)) _)))); (case p1 => first | omega | (simp; omega)); (case p2 => omega); (case p3 => (intro h; omega)); rintro e w3 ⟨v3, rfl, ho3, hbw3⟩; obtain ⟨A3, d3, rfl⟩ := own_slice ho3; have hs3 := hbw3.size; have HO3 := hide ho3; clear ho3)
      have hb := unhide HB
      have hbz : Below w2.heap.size w2 w3 := (by repeat (first | with_reducible exact Below.refl _ _ | with_reducible assumption | (with_reducible refine Below.trans ?_ (Below.mono (by assumption) (by first | omega | (simp <;> omega)))) | with_reducible apply Below.drew | with_reducible apply below_drewN | (with_reducible refine Below.alloc ?_ (by first | omega | (simp <;> omega)) _) | (with_reducible refine Below.setCell ?_ (by first | omega | (simp <;> omega)) _)))
      have HBZ := hide hbz
      clear hb hbz hbw3
      go_roundw
      case rel => exact ⟨k + 1, A3, _, d3, putL l y, by go_num, rfl, by omega, HL'.out.symm, hide rfl, by omega, by omega, HF', unhide HO3, unhide HBZ⟩
      case measure => simp [intOf]; omega
    · obtain rfl : k = mg + 1 := by omega
      have hl := HL.out
      rw [List.take_of_length_le (by rw [HYL.out]; exact Nat.le_refl _)] at hl
      have hnn := HN.out
      rw [hl] at hown hnn
      obtain ⟨g3, rfl, _, _⟩ := own_some hown (by omega)
      have HO := hide hown; have HB := hide ((unhide HW2).trans (hbwr.mono hz2)); have HNN := Lib.hid hnn
      clear hown hbwr hl hnn
      go_wp2
      go_ret
      exact ⟨g3, cc, by rw [← HNN.out] <;> rfl, by rw [← HNN.out]; exact unhide HO, unhide HB⟩
end Go.Proofs.Ytgkbogcmmedmbaa

/-
  Chapter 5: MiddleMap of program and model.
-/
import Derived.Test.YtgkbogcmmedmbaaGreatEg
import Derived.Test.YtgkbogcmmedmbaaGreatEd
import Derived.Test.YtgkbogcmmedmbaaGreatDb
namespace Go.Proofs.YtgkbogcmmedmbaaGreat
open Go.RowKit Rm

def hsO (fs gs : List QP) : Option (List QP) := mmO (bothX fs gs) (vhs fs gs)
theorem hsO_len (fs gs : List QP) (l : List QP) (h : hsO fs gs = some l) : l.length ≤ 12 := mmO_len h
theorem MiddleMap_len (ps qs : List Pt) : (((twoO hsO ps qs).getD []).map qp).length ≤ 1048576 := twoO_len hsO_len ps qs
theorem both_pl {fs gs : List QP} (hF : GMap fs) (hG : GMap gs) {l : List Rat} (h : some (xsOf fs ++ xsOf gs) = some l) : Pl (srt l) ∧ 1 ≤ l.length ∧ l.length ≤ 24 := by
  injection h with h
  subst h
  have h1 := hF.hi
  have h2 := hG.hi
  have h3 := hF.lo
  exact ⟨(bothX_pl hF hG).1, by rw [List.length_append, xsOf_len, xsOf_len]; omega, by rw [List.length_append, xsOf_len, xsOf_len]; omega⟩
theorem halfsum_map (gf mf cf bf gg mg cg bg : Nat) (fs gs : List QP) (w : World) (hf : w.ownsRow bf 50 4 (.slice (some ⟨gf, 0, none⟩) (mf + 1) cf) (mf + 1) (ptcs (fs.map qp))) (hg : w.ownsRow bg 50 4 (.slice (some ⟨gg, 0, none⟩) (mg + 1) cg) (mg + 1) (ptcs (gs.map qp))) (hF : GMap fs) (hG : GMap gs) :
    Calls Tryz.prog 35 #[.iface 76 (.agg #[.slice (some ⟨gf, 0, none⟩) (mf + 1) cf, .slice (some ⟨gg, 0, none⟩) (mg + 1) cg])] w fun e w' => PtO w.heap.size (hsO fs gs) e w' ∧ Below w.heap.size w w' := by
  have h := map_halfSum (.agg #[.slice (some ⟨gf, 0, none⟩) (mf + 1) cf, .slice (some ⟨gg, 0, none⟩) (mg + 1) cg]) (some (xsOf fs ++ xsOf gs)) (vhs fs gs) w
    (fun l hl => by
      obtain ⟨h1, h2, h3⟩ := both_pl hF hG hl
      exact ⟨fun x hx => h1.un x (srt_mem.2 hx), h2, by omega⟩)
    (fun l hl => pm_smap (fun l hl => by obtain ⟨h1, h2, h3⟩ := both_pl hF hG hl; exact ⟨h1, by omega⟩) hl)
    (hide fun W hW => placesHs_any gf mf cf bf gg mg cg bg fs gs W (own_below hf hW) (own_below hg hW) hF hG)
    (hide fun x hx W hW => valueHs_any gf mf cf bf gg mg cg bg fs gs x W (own_below hf hW) (own_below hg hW) hF hG hx)
  rw [pm_mm] at h
  exact h
set_option maxRecDepth 100000 in
set_option maxHeartbeats 1600000 in
theorem iMiddleMap_any (A : Option Addr) (n c b1 : Nat) (ps : List Pt) (B : Option Addr) (m d b2 : Nat) (qs : List Pt) (w : World) (ha : w.ownsRow b1 50 4 (.slice A n c) n (ptcs ps)) (hn : n ≤ 1048576) (hb : w.ownsRow b2 50 4 (.slice B m d) m (ptcs qs)) (hm : m ≤ 1048576) :
    Calls Tryz.prog 27 #[.slice A n c, .slice B m d] w fun e w' => GivesP w.heap.size (((twoO hsO ps qs).getD []).map qp) (twoO hsO ps qs).isSome e w' ∧ Below w.heap.size w w' := by
  have hm1 := fun W hW => isMap_any A n c b1 ps W hW hn
  have hm2 := fun W hW => isMap_any B m d b2 qs W hW hm
  cases h1 : mapB ps with
  | false =>
    rw [twoO_no (.inl h1)]
    rw [h1] at hm1
    have HM1 := hide hm1; have HM2 := hide hm2; clear hm1 hm2
    have HA := hide ha; have HB := hide hb; clear ha hb h1
    go_enter Tryz.func27, Tryz.ntmps27
    go_wp2_with (first
          | (go_at_call 34; (with_reducible refine ((unhide HM1) _ (own_below (unhide HA) ?pb)).mono ?_); (case pb => exact (by repeat (first | with_reducible exact Below.refl _ _ | with_reducible assumption | (with_reducible refine Below.trans ?_ (Below.mono (by assumption) (by first | omega | (simp <;> omega)))) | with_reducible apply Below.drew | with_reducible apply below_drewN | (with_reducible refine Below.alloc ?_ (by first | omega | (simp <;> omega)) _) | (with_reducible refine Below.setCell ?_ (by first | omega | (simp <;> omega)) _)))); rintro e w1 ⟨rfl, hbw1⟩; have hs1 := hbw1.size)
          | (go_at_call 34; (with_reducible refine ((unhide HM2) _ (own_below (unhide HB) ?pb)).mono ?_); (case pb => exact (by repeat (first | with_reducible exact Below.refl _ _ | with_reducible assumption | (with_reducible refine Below.trans ?_ (Below.mono (by assumption) (by first | omega | (simp <;> omega)))) | with_reducible apply Below.drew | with_reducible apply below_drewN | (with_reducible refine Below.alloc ?_ (by first | omega | (simp <;> omega)) _) | (with_reducible refine Below.setCell ?_ (by first | omega | (simp <;> omega)) _)))); rintro e w2 ⟨rfl, hbw2⟩; have hs2 := hbw2.size))
    go_ret2
    exact ⟨gives_pt ⟨fun l h => (by cases h), fun _ => rfl⟩, (by repeat (first | with_reducible exact Below.refl _ _ | with_reducible assumption | (with_reducible refine Below.trans ?_ (Below.mono (by assumption) (by first | omega | (simp <;> omega)))) | with_reducible apply Below.drew | with_reducible apply below_drewN | (with_reducible refine Below.alloc ?_ (by first | omega | (simp <;> omega)) _) | (with_reducible refine Below.setCell ?_ (by first | omega | (simp <;> omega)) _)))⟩
  | true =>
    cases h2 : mapB qs with
    | false =>
      rw [twoO_no (.inr h2)]
      rw [h1] at hm1
      rw [h2] at hm2
      have HM1 := hide hm1; have HM2 := hide hm2; clear hm1 hm2
      have HA := hide ha; have HB := hide hb; clear ha hb h1 h2
      go_enter Tryz.func27, Tryz.ntmps27
      go_wp2_with (first
          | (go_at_call 34; (with_reducible refine ((unhide HM1) _ (own_below (unhide HA) ?pb)).mono ?_); (case pb => exact (by repeat (first | with_reducible exact Below.refl _ _ | with_reducible assumption | (with_reducible refine Below.trans ?_ (Below.mono (by assumption) (by first | omega | (simp <;> omega)))) | with_reducible apply Below.drew | with_reducible apply below_drewN | (with_reducible refine Below.alloc ?_ (by first | omega | (simp <;> omega)) _) | (with_reducible refine Below.setCell ?_ (by first | omega | (simp <;> omega)) _)))); rintro e w1 ⟨rfl, hbw1⟩; have hs1 := hbw1.size)
          | (go_at_call 34; (with_reducible refine ((unhide HM2) _ (own_below (unhide HB) ?pb)).mono ?_); (case pb => exact (by repeat (first | with_reducible exact Below.refl _ _ | with_reducible assumption | (with_reducible refine Below.trans ?_ (Below.mono (by assumption) (by first | omega | (simp <;> omega)))) | with_reducible apply Below.drew | with_reducible apply below_drewN | (with_reducible refine Below.alloc ?_ (by first | omega | (simp <;> omega)) _) | (with_reducible refine Below.setCell ?_ (by first | omega | (simp <;> omega)) _)))); rintro e w2 ⟨rfl, hbw2⟩; have hs2 := hbw2.size))
      go_ret2
      exact ⟨gives_pt ⟨fun l h => (by cases h), fun _ => rfl⟩, (by repeat (first | with_reducible exact Below.refl _ _ | with_reducible assumption | (with_reducible refine Below.trans ?_ (Below.mono (by assumption) (by first | omega | (simp <;> omega)))) | with_reducible apply Below.drew | with_reducible apply below_drewN | (with_reducible refine Below.alloc ?_ (by first | omega | (simp <;> omega)) _) | (with_reducible refine Below.setCell ?_ (by first | omega | (simp <;> omega)) _)))⟩
    | true =>
      rw [h1] at hm1
      rw [h2] at hm2
      have HM1 := hide hm1; have HM2 := hide hm2; clear hm1 hm2
      obtain ⟨g, m1, xs, rfl, rfl, rfl, hgx, hlx⟩ := own_form ha h1
      obtain ⟨g', m2, ys, rfl, rfl, rfl, hgy, hly⟩ := own_form hb h2
      rw [twoO_yes hgx hgy]
      have hmp := fun W hW hV => halfsum_map g m1 c b1 g' m2 d b2 xs ys W hW hV hgx hgy
      have HA := hide ha; have HB := hide hb; have HMP := hide hmp
      clear ha hb h1 h2 hmp hgx hgy hlx hly
      cases hq : hsO xs ys with
      | none =>
        have HQ := Lib.hid hq; clear hq
        go_enter Tryz.func27, Tryz.ntmps27
        go_wp2_with (first
          | (go_at_call 34; (with_reducible refine ((unhide HM1) _ (own_below (unhide HA) ?pb)).mono ?_); (case pb => exact (by repeat (first | with_reducible exact Below.refl _ _ | with_reducible assumption | (with_reducible refine Below.trans ?_ (Below.mono (by assumption) (by first | omega | (simp <;> omega)))) | with_reducible apply Below.drew | with_reducible apply below_drewN | (with_reducible refine Below.alloc ?_ (by first | omega | (simp <;> omega)) _) | (with_reducible refine Below.setCell ?_ (by first | omega | (simp <;> omega)) _)))); rintro e w1 ⟨rfl, hbw1⟩; have hs1 := hbw1.size)
          | (go_at_call 34; (with_reducible refine ((unhide HM2) _ (own_below (unhide HB) ?pb)).mono ?_); (case pb => exact (by repeat (first | with_reducible exact Below.refl _ _ | with_reducible assumption | (with_reducible refine Below.trans ?_ (Below.mono (by assumption) (by first | omega | (simp <;> omega)))) | with_reducible apply Below.drew | with_reducible apply below_drewN | (with_reducible refine Below.alloc ?_ (by first | omega | (simp <;> omega)) _) | (with_reducible refine Below.setCell ?_ (by first | omega | (simp <;> omega)) _)))); rintro e w2 ⟨rfl, hbw2⟩; have hs2 := hbw2.size)
          | (go_at_call 35; (with_reducible refine ((unhide HMP) _ (own_below (unhide HA) ?pb) (own_below (unhide HB) ?pc)).mono ?_); (case pb => exact (by repeat (first | with_reducible exact Below.refl _ _ | with_reducible assumption | (with_reducible refine Below.trans ?_ (Below.mono (by assumption) (by first | omega | (simp <;> omega)))) | with_reducible apply Below.drew | with_reducible apply below_drewN | (with_reducible refine Below.alloc ?_ (by first | omega | (simp <;> omega)) _) | (with_reducible refine Below.setCell ?_ (by first | omega | (simp <;> omega)) _)))); (case pc => exact (by repeat (first | with_reducible exact Below.refl _ _ | with_reducible assumption | (with_reducible refine Below.trans ?_ (Below.mono (by assumption) (by first | omega | (simp <;> omega)))) | with_reducible apply Below.drew | with_reducible apply below_drewN | (with_reducible refine Below.alloc ?_ (by first | omega | (simp <;> omega)) _) | (with_reducible refine Below.setCell ?_ (by first | omega | (simp <;> omega)) _)))); rintro e w3 ⟨hpt, hbw3⟩; obtain rfl := hpt.2 HQ.out; clear hpt))
        go_ret2
        exact ⟨gives_pt ⟨fun l h => (by cases h), fun _ => rfl⟩, (by repeat (first | with_reducible exact Below.refl _ _ | with_reducible assumption | (with_reducible refine Below.trans ?_ (Below.mono (by assumption) (by first | omega | (simp <;> omega)))) | with_reducible apply Below.drew | with_reducible apply below_drewN | (with_reducible refine Below.alloc ?_ (by first | omega | (simp <;> omega)) _) | (with_reducible refine Below.setCell ?_ (by first | omega | (simp <;> omega)) _)))⟩
      | some r =>
        have HQ := Lib.hid hq; clear hq
        go_enter Tryz.func27, Tryz.ntmps27
        go_wp2_with (first
          | (go_at_call 34; (with_reducible refine ((unhide HM1) _ (own_below (unhide HA) ?pb)).mono ?_); (case pb => exact (by repeat (first | with_reducible exact Below.refl _ _ | with_reducible assumption | (with_reducible refine Below.trans ?_ (Below.mono (by assumption) (by first | omega | (simp <;> omega)))) | with_reducible apply Below.drew | with_reducible apply below_drewN | (with_reducible refine Below.alloc ?_ (by first | omega | (simp <;> omega)) _) | (with_reducible refine Below.setCell ?_ (by first | omega | (simp <;> omega)) _)))); rintro e w1 ⟨rfl, hbw1⟩; have hs1 := hbw1.size)
          | (go_at_call 34; (with_reducible refine ((unhide HM2) _ (own_below (unhide HB) ?pb)).mono ?_); (case pb => exact (by repeat (first | with_reducible exact Below.refl _ _ | with_reducible assumption | (with_reducible refine Below.trans ?_ (Below.mono (by assumption) (by first | omega | (simp <;> omega)))) | with_reducible apply Below.drew | with_reducible apply below_drewN | (with_reducible refine Below.alloc ?_ (by first | omega | (simp <;> omega)) _) | (with_reducible refine Below.setCell ?_ (by first | omega | (simp <;> omega)) _)))); rintro e w2 ⟨rfl, hbw2⟩; have hs2 := hbw2.size)
          | (go_at_call 35; (with_reducible refine ((unhide HMP) _ (own_below (unhide HA) ?pb) (own_below (unhide HB) ?pc)).mono ?_); (case pb => exact (by repeat (first | with_reducible exact Below.refl _ _ | with_reducible assumption | (with_reducible refine Below.trans ?_ (Below.mono (by assumption) (by first | omega | (simp <;> omega)))) | with_reducible apply Below.drew | with_reducible apply below_drewN | (with_reducible refine Below.alloc ?_ (by first | omega | (simp <;> omega)) _) | (with_reducible refine Below.setCell ?_ (by first | omega | (simp <;> omega)) _)))); (case pc => exact (by repeat (first | with_reducible exact Below.refl _ _ | with_reducible assumption | (with_reducible refine Below.trans ?_ (Below.mono (by assumption) (by first | omega | (simp <;> omega)))) | with_reducible apply Below.drew | with_reducible apply below_drewN | (with_reducible refine Below.alloc ?_ (by first | omega | (simp <;> omega)) _) | (with_reducible refine Below.setCell ?_ (by first | omega | (simp <;> omega)) _)))); rintro e w3 ⟨hpt, hbw3⟩; obtain ⟨A3, d3, rfl, ho3⟩ := hpt.1 r HQ.out; clear hpt; have HO3 := hide ho3; clear ho3))
        go_ret2
        exact ⟨gives_pt ⟨fun l h => (by injection h with h; subst h; exact ⟨A3, d3, rfl, (unhide HO3).mono (by omega)⟩), fun h => (by cases h)⟩, (by repeat (first | with_reducible exact Below.refl _ _ | with_reducible assumption | (with_reducible refine Below.trans ?_ (Below.mono (by assumption) (by first | omega | (simp <;> omega)))) | with_reducible apply Below.drew | with_reducible apply below_drewN | (with_reducible refine Below.alloc ?_ (by first | omega | (simp <;> omega)) _) | (with_reducible refine Below.setCell ?_ (by first | omega | (simp <;> omega)) _)))⟩


theorem hsO_no {fs gs : List QP} (h : cvB fs gs (bothX fs gs) = false) : hsO fs gs = none := by
  unfold cvB at h
  obtain ⟨x, hx, hf⟩ := List.all_eq_false.1 h
  obtain ⟨k, hk, rfl⟩ := mem_iff_getD.1 hx
  unfold hsO
  rw [mmO_if]
  have hv : vhs fs gs ((bothX fs gs).getD k 0) = none := by
    unfold vhs omid
    cases h1 : vAt fs ((bothX fs gs).getD k 0) with
    | none => rfl
    | some a =>
      cases h2 : vAt gs ((bothX fs gs).getD k 0) with
      | none => rfl
      | some b => rw [h1, h2] at hf; simp at hf
  cases hp : vK (bothX fs gs) (vhs fs gs) k with
  | none => rw [vK_none hp ((bothX fs gs).length - k) (by omega)]; rfl
  | some l => rw [vK_none (k := k + 1) (by rw [vK_step hp, hv]; rfl) ((bothX fs gs).length - (k + 1)) (by omega)]; rfl

set_option maxRecDepth 100000 in
set_option maxHeartbeats 6400000 in
theorem sMiddleMap_map (gf mf cf bf gg mg cg bg : Nat) (fs gs : List QP) (w : World) (hf : w.ownsRow bf 50 4 (.slice (some ⟨gf, 0, none⟩) (mf + 1) cf) (mf + 1) (ptcs (fs.map qp))) (hg : w.ownsRow bg 50 4 (.slice (some ⟨gg, 0, none⟩) (mg + 1) cg) (mg + 1) (ptcs (gs.map qp))) (hF : GMap fs) (hG : GMap gs) :
    Calls Tryz.prog 26 #[.slice (some ⟨gf, 0, none⟩) (mf + 1) cf, .slice (some ⟨gg, 0, none⟩) (mg + 1) cg] w fun e w' => PtO w.heap.size (hsO fs gs) e w' ∧ Below w.heap.size w w' := by
  obtain ⟨i0, hi0, hz0, hz1, hz2⟩ := info_parts iPoint
  have hlf := own_lenQ hf
  have hlg := own_lenQ hg
  have hhf := hF.hi
  have hhg := hG.hi
  rw [hlf] at hhf
  rw [hlg] at hhg
  have ht := fun W hW hV => coTwo_any (some ⟨gf, 0, none⟩) (some ⟨gg, 0, none⟩) (mf + 1) (mg + 1) cf cg bf bg (fs.map qp) (gs.map qp) W hW hV (by omega) (by omega)
  rw [hF.mapB, hG.mapB] at ht
  have hcv := fun W hW hV => coValues_any gf mf cf bf gg mg cg bg fs gs W hW hV hF hG
  have hcb := fun W hW hV => coBoth_any gf mf cf bf gg mg cg bg fs gs W hW hV hF hG
  obtain ⟨hpl, hbl⟩ := bothX_pl hF hG
  have hno := hsO_no (fs := fs) (gs := gs)
  have hcall := fun h x hx => cvB_all (fs := fs) (gs := gs) (xs := bothX fs gs) h (x := x) hx
  have hmm : hsO fs gs = (vK (bothX fs gs) (vhs fs gs) (bothX fs gs).length).bind ifO := by unfold hsO; rw [mmO_if]
  change ∀ W hW hV, Calls _ _ _ _ fun e w' => ∃ (g d : Nat), e = .returned (.slice (some ⟨g, 0, none⟩) (bothX fs gs).length d) ∧ w'.ownsRow _ 46 2 (.slice (some ⟨g, 0, none⟩) (bothX fs gs).length d) (bothX fs gs).length (frcs ((bothX fs gs).map qf)) ∧ Below _ _ w' at hcb
  obtain ⟨xs, hxs⟩ : ∃ xs, xs = bothX fs gs := ⟨_, rfl⟩
  rw [← hxs] at hcv hcb hpl hbl hno hcall hmm
  have HA := hide hf; have HB := hide hg; have HT := hide ht; have HCV := hide hcv; have HCB := hide hcb; have HPL := hide hpl; have HNO := hide hno; have HCA := hide hcall; have HMM := Lib.hid hmm
  clear hf hg ht hcv hcb hno hcall hmm hlf hlg hxs
  have hxl := hpl.len
  clear hpl
  cases hc : cvB fs gs xs with
  | false =>
    have HC := Lib.hid hc; clear hc
    go_enter Tryz.func26, Tryz.ntmps26
    go_wp2_with (first
      | (go_at_call 31; (with_reducible refine ((unhide HT) _ (own_below (unhide HA) ?p1) (own_below (unhide HB) ?p2)).mono ?_); (case p1 => exact (by repeat (first | with_reducible exact Below.refl _ _ | with_reducible assumption | (with_reducible refine Below.trans ?_ (Below.mono (by assumption) (by first | omega | (simp <;> omega)))) | with_reducible apply Below.drew | with_reducible apply below_drewN | (with_reducible refine Below.alloc ?_ (by first | omega | (simp <;> omega)) _) | (with_reducible refine Below.setCell ?_ (by first | omega | (simp <;> omega)) _)))); (case p2 => exact (by repeat (first | with_reducible exact Below.refl _ _ | with_reducible assumption | (with_reducible refine Below.trans ?_ (Below.mono (by assumption) (by first | omega | (simp <;> omega)))) | with_reducible apply Below.drew | with_reducible apply below_drewN | (with_reducible refine Below.alloc ?_ (by first | omega | (simp <;> omega)) _) | (with_reducible refine Below.setCell ?_ (by first | omega | (simp <;> omega)) _)))); rintro e w0 ⟨rfl, hbw0⟩; have hs0 := hbw0.size)
      | (go_at_call 50; (with_reducible refine ((unhide HCV) _ (own_below (unhide HA) ?pb) (own_below (unhide HB) ?pc)).mono ?_); (case pb => exact (by repeat (first | with_reducible exact Below.refl _ _ | with_reducible assumption | (with_reducible refine Below.trans ?_ (Below.mono (by assumption) (by first | omega | (simp <;> omega)))) | with_reducible apply Below.drew | with_reducible apply below_drewN | (with_reducible refine Below.alloc ?_ (by first | omega | (simp <;> omega)) _) | (with_reducible refine Below.setCell ?_ (by first | omega | (simp <;> omega)) _)))); (case pc => exact (by repeat (first | with_reducible exact Below.refl _ _ | with_reducible assumption | (with_reducible refine Below.trans ?_ (Below.mono (by assumption) (by first | omega | (simp <;> omega)))) | with_reducible apply Below.drew | with_reducible apply below_drewN | (with_reducible refine Below.alloc ?_ (by first | omega | (simp <;> omega)) _) | (with_reducible refine Below.setCell ?_ (by first | omega | (simp <;> omega)) _)))); rintro e w1 ⟨⟨_, h2⟩, hbw1⟩; obtain rfl := h2 HC.out; clear h2))
    go_ret2
    refine ⟨?_, (by repeat (first | with_reducible exact Below.refl _ _ | with_reducible assumption | (with_reducible refine Below.trans ?_ (Below.mono (by assumption) (by first | omega | (simp <;> omega)))) | with_reducible apply Below.drew | with_reducible apply below_drewN | (with_reducible refine Below.alloc ?_ (by first | omega | (simp <;> omega)) _) | (with_reducible refine Below.setCell ?_ (by first | omega | (simp <;> omega)) _)))⟩
    rw [(unhide HNO) HC.out]
    exact ⟨fun l h => (by cases h), fun _ => rfl⟩
  | true =>
    have HC := Lib.hid hc; clear hc
    go_enter Tryz.func26, Tryz.ntmps26
    go_wp2_with (first
      | (go_at_call 31; (with_reducible refine ((unhide HT) _ (own_below (unhide HA) ?p1) (own_below (unhide HB) ?p2)).mono ?_); (case p1 => exact (by repeat (first | with_reducible exact Below.refl _ _ | with_reducible assumption | (with_reducible refine Below.trans ?_ (Below.mono (by assumption) (by first | omega | (simp <;> omega)))) | with_reducible apply Below.drew | with_reducible apply below_drewN | (with_reducible refine Below.alloc ?_ (by first | omega | (simp <;> omega)) _) | (with_reducible refine Below.setCell ?_ (by first | omega | (simp <;> omega)) _)))); (case p2 => exact (by repeat (first | with_reducible exact Below.refl _ _ | with_reducible assumption | (with_reducible refine Below.trans ?_ (Below.mono (by assumption) (by first | omega | (simp <;> omega)))) | with_reducible apply Below.drew | with_reducible apply below_drewN | (with_reducible refine Below.alloc ?_ (by first | omega | (simp <;> omega)) _) | (with_reducible refine Below.setCell ?_ (by first | omega | (simp <;> omega)) _)))); rintro e w0 ⟨rfl, hbw0⟩; have hs0 := hbw0.size)
      | (go_at_call 50; (with_reducible refine ((unhide HCV) _ (own_below (unhide HA) ?pb) (own_below (unhide HB) ?pc)).mono ?_); (case pb => exact (by repeat (first | with_reducible exact Below.refl _ _ | with_reducible assumption | (with_reducible refine Below.trans ?_ (Below.mono (by assumption) (by first | omega | (simp <;> omega)))) | with_reducible apply Below.drew | with_reducible apply below_drewN | (with_reducible refine Below.alloc ?_ (by first | omega | (simp <;> omega)) _) | (with_reducible refine Below.setCell ?_ (by first | omega | (simp <;> omega)) _)))); (case pc => exact (by repeat (first | with_reducible exact Below.refl _ _ | with_reducible assumption | (with_reducible refine Below.trans ?_ (Below.mono (by assumption) (by first | omega | (simp <;> omega)))) | with_reducible apply Below.drew | with_reducible apply below_drewN | (with_reducible refine Below.alloc ?_ (by first | omega | (simp <;> omega)) _) | (with_reducible refine Below.setCell ?_ (by first | omega | (simp <;> omega)) _)))); rintro e w1 ⟨⟨h1, _⟩, hbw1⟩; obtain ⟨A1, d1, A2, d2, rfl, ho1, ho2⟩ := h1 HC.out; clear h1; obtain ⟨ga, rfl, hga0, hga1⟩ := own_some ho1 (by omega); obtain ⟨gb, rfl, hgb0, hgb1⟩ := own_some ho2 (by omega); have hs1 := hbw1.size; have HO1 := hide ho1; have HO2 := hide ho2; clear ho1 ho2)
      | (go_at_call 51; (with_reducible refine ((unhide HCB) _ (own_below (unhide HA) ?pb) (own_below (unhide HB) ?pc)).mono ?_); (case pb => exact (by repeat (first | with_reducible exact Below.refl _ _ | with_reducible assumption | (with_reducible refine Below.trans ?_ (Below.mono (by assumption) (by first | omega | (simp <;> omega)))) | with_reducible apply Below.drew | with_reducible apply below_drewN | (with_reducible refine Below.alloc ?_ (by first | omega | (simp <;> omega)) _) | (with_reducible refine Below.setCell ?_ (by first | omega | (simp <;> omega)) _)))); (case pc => exact (by repeat (first | with_reducible exact Below.refl _ _ | with_reducible assumption | (with_reducible refine Below.trans ?_ (Below.mono (by assumption) (by first | omega | (simp <;> omega)))) | with_reducible apply Below.drew | with_reducible apply below_drewN | (with_reducible refine Below.alloc ?_ (by first | omega | (simp <;> omega)) _) | (with_reducible refine Below.setCell ?_ (by first | omega | (simp <;> omega)) _)))); rintro e w2 ⟨g3, d3, rfl, ho3, hbw2⟩; have hs2 := hbw2.size; have HO3 := hide ho3; clear ho3))
    have hw2 : Below w.heap.size w w2 := (by repeat (first | with_reducible exact Below.refl _ _ | with_reducible assumption | (with_reducible refine Below.trans ?_ (Below.mono (by assumption) (by first | omega | (simp <;> omega)))) | with_reducible apply Below.drew | with_reducible apply below_drewN | (with_reducible refine Below.alloc ?_ (by first | omega | (simp <;> omega)) _) | (with_reducible refine Below.setCell ?_ (by first | omega | (simp <;> omega)) _)))
    have HW2 := hide hw2
    have hsz2 := hw2.size
    have HFA := hide ((fcells_own (unhide HO1)).below hbw2)
    have HFB := hide ((fcells_own (unhide HO2)).below hbw2)
    have HFX := hide (fcells_own (unhide HO3))
    clear hw2 hbw0 hbw1 hbw2 HO1 HO2 HO3 HCV HCB HT
    obtain ⟨wl, rfl⟩ : ∃ x, x = w2 := ⟨w2, rfl⟩
    go_loopw [9, 31] (fun v i wx => ∃ (k : Nat) (u : Value) (ps : List QP), i = .int .i64 k ∧ u = v ∧ k ≤ xs.length ∧ Hid (vK xs (vhs fs gs) k = some ps) ∧ wx.ownsRow wl.heap.size 50 4 u k (ptcs (ps.map qp)) ∧ Below wl.heap.size wl wx) (fun _ i _ => xs.length - (intOf i).toNat)
    case atStart => exact ⟨0, _, [], rfl, rfl, by omega, hide rfl, World.ownsRow_nil _ _ _ _, Below.refl _ _⟩
    case round =>
      obtain ⟨k, u, ps, rfl, rfl, hk, HK, hown, hbwr⟩ := hrel
      have hsr := hbwr.size
      by_cases hlt : k < xs.length
      · have hX := (unhide HFX).below hbwr
        have hAA := (unhide HFA).below hbwr
        have hBB := (unhide HFB).below hbwr
        have f0 := hX.at0 k hlt
        have f1 := hX.at1 k hlt
        have hgr := hX.lt
        have a0 := hAA.at0 k hlt
        have a1 := hAA.at1 k hlt
        have hgal := hAA.lt
        have b0 := hBB.at0 k hlt
        have b1 := hBB.at1 k hlt
        have hgbl := hBB.lt
        have hxm : xs.getD k 0 ∈ xs := mem_iff_getD.2 ⟨k, hlt, rfl⟩
        obtain ⟨hva, hvb⟩ := (unhide HCA) HC.out _ hxm
        have hua := vAt_un' hF ((unhide HPL).un _ hxm) _ hva
        have hub := vAt_un' hG ((unhide HPL).un _ hxm) _ hvb
        have hmap : ∀ (f : Rat → Rat), (xs.map f).getD k 0 = f (xs.getD k 0) := fun f => by simp [List.getD_eq_getElem?_getD, hlt]
        rw [qAtR xs k hlt] at f0 f1
        rw [qAtR _ k (by rw [List.length_map]; exact hlt), hmap] at a0 a1 b0 b1
        simp only at f0 f1 a0 a1 b0 b1
        have hst := vK_step (unhide HK)
        have hvh : vhs fs gs (xs.getD k 0) = omid (some (vf fs (xs.getD k 0))) (some (vf gs (xs.getD k 0))) := by unfold vhs; rw [hva, hvb]
        have hhf2 := fun W => half_o (some (vf fs (xs.getD k 0))) (some (vf gs (xs.getD k 0))) (isR_some hua.fit) (isR_some hub.fit) W
        rw [← hvh] at hhf2
        simp only [oN_some, oD_some] at hhf2
        have hvB : ∀ j, u.ownBlock = some j → wl.heap.size ≤ j := fun j e => (hown.lt j e).1
        have HST := Lib.hid hst; have HH0 := hide hhf2; have HO := hide hown; have HBW := hide hbwr; have HVB := hide hvB
        clear hst hhf2 hvh hva hvb hua hub hmap hxm hX hAA hBB hown hbwr hvB
        generalize (vf fs (xs.getD k 0)).num = an at *
        generalize ((vf fs (xs.getD k 0)).den : Int) = ad at *
        generalize (vf gs (xs.getD k 0)).num = bn at *
        generalize ((vf gs (xs.getD k 0)).den : Int) = bd at *
        cases hv : vhs fs gs (xs.getD k 0) with
        | none =>
            have hno2 : hsO fs gs = none := by rw [HMM.out, vK_none (k := k + 1) (by rw [HST.out, hv]; rfl) (xs.length - (k + 1)) (by omega)]; rfl
            have hh := unhide HH0
            rw [hv] at hh
            have HH := hide hh; have HN2 := Lib.hid hno2
            clear hh hno2 hv HH0
            simp only [oN_none, oD_none, Option.isSome_none] at HH
            generalize (xs.getD k 0).num = xn at *
            generalize ((xs.getD k 0).den : Int) = xd at *
            go_upto_region 10 with fail
            have hbb : Below wr.heap.size wr (wr.alloc (.cells #[.int .i64 xn, .int .i64 xd] 46)) := (by repeat (first | with_reducible exact Below.refl _ _ | with_reducible assumption | (with_reducible refine Below.trans ?_ (Below.mono (by assumption) (by first | omega | (simp <;> omega)))) | with_reducible apply Below.drew | with_reducible apply below_drewN | (with_reducible refine Below.alloc ?_ (by first | omega | (simp <;> omega)) _) | (with_reducible refine Below.setCell ?_ (by first | omega | (simp <;> omega)) _)))
            have cx0 : (wr.alloc (.cells #[.int .i64 xn, .int .i64 xd] 46)).cell? ⟨wr.heap.size, 0, none⟩ = some (.int .i64 xn) := by simp [go_sem]
            have cx1 : (wr.alloc (.cells #[.int .i64 xn, .int .i64 xd] 46)).cell? ⟨wr.heap.size, 1, none⟩ = some (.int .i64 xd) := by simp [go_sem]
            have hxl : wr.heap.size < (wr.alloc (.cells #[.int .i64 xn, .int .i64 xd] 46)).heap.size := by simp
            generalize (wr.alloc (.cells #[.int .i64 xn, .int .i64 xd] 46)) = wb at *
            have p0 := (hbb.cell (p := ⟨ga, k * 2, none⟩) hgal).trans a0
            have p1 := (hbb.cell (p := ⟨ga, k * 2 + 1, none⟩) hgal).trans a1
            have q0 := (hbb.cell (p := ⟨gb, k * 2, none⟩) hgbl).trans b0
            have q1 := (hbb.cell (p := ⟨gb, k * 2 + 1, none⟩) hgbl).trans b1
            have hszb := hbb.size
            have hgal' : ga < wb.heap.size := by omega
            have hgbl' : gb < wb.heap.size := by omega
            have HBB := hide hbb
            clear hbb a0 a1 b0 b1
            go_cut [12, 13] (fun s12 s13 wx => s13 = .bool false ∧ (∃ g : Nat, s12 = .pointer (some ⟨g, 0, none⟩) ∧ Box2 wb wx g 0 0) ∧ Below wb.heap.size wb wx)
            case first =>
              go_region_held3 (fun w' => w'.cell? ⟨ga, k * 2, none⟩ = some (.int .i64 an) ∧ w'.cell? ⟨ga, k * 2 + 1, none⟩ = some (.int .i64 ad) ∧ w'.cell? ⟨gb, k * 2, none⟩ = some (.int .i64 bn) ∧ w'.cell? ⟨gb, k * 2 + 1, none⟩ = some (.int .i64 bd)) (simp [go_sem, World.cell?_alloc_past, *])
                ((go_at_call 52; (with_reducible refine ((unhide HH) _).mono ?_); rintro e w5 ⟨rfl, hbw5⟩; obtain ⟨hcw5, hfw5⟩ := bcell hbw5; have hzw5 := hbw5.size; (try simp at hzw5); (try ((have kw5gaX0 := (bnew hbw5) (ga) ?pf); (case pf => (first | omega | (simp; done) | (simp; omega))); obtain ⟨kcw5gaX0, kfw5gaX0, klw5gaX0⟩ := kw5gaX0)); (try ((have kw5gbX0 := (bnew hbw5) (gb) ?pf); (case pf => (first | omega | (simp; done) | (simp; omega))); obtain ⟨kcw5gbX0, kfw5gbX0, klw5gbX0⟩ := kw5gbX0))))
              all_goals
                go_wp2_with fail
                go_meet
                refine ⟨rfl, ⟨_, rfl, ⟨(by repeat (first | with_reducible exact Below.refl _ _ | with_reducible assumption | (with_reducible refine Below.trans ?_ (Below.mono (by assumption) (by first | omega | (simp <;> omega)))) | with_reducible apply Below.drew | with_reducible apply below_drewN | (with_reducible refine Below.alloc ?_ (by first | omega | (simp <;> omega)) _) | (with_reducible refine Below.setCell ?_ (by first | omega | (simp <;> omega)) _))), ?_, ?_, ?_, ?_, ?_, ?_⟩⟩, (by repeat (first | with_reducible exact Below.refl _ _ | with_reducible assumption | (with_reducible refine Below.trans ?_ (Below.mono (by assumption) (by first | omega | (simp <;> omega)))) | with_reducible apply Below.drew | with_reducible apply below_drewN | (with_reducible refine Below.alloc ?_ (by first | omega | (simp <;> omega)) _) | (with_reducible refine Below.setCell ?_ (by first | omega | (simp <;> omega)) _)))⟩
              all_goals first | (go_simp; done) | (simp [go_sem, *]; done) | omega | (simp; omega)
            case rest =>
            obtain ⟨rfl, ⟨gy, rfl, hBx⟩, hbwc⟩ := hcut
            have hszc := hbwc.size
            have y0 := hBx.c0
            have y1 := hBx.c1
            have hyl := hBx.hi
            have z0 := (hbwc.cell (p := ⟨wr.heap.size, 0, none⟩) hxl).trans cx0
            have z1 := (hbwc.cell (p := ⟨wr.heap.size, 1, none⟩) hxl).trans cx1
            have hbr := (unhide HBB).trans (hbwc.mono hszb)
            clear p0 p1 q0 q1 cx0 cx1 hBx hbwc HBB
            go_wp2_with fail
            have hb0 := unhide HW2; have hb := unhide HBW
            go_ret2
            refine ⟨?_, (by repeat (first | with_reducible exact Below.refl _ _ | with_reducible assumption | (with_reducible refine Below.trans ?_ (Below.mono (by assumption) (by first | omega | (simp <;> omega)))) | with_reducible apply Below.drew | with_reducible apply below_drewN | (with_reducible refine Below.alloc ?_ (by first | omega | (simp <;> omega)) _) | (with_reducible refine Below.setCell ?_ (by first | omega | (simp <;> omega)) _)))⟩
            rw [HN2.out]
            exact ⟨fun l h => (by cases h), fun _ => rfl⟩
        | some z =>
            have HK1 := hide (show vK xs (vhs fs gs) (k + 1) = some (ps ++ [(xs.getD k 0, z)]) by rw [HST.out, hv]; rfl)
            have HPT := Lib.hid (ptq_sn ps (xs.getD k 0) z)
            have hh := unhide HH0
            rw [hv] at hh
            have HH := hide hh
            clear hh hv HH0 HST
            simp only [oN_some, oD_some, Option.isSome_some] at HH
            generalize xs.getD k 0 = X at *
            obtain ⟨xn, hxn⟩ : ∃ r, r = X.num := ⟨_, rfl⟩
            obtain ⟨xd, hxd⟩ : ∃ r, r = (X.den : Int) := ⟨_, rfl⟩
            obtain ⟨zn, hzn⟩ : ∃ r, r = z.num := ⟨_, rfl⟩
            obtain ⟨zd, hzd⟩ : ∃ r, r = (z.den : Int) := ⟨_, rfl⟩
            rw [← hxn] at f0 HPT
            rw [← hxd] at f1 HPT
            rw [← hzn, ← hzd] at HH HPT
            clear hxn hxd hzn hzd
            go_upto_region 10 with fail
            have hbb : Below wr.heap.size wr (wr.alloc (.cells #[.int .i64 xn, .int .i64 xd] 46)) := (by repeat (first | with_reducible exact Below.refl _ _ | with_reducible assumption | (with_reducible refine Below.trans ?_ (Below.mono (by assumption) (by first | omega | (simp <;> omega)))) | with_reducible apply Below.drew | with_reducible apply below_drewN | (with_reducible refine Below.alloc ?_ (by first | omega | (simp <;> omega)) _) | (with_reducible refine Below.setCell ?_ (by first | omega | (simp <;> omega)) _)))
            have cx0 : (wr.alloc (.cells #[.int .i64 xn, .int .i64 xd] 46)).cell? ⟨wr.heap.size, 0, none⟩ = some (.int .i64 xn) := by simp [go_sem]
            have cx1 : (wr.alloc (.cells #[.int .i64 xn, .int .i64 xd] 46)).cell? ⟨wr.heap.size, 1, none⟩ = some (.int .i64 xd) := by simp [go_sem]
            have hxl : wr.heap.size < (wr.alloc (.cells #[.int .i64 xn, .int .i64 xd] 46)).heap.size := by simp
            generalize (wr.alloc (.cells #[.int .i64 xn, .int .i64 xd] 46)) = wb at *
            have p0 := (hbb.cell (p := ⟨ga, k * 2, none⟩) hgal).trans a0
            have p1 := (hbb.cell (p := ⟨ga, k * 2 + 1, none⟩) hgal).trans a1
            have q0 := (hbb.cell (p := ⟨gb, k * 2, none⟩) hgbl).trans b0
            have q1 := (hbb.cell (p := ⟨gb, k * 2 + 1, none⟩) hgbl).trans b1
            have hszb := hbb.size
            have hgal' : ga < wb.heap.size := by omega
            have hgbl' : gb < wb.heap.size := by omega
            have HBB := hide hbb
            clear hbb a0 a1 b0 b1
            go_cut [12, 13] (fun s12 s13 wx => s13 = .bool true ∧ (∃ g : Nat, s12 = .pointer (some ⟨g, 0, none⟩) ∧ Box2 wb wx g zn zd) ∧ Below wb.heap.size wb wx)
            case first =>
              go_region_held3 (fun w' => w'.cell? ⟨ga, k * 2, none⟩ = some (.int .i64 an) ∧ w'.cell? ⟨ga, k * 2 + 1, none⟩ = some (.int .i64 ad) ∧ w'.cell? ⟨gb, k * 2, none⟩ = some (.int .i64 bn) ∧ w'.cell? ⟨gb, k * 2 + 1, none⟩ = some (.int .i64 bd)) (simp [go_sem, World.cell?_alloc_past, *])
                ((go_at_call 52; (with_reducible refine ((unhide HH) _).mono ?_); rintro e w5 ⟨rfl, hbw5⟩; obtain ⟨hcw5, hfw5⟩ := bcell hbw5; have hzw5 := hbw5.size; (try simp at hzw5); (try ((have kw5gaX0 := (bnew hbw5) (ga) ?pf); (case pf => (first | omega | (simp; done) | (simp; omega))); obtain ⟨kcw5gaX0, kfw5gaX0, klw5gaX0⟩ := kw5gaX0)); (try ((have kw5gbX0 := (bnew hbw5) (gb) ?pf); (case pf => (first | omega | (simp; done) | (simp; omega))); obtain ⟨kcw5gbX0, kfw5gbX0, klw5gbX0⟩ := kw5gbX0))))
              all_goals
                go_wp2_with fail
                go_meet
                refine ⟨rfl, ⟨_, rfl, ⟨(by repeat (first | with_reducible exact Below.refl _ _ | with_reducible assumption | (with_reducible refine Below.trans ?_ (Below.mono (by assumption) (by first | omega | (simp <;> omega)))) | with_reducible apply Below.drew | with_reducible apply below_drewN | (with_reducible refine Below.alloc ?_ (by first | omega | (simp <;> omega)) _) | (with_reducible refine Below.setCell ?_ (by first | omega | (simp <;> omega)) _))), ?_, ?_, ?_, ?_, ?_, ?_⟩⟩, (by repeat (first | with_reducible exact Below.refl _ _ | with_reducible assumption | (with_reducible refine Below.trans ?_ (Below.mono (by assumption) (by first | omega | (simp <;> omega)))) | with_reducible apply Below.drew | with_reducible apply below_drewN | (with_reducible refine Below.alloc ?_ (by first | omega | (simp <;> omega)) _) | (with_reducible refine Below.setCell ?_ (by first | omega | (simp <;> omega)) _)))⟩
              all_goals first | (go_simp; done) | (simp [go_sem, *]; done) | omega | (simp; omega)
            case rest =>
            obtain ⟨rfl, ⟨gy, rfl, hBx⟩, hbwc⟩ := hcut
            have hszc := hbwc.size
            have y0 := hBx.c0
            have y1 := hBx.c1
            have hyl := hBx.hi
            have z0 := (hbwc.cell (p := ⟨wr.heap.size, 0, none⟩) hxl).trans cx0
            have z1 := (hbwc.cell (p := ⟨wr.heap.size, 1, none⟩) hxl).trans cx1
            have hbr := (unhide HBB).trans (hbwc.mono hszb)
            clear p0 p1 q0 q1 cx0 cx1 hBx hbwc HBB
            have HBR := hide hbr
            clear hbr
            go_wp2_with (at_builtin; refine wpl_append rfl _ _ _ rfl wl.heap.size 50 i0 _ 4 32 Tryz.underlying24 hi0 hz0 hz1 hz2 rfl (by omega) u k _ rfl (own_below (unhide HO) (show Below wr.heap.size wr _ from (by have hbr := unhide HBR; exact (by repeat (first | with_reducible exact Below.refl _ _ | with_reducible assumption | (with_reducible refine Below.trans ?_ (Below.mono (by assumption) (by first | omega | (simp <;> omega)))) | with_reducible apply Below.drew | with_reducible apply below_drewN | (with_reducible refine Below.alloc ?_ (by first | omega | (simp <;> omega)) _) | (with_reducible refine Below.setCell ?_ (by first | omega | (simp <;> omega)) _)))))) _ 1 [.int .i64 xn, .int .i64 xd, .int .i64 zn, .int .i64 zd] rfl (lies4 (by simp [go_sem, *]) (by simp [go_sem, *]) (by simp [go_sem, *]) (by simp [go_sem, *])) rfl (by simp [Value.oneCell']) (Nat.le_trans (by omega) maxLen_ge) (by omega) (by first | omega | (simp <;> omega)) (k + 1) rfl ?_; intro A6 c6 w6 hown6 hgrow6)
            have hbr := unhide HBR
            have hb := unhide HBW
            have hbz : Below wl.heap.size wl w6 := Below.grown (show Below wl.heap.size wl _ from (by repeat (first | with_reducible exact Below.refl _ _ | with_reducible assumption | (with_reducible refine Below.trans ?_ (Below.mono (by assumption) (by first | omega | (simp <;> omega)))) | with_reducible apply Below.drew | with_reducible apply below_drewN | (with_reducible refine Below.alloc ?_ (by first | omega | (simp <;> omega)) _) | (with_reducible refine Below.setCell ?_ (by first | omega | (simp <;> omega)) _)))) hgrow6 (by first | omega | (simp <;> omega)) (unhide HVB)
            rw [HPT.out] at hown6
            have HO6 := hide hown6
            have HBZ := hide hbz
            clear hown6 hgrow6 hb hbz hbr
            go_wp2_with fail
            go_roundw
            case rel => exact ⟨k + 1, _, _, by go_num, rfl, by omega, HK1, unhide HO6, unhide HBZ⟩
            case measure => simp [intOf]; omega
      · have hke : k = xs.length := by omega
        have hps := vK_len (unhide HK)
        have hv : vK xs (vhs fs gs) xs.length = some ps := by rw [← hke]; exact unhide HK
        have hS := (unhide HPL).points (by omega) hv
        have hif : hsO fs gs = ifO ps := by rw [HMM.out, hv]; rfl
        obtain ⟨A6, d6, rfl⟩ := own_slice hown
        obtain ⟨g6, rfl, hg6, _⟩ := own_some hown (by omega)
        have hco := coIf_any g6 k d6 wl.heap.size ps wr hown (by omega) (by omega) hS
        rw [← hif] at hco
        have HC2 := hide hco
        have hz := (unhide HW2).trans (hbwr.mono (unhide HW2).size)
        have HZ := hide hz
        have hsz := hz.size
        clear hco hown hbwr hv hS hif hz hke hps
        cases hcq : hsO fs gs with
        | none =>
          have HQ := Lib.hid hcq
          clear hcq
          go_wp2_with (go_at_call 53; (with_reducible refine (unhide HC2).mono ?_); rintro e w7 ⟨hp7, hb7⟩; obtain rfl := hp7.2 HQ.out; clear hp7)
          have hz := unhide HZ
          go_ret2
          refine ⟨?_, (by repeat (first | with_reducible exact Below.refl _ _ | with_reducible assumption | (with_reducible refine Below.trans ?_ (Below.mono (by assumption) (by first | omega | (simp <;> omega)))) | with_reducible apply Below.drew | with_reducible apply below_drewN | (with_reducible refine Below.alloc ?_ (by first | omega | (simp <;> omega)) _) | (with_reducible refine Below.setCell ?_ (by first | omega | (simp <;> omega)) _)))⟩
          rw [HQ.out]
          exact ⟨fun l h => (by cases h), fun _ => rfl⟩
        | some r =>
          have HQ := Lib.hid hcq
          clear hcq
          go_wp2_with (go_at_call 53; (with_reducible refine (unhide HC2).mono ?_); rintro e w7 ⟨hp7, hb7⟩; obtain ⟨A7, d7, rfl, ho7⟩ := hp7.1 r HQ.out; clear hp7; have HO7 := hide ho7; clear ho7)
          have hz := unhide HZ
          go_ret2
          refine ⟨?_, (by repeat (first | with_reducible exact Below.refl _ _ | with_reducible assumption | (with_reducible refine Below.trans ?_ (Below.mono (by assumption) (by first | omega | (simp <;> omega)))) | with_reducible apply Below.drew | with_reducible apply below_drewN | (with_reducible refine Below.alloc ?_ (by first | omega | (simp <;> omega)) _) | (with_reducible refine Below.setCell ?_ (by first | omega | (simp <;> omega)) _)))⟩
          rw [HQ.out]
          exact ⟨fun l h => (by injection h with h; subst h; exact ⟨A7, d7, rfl, (unhide HO7).mono hsz⟩), fun h => (by cases h)⟩

set_option maxRecDepth 100000 in
theorem sMiddleMap_any (A : Option Addr) (n c b1 : Nat) (ps : List Pt) (B : Option Addr) (m d b2 : Nat) (qs : List Pt) (w : World) (ha : w.ownsRow b1 50 4 (.slice A n c) n (ptcs ps)) (hn : n ≤ 1048576) (hb : w.ownsRow b2 50 4 (.slice B m d) m (ptcs qs)) (hm : m ≤ 1048576) :
    Calls Tryz.prog 26 #[.slice A n c, .slice B m d] w fun e w' => GivesP w.heap.size (((twoO hsO ps qs).getD []).map qp) (twoO hsO ps qs).isSome e w' ∧ Below w.heap.size w w' := by
  cases hz : (mapB ps && mapB qs) with
  | false =>
    have ht := fun W hW hV => coTwo_any A B n m c d b1 b2 ps qs W hW hV hn hm
    rw [hz] at ht
    rw [show twoO hsO ps qs = none by unfold twoO; rw [hz]; rfl]
    have HA := hide ha; have HB := hide hb; have HT := hide ht; clear ha hb ht hz
    go_enter Tryz.func26, Tryz.ntmps26
    go_wp2_with (go_at_call 31; (with_reducible refine ((unhide HT) _ (own_below (unhide HA) ?p1) (own_below (unhide HB) ?p2)).mono ?_); (case p1 => exact (by repeat (first | with_reducible exact Below.refl _ _ | with_reducible assumption | (with_reducible refine Below.trans ?_ (Below.mono (by assumption) (by first | omega | (simp <;> omega)))) | with_reducible apply Below.drew | with_reducible apply below_drewN | (with_reducible refine Below.alloc ?_ (by first | omega | (simp <;> omega)) _) | (with_reducible refine Below.setCell ?_ (by first | omega | (simp <;> omega)) _)))); (case p2 => exact (by repeat (first | with_reducible exact Below.refl _ _ | with_reducible assumption | (with_reducible refine Below.trans ?_ (Below.mono (by assumption) (by first | omega | (simp <;> omega)))) | with_reducible apply Below.drew | with_reducible apply below_drewN | (with_reducible refine Below.alloc ?_ (by first | omega | (simp <;> omega)) _) | (with_reducible refine Below.setCell ?_ (by first | omega | (simp <;> omega)) _)))); rintro e w0 ⟨rfl, hbw0⟩; have hs0 := hbw0.size)
    go_ret2
    exact ⟨gives_pt ⟨fun l h => (by cases h), fun _ => rfl⟩, (by repeat (first | with_reducible exact Below.refl _ _ | with_reducible assumption | (with_reducible refine Below.trans ?_ (Below.mono (by assumption) (by first | omega | (simp <;> omega)))) | with_reducible apply Below.drew | with_reducible apply below_drewN | (with_reducible refine Below.alloc ?_ (by first | omega | (simp <;> omega)) _) | (with_reducible refine Below.setCell ?_ (by first | omega | (simp <;> omega)) _)))⟩
  | true =>
    rw [Bool.and_eq_true] at hz
    obtain ⟨g, m1, xs, rfl, rfl, rfl, hgx, hlx⟩ := own_form ha hz.1
    obtain ⟨g', m2, ys, rfl, rfl, rfl, hgy, hly⟩ := own_form hb hz.2
    rw [twoO_yes hgx hgy]
    exact (sMiddleMap_map g m1 c b1 g' m2 d b2 xs ys w ha hb hgx hgy).mono fun e w' ⟨h1, h2⟩ => ⟨gives_pt h1, h2⟩
end Go.Proofs.YtgkbogcmmedmbaaGreat

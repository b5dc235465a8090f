/-
  Chapter 5: ComposeMaps of program and model.
-/
import Derived.Test.YtjggjegjhcpjhaaGreatEc
import Derived.Test.YtjggjegjhcpjhaaGreatDg
import Derived.Test.YtjggjegjhcpjhaaGreatEs
namespace Go.Proofs.YtjggjegjhcpjhaaGreat
open Go.RowKit Rm

theorem pm_smap {po : Option (List Rat)} {vm : Rat → Option Rat} (hpl : ∀ l, po = some l → Pl (srt l) ∧ l.length ≤ 1000) {l : List QP} (h : pmO po vm = some l) : SMap l := by
  cases po with
  | none => cases h
  | some xs =>
    obtain ⟨h1, h2⟩ := hpl xs rfl
    change pK (srt xs) vm (srt xs).length = some l at h
    rw [pK_vK] at h
    cases hv : vK (srt xs) vm (srt xs).length with
    | none => rw [hv] at h; cases h
    | some m =>
      rw [hv] at h
      simp only [Option.bind_some] at h
      split at h
      · rename_i hc
        injection h with h; subst h
        exact (h1.points (by have := srt_len xs; omega) hv hc).1
      · cases h
theorem pm_mm (po : Option (List Rat)) (vm : Rat → Option Rat) : (pmO po vm).bind smO = po.bind fun l => mmO (srt l) vm := by cases po <;> rfl
/-- What two lists of points give, if both are maps. -/
def twoO (f : List QP → List QP → Option (List QP)) (ps qs : List Pt) : Option (List QP) := if mapB ps && mapB qs then f (dec ps) (dec qs) else none
theorem twoO_no {f : List QP → List QP → Option (List QP)} {ps qs : List Pt} (h : mapB ps = false ∨ mapB qs = false) : twoO f ps qs = none := by
  unfold twoO
  rw [if_neg]
  rcases h with h | h <;> simp [h]
theorem twoO_yes {f : List QP → List QP → Option (List QP)} {fs gs : List QP} (hF : GMap fs) (hG : GMap gs) : twoO f (fs.map qp) (gs.map qp) = f fs gs := by
  unfold twoO
  rw [hF.mapB, hG.mapB, dec_qp, dec_qp]
  rfl
theorem gives_pt {B : Nat} {qo : Option (List QP)} {e : Ending} {w' : World} (h : PtO B qo e w') : GivesP B ((qo.getD []).map qp) qo.isSome e w' := by
  cases qo with
  | none => exact ⟨none, 0, h.2 rfl, World.ownsRow_nil _ _ _ _⟩
  | some l =>
    obtain ⟨A, d, he, ho⟩ := h.1 l rfl
    exact ⟨A, d, by rw [he]; simp, by simpa using ho⟩
theorem mmO_len {xs : List Rat} {vm : Rat → Option Rat} {l : List QP} (h : mmO xs vm = some l) : l.length ≤ 12 := by
  unfold mmO at h
  cases hp : pK xs vm xs.length with
  | none => rw [hp] at h; cases h
  | some m =>
    rw [hp] at h
    simp only [Option.bind_some, smO] at h
    split at h
    · injection h with h; subst h; assumption
    · cases h
theorem twoO_len {f : List QP → List QP → Option (List QP)} (hf : ∀ fs gs l, f fs gs = some l → l.length ≤ 12) (ps qs : List Pt) : (((twoO f ps qs).getD []).map qp).length ≤ 1048576 := by
  rw [List.length_map]
  cases h : twoO f ps qs with
  | none => simp
  | some l =>
    unfold twoO at h
    split at h
    · have := hf _ _ _ h
      simp only [Option.getD_some]; omega
    · cases h
theorem cmO_len (fs gs : List QP) (l : List QP) (h : cmO fs gs = some l) : l.length ≤ 12 := by
  unfold cmO at h
  cases hp : cmP fs gs with
  | none => rw [hp] at h; cases h
  | some xs => rw [hp] at h; exact mmO_len h
theorem ComposeMaps_len (ps qs : List Pt) : (((twoO cmO ps qs).getD []).map qp).length ≤ 1048576 := twoO_len cmO_len ps qs
theorem compose_map (gf mf cf bf gg mg cg bg : Nat) (fs gs : List QP) (w : World) (hf : w.ownsRow bf 63 4 (.slice (some ⟨gf, 0, none⟩) (mf + 1) cf) (mf + 1) (ptcs (fs.map qp))) (hg : w.ownsRow bg 63 4 (.slice (some ⟨gg, 0, none⟩) (mg + 1) cg) (mg + 1) (ptcs (gs.map qp))) (hF : GMap fs) (hG : GMap gs) :
    Calls Tryz.prog 44 #[.iface 70 (.agg #[.slice (some ⟨gf, 0, none⟩) (mf + 1) cf, .slice (some ⟨gg, 0, none⟩) (mg + 1) cg])] w fun e w' => PtO w.heap.size (cmO fs gs) e w' ∧ Below w.heap.size w w' := by
  have h := map_composition (.agg #[.slice (some ⟨gf, 0, none⟩) (mf + 1) cf, .slice (some ⟨gg, 0, none⟩) (mg + 1) cg]) (cmP fs gs) (vcm fs gs) w
    (fun l hl => by
      obtain ⟨h1, h2, h3⟩ := cmP_pl hF hG hl
      exact ⟨fun x hx => h1.un x (srt_mem.2 hx), h2, by omega⟩)
    (fun l hl => pm_smap (fun l hl => by obtain ⟨h1, h2, h3⟩ := cmP_pl hF hG hl; exact ⟨h1, by omega⟩) hl)
    (hide fun W hW => placesCm_any gf mf cf bf gg mg cg bg fs gs W (own_below hf hW) (own_below hg hW) hF hG)
    (hide fun x hx W hW => valueCm_any gf mf cf bf gg mg cg bg fs gs x W (own_below hf hW) (own_below hg hW) hF hG hx)
  rw [pm_mm] at h
  exact h

set_option maxRecDepth 100000 in
set_option maxHeartbeats 1600000 in
theorem iComposeMaps_any (A : Option Addr) (n c b1 : Nat) (ps : List Pt) (B : Option Addr) (m d b2 : Nat) (qs : List Pt) (w : World) (ha : w.ownsRow b1 63 4 (.slice A n c) n (ptcs ps)) (hn : n ≤ 1048576) (hb : w.ownsRow b2 63 4 (.slice B m d) m (ptcs qs)) (hm : m ≤ 1048576) :
    Calls Tryz.prog 10 #[.slice A n c, .slice B m d] w fun e w' => GivesP w.heap.size (((twoO cmO ps qs).getD []).map qp) (twoO cmO ps qs).isSome e w' ∧ Below w.heap.size w w' := by
  have hm1 := fun W hW => isMap_any A n c b1 ps W hW hn
  have hm2 := fun W hW => isMap_any B m d b2 qs W hW hm
  cases h1 : mapB ps with
  | false =>
    rw [twoO_no (.inl h1)]
    rw [h1] at hm1
    have HM1 := hide hm1; have HM2 := hide hm2; clear hm1 hm2
    have HA := hide ha; have HB := hide hb; clear ha hb h1
    go_enter Tryz.func10, Tryz.ntmps10
    go_wp2_with (first
          | (go_at_call 43; (with_reducible refine ((unhide HM1) _ (own_below (unhide HA) ?pb)).mono ?_); (case pb => exact (by repeat (first | with_reducible exact Below.refl _ _ | with_reducible assumption | (with_reducible refine Below.trans ?_ (Below.mono (by assumption) (by first | omega | (simp <;> omega)))) | with_reducible apply Below.drew | with_reducible apply below_drewN | (with_reducible refine Below.alloc ?_ (by first | omega | (simp <;> omega)) _) | (with_reducible refine Below.setCell ?_ (by first | omega | (simp <;> omega)) _)))); rintro e w1 ⟨rfl, hbw1⟩; have hs1 := hbw1.size)
          | (go_at_call 43; (with_reducible refine ((unhide HM2) _ (own_below (unhide HB) ?pb)).mono ?_); (case pb => exact (by repeat (first | with_reducible exact Below.refl _ _ | with_reducible assumption | (with_reducible refine Below.trans ?_ (Below.mono (by assumption) (by first | omega | (simp <;> omega)))) | with_reducible apply Below.drew | with_reducible apply below_drewN | (with_reducible refine Below.alloc ?_ (by first | omega | (simp <;> omega)) _) | (with_reducible refine Below.setCell ?_ (by first | omega | (simp <;> omega)) _)))); rintro e w2 ⟨rfl, hbw2⟩; have hs2 := hbw2.size))
    go_ret2
    exact ⟨gives_pt ⟨fun l h => (by cases h), fun _ => rfl⟩, (by repeat (first | with_reducible exact Below.refl _ _ | with_reducible assumption | (with_reducible refine Below.trans ?_ (Below.mono (by assumption) (by first | omega | (simp <;> omega)))) | with_reducible apply Below.drew | with_reducible apply below_drewN | (with_reducible refine Below.alloc ?_ (by first | omega | (simp <;> omega)) _) | (with_reducible refine Below.setCell ?_ (by first | omega | (simp <;> omega)) _)))⟩
  | true =>
    cases h2 : mapB qs with
    | false =>
      rw [twoO_no (.inr h2)]
      rw [h1] at hm1
      rw [h2] at hm2
      have HM1 := hide hm1; have HM2 := hide hm2; clear hm1 hm2
      have HA := hide ha; have HB := hide hb; clear ha hb h1 h2
      go_enter Tryz.func10, Tryz.ntmps10
      go_wp2_with (first
          | (go_at_call 43; (with_reducible refine ((unhide HM1) _ (own_below (unhide HA) ?pb)).mono ?_); (case pb => exact (by repeat (first | with_reducible exact Below.refl _ _ | with_reducible assumption | (with_reducible refine Below.trans ?_ (Below.mono (by assumption) (by first | omega | (simp <;> omega)))) | with_reducible apply Below.drew | with_reducible apply below_drewN | (with_reducible refine Below.alloc ?_ (by first | omega | (simp <;> omega)) _) | (with_reducible refine Below.setCell ?_ (by first | omega | (simp <;> omega)) _)))); rintro e w1 ⟨rfl, hbw1⟩; have hs1 := hbw1.size)
          | (go_at_call 43; (with_reducible refine ((unhide HM2) _ (own_below (unhide HB) ?pb)).mono ?_); (case pb => exact (by repeat (first | with_reducible exact Below.refl _ _ | with_reducible assumption | (with_reducible refine Below.trans ?_ (Below.mono (by assumption) (by first | omega | (simp <;> omega)))) | with_reducible apply Below.drew | with_reducible apply below_drewN | (with_reducible refine Below.alloc ?_ (by first | omega | (simp <;> omega)) _) | (with_reducible refine Below.setCell ?_ (by first | omega | (simp <;> omega)) _)))); rintro e w2 ⟨rfl, hbw2⟩; have hs2 := hbw2.size))
      go_ret2
      exact ⟨gives_pt ⟨fun l h => (by cases h), fun _ => rfl⟩, (by repeat (first | with_reducible exact Below.refl _ _ | with_reducible assumption | (with_reducible refine Below.trans ?_ (Below.mono (by assumption) (by first | omega | (simp <;> omega)))) | with_reducible apply Below.drew | with_reducible apply below_drewN | (with_reducible refine Below.alloc ?_ (by first | omega | (simp <;> omega)) _) | (with_reducible refine Below.setCell ?_ (by first | omega | (simp <;> omega)) _)))⟩
    | true =>
      rw [h1] at hm1
      rw [h2] at hm2
      have HM1 := hide hm1; have HM2 := hide hm2; clear hm1 hm2
      obtain ⟨g, m1, xs, rfl, rfl, rfl, hgx, hlx⟩ := own_form ha h1
      obtain ⟨g', m2, ys, rfl, rfl, rfl, hgy, hly⟩ := own_form hb h2
      rw [twoO_yes hgx hgy]
      have hmp := fun W hW hV => compose_map g m1 c b1 g' m2 d b2 xs ys W hW hV hgx hgy
      have HA := hide ha; have HB := hide hb; have HMP := hide hmp
      clear ha hb h1 h2 hmp hgx hgy hlx hly
      cases hq : cmO xs ys with
      | none =>
        have HQ := Lib.hid hq; clear hq
        go_enter Tryz.func10, Tryz.ntmps10
        go_wp2_with (first
          | (go_at_call 43; (with_reducible refine ((unhide HM1) _ (own_below (unhide HA) ?pb)).mono ?_); (case pb => exact (by repeat (first | with_reducible exact Below.refl _ _ | with_reducible assumption | (with_reducible refine Below.trans ?_ (Below.mono (by assumption) (by first | omega | (simp <;> omega)))) | with_reducible apply Below.drew | with_reducible apply below_drewN | (with_reducible refine Below.alloc ?_ (by first | omega | (simp <;> omega)) _) | (with_reducible refine Below.setCell ?_ (by first | omega | (simp <;> omega)) _)))); rintro e w1 ⟨rfl, hbw1⟩; have hs1 := hbw1.size)
          | (go_at_call 43; (with_reducible refine ((unhide HM2) _ (own_below (unhide HB) ?pb)).mono ?_); (case pb => exact (by repeat (first | with_reducible exact Below.refl _ _ | with_reducible assumption | (with_reducible refine Below.trans ?_ (Below.mono (by assumption) (by first | omega | (simp <;> omega)))) | with_reducible apply Below.drew | with_reducible apply below_drewN | (with_reducible refine Below.alloc ?_ (by first | omega | (simp <;> omega)) _) | (with_reducible refine Below.setCell ?_ (by first | omega | (simp <;> omega)) _)))); rintro e w2 ⟨rfl, hbw2⟩; have hs2 := hbw2.size)
          | (go_at_call 44; (with_reducible refine ((unhide HMP) _ (own_below (unhide HA) ?pb) (own_below (unhide HB) ?pc)).mono ?_); (case pb => exact (by repeat (first | with_reducible exact Below.refl _ _ | with_reducible assumption | (with_reducible refine Below.trans ?_ (Below.mono (by assumption) (by first | omega | (simp <;> omega)))) | with_reducible apply Below.drew | with_reducible apply below_drewN | (with_reducible refine Below.alloc ?_ (by first | omega | (simp <;> omega)) _) | (with_reducible refine Below.setCell ?_ (by first | omega | (simp <;> omega)) _)))); (case pc => exact (by repeat (first | with_reducible exact Below.refl _ _ | with_reducible assumption | (with_reducible refine Below.trans ?_ (Below.mono (by assumption) (by first | omega | (simp <;> omega)))) | with_reducible apply Below.drew | with_reducible apply below_drewN | (with_reducible refine Below.alloc ?_ (by first | omega | (simp <;> omega)) _) | (with_reducible refine Below.setCell ?_ (by first | omega | (simp <;> omega)) _)))); rintro e w3 ⟨hpt, hbw3⟩; obtain rfl := hpt.2 HQ.out; clear hpt))
        go_ret2
        exact ⟨gives_pt ⟨fun l h => (by cases h), fun _ => rfl⟩, (by repeat (first | with_reducible exact Below.refl _ _ | with_reducible assumption | (with_reducible refine Below.trans ?_ (Below.mono (by assumption) (by first | omega | (simp <;> omega)))) | with_reducible apply Below.drew | with_reducible apply below_drewN | (with_reducible refine Below.alloc ?_ (by first | omega | (simp <;> omega)) _) | (with_reducible refine Below.setCell ?_ (by first | omega | (simp <;> omega)) _)))⟩
      | some r =>
        have HQ := Lib.hid hq; clear hq
        go_enter Tryz.func10, Tryz.ntmps10
        go_wp2_with (first
          | (go_at_call 43; (with_reducible refine ((unhide HM1) _ (own_below (unhide HA) ?pb)).mono ?_); (case pb => exact (by repeat (first | with_reducible exact Below.refl _ _ | with_reducible assumption | (with_reducible refine Below.trans ?_ (Below.mono (by assumption) (by first | omega | (simp <;> omega)))) | with_reducible apply Below.drew | with_reducible apply below_drewN | (with_reducible refine Below.alloc ?_ (by first | omega | (simp <;> omega)) _) | (with_reducible refine Below.setCell ?_ (by first | omega | (simp <;> omega)) _)))); rintro e w1 ⟨rfl, hbw1⟩; have hs1 := hbw1.size)
          | (go_at_call 43; (with_reducible refine ((unhide HM2) _ (own_below (unhide HB) ?pb)).mono ?_); (case pb => exact (by repeat (first | with_reducible exact Below.refl _ _ | with_reducible assumption | (with_reducible refine Below.trans ?_ (Below.mono (by assumption) (by first | omega | (simp <;> omega)))) | with_reducible apply Below.drew | with_reducible apply below_drewN | (with_reducible refine Below.alloc ?_ (by first | omega | (simp <;> omega)) _) | (with_reducible refine Below.setCell ?_ (by first | omega | (simp <;> omega)) _)))); rintro e w2 ⟨rfl, hbw2⟩; have hs2 := hbw2.size)
          | (go_at_call 44; (with_reducible refine ((unhide HMP) _ (own_below (unhide HA) ?pb) (own_below (unhide HB) ?pc)).mono ?_); (case pb => exact (by repeat (first | with_reducible exact Below.refl _ _ | with_reducible assumption | (with_reducible refine Below.trans ?_ (Below.mono (by assumption) (by first | omega | (simp <;> omega)))) | with_reducible apply Below.drew | with_reducible apply below_drewN | (with_reducible refine Below.alloc ?_ (by first | omega | (simp <;> omega)) _) | (with_reducible refine Below.setCell ?_ (by first | omega | (simp <;> omega)) _)))); (case pc => exact (by repeat (first | with_reducible exact Below.refl _ _ | with_reducible assumption | (with_reducible refine Below.trans ?_ (Below.mono (by assumption) (by first | omega | (simp <;> omega)))) | with_reducible apply Below.drew | with_reducible apply below_drewN | (with_reducible refine Below.alloc ?_ (by first | omega | (simp <;> omega)) _) | (with_reducible refine Below.setCell ?_ (by first | omega | (simp <;> omega)) _)))); rintro e w3 ⟨hpt, hbw3⟩; obtain ⟨A3, d3, rfl, ho3⟩ := hpt.1 r HQ.out; clear hpt; have HO3 := hide ho3; clear ho3))
        go_ret2
        exact ⟨gives_pt ⟨fun l h => (by injection h with h; subst h; exact ⟨A3, d3, rfl, (unhide HO3).mono (by omega)⟩), fun h => (by cases h)⟩, (by repeat (first | with_reducible exact Below.refl _ _ | with_reducible assumption | (with_reducible refine Below.trans ?_ (Below.mono (by assumption) (by first | omega | (simp <;> omega)))) | with_reducible apply Below.drew | with_reducible apply below_drewN | (with_reducible refine Below.alloc ?_ (by first | omega | (simp <;> omega)) _) | (with_reducible refine Below.setCell ?_ (by first | omega | (simp <;> omega)) _)))⟩

set_option maxRecDepth 100000 in
set_option maxHeartbeats 1600000 in
theorem sComposeMaps_any (A : Option Addr) (n c b1 : Nat) (ps : List Pt) (B : Option Addr) (m d b2 : Nat) (qs : List Pt) (w : World) (ha : w.ownsRow b1 63 4 (.slice A n c) n (ptcs ps)) (hn : n ≤ 1048576) (hb : w.ownsRow b2 63 4 (.slice B m d) m (ptcs qs)) (hm : m ≤ 1048576) :
    Calls Tryz.prog 8 #[.slice A n c, .slice B m d] w fun e w' => GivesP w.heap.size (((twoO cmO ps qs).getD []).map qp) (twoO cmO ps qs).isSome e w' ∧ Below w.heap.size w w' := by
  have ht := fun W hW hV => coTwo_any A B n m c d b1 b2 ps qs W hW hV hn hm
  cases h1 : mapB ps with
  | false =>
    rw [twoO_no (.inl h1)]
    rw [h1] at ht
    have HT := hide ht; clear ht
    have HA := hide ha; have HB := hide hb; clear ha hb h1
    go_enter Tryz.func8, Tryz.ntmps8
    go_wp2_with ((go_at_call 40; (with_reducible refine ((unhide HT) _ (own_below (unhide HA) ?p1) (own_below (unhide HB) ?p2)).mono ?_); (case p1 => exact (by repeat (first | with_reducible exact Below.refl _ _ | with_reducible assumption | (with_reducible refine Below.trans ?_ (Below.mono (by assumption) (by first | omega | (simp <;> omega)))) | with_reducible apply Below.drew | with_reducible apply below_drewN | (with_reducible refine Below.alloc ?_ (by first | omega | (simp <;> omega)) _) | (with_reducible refine Below.setCell ?_ (by first | omega | (simp <;> omega)) _)))); (case p2 => exact (by repeat (first | with_reducible exact Below.refl _ _ | with_reducible assumption | (with_reducible refine Below.trans ?_ (Below.mono (by assumption) (by first | omega | (simp <;> omega)))) | with_reducible apply Below.drew | with_reducible apply below_drewN | (with_reducible refine Below.alloc ?_ (by first | omega | (simp <;> omega)) _) | (with_reducible refine Below.setCell ?_ (by first | omega | (simp <;> omega)) _)))); rintro e w2 ⟨rfl, hbw2⟩; have hs2 := hbw2.size))
    go_ret2
    exact ⟨gives_pt ⟨fun l h => (by cases h), fun _ => rfl⟩, (by repeat (first | with_reducible exact Below.refl _ _ | with_reducible assumption | (with_reducible refine Below.trans ?_ (Below.mono (by assumption) (by first | omega | (simp <;> omega)))) | with_reducible apply Below.drew | with_reducible apply below_drewN | (with_reducible refine Below.alloc ?_ (by first | omega | (simp <;> omega)) _) | (with_reducible refine Below.setCell ?_ (by first | omega | (simp <;> omega)) _)))⟩
  | true =>
    cases h2 : mapB qs with
    | false =>
      rw [twoO_no (.inr h2)]
      rw [h1] at ht
      rw [h2] at ht
      have HT := hide ht; clear ht
      have HA := hide ha; have HB := hide hb; clear ha hb h1 h2
      go_enter Tryz.func8, Tryz.ntmps8
      go_wp2_with ((go_at_call 40; (with_reducible refine ((unhide HT) _ (own_below (unhide HA) ?p1) (own_below (unhide HB) ?p2)).mono ?_); (case p1 => exact (by repeat (first | with_reducible exact Below.refl _ _ | with_reducible assumption | (with_reducible refine Below.trans ?_ (Below.mono (by assumption) (by first | omega | (simp <;> omega)))) | with_reducible apply Below.drew | with_reducible apply below_drewN | (with_reducible refine Below.alloc ?_ (by first | omega | (simp <;> omega)) _) | (with_reducible refine Below.setCell ?_ (by first | omega | (simp <;> omega)) _)))); (case p2 => exact (by repeat (first | with_reducible exact Below.refl _ _ | with_reducible assumption | (with_reducible refine Below.trans ?_ (Below.mono (by assumption) (by first | omega | (simp <;> omega)))) | with_reducible apply Below.drew | with_reducible apply below_drewN | (with_reducible refine Below.alloc ?_ (by first | omega | (simp <;> omega)) _) | (with_reducible refine Below.setCell ?_ (by first | omega | (simp <;> omega)) _)))); rintro e w2 ⟨rfl, hbw2⟩; have hs2 := hbw2.size))
      go_ret2
      exact ⟨gives_pt ⟨fun l h => (by cases h), fun _ => rfl⟩, (by repeat (first | with_reducible exact Below.refl _ _ | with_reducible assumption | (with_reducible refine Below.trans ?_ (Below.mono (by assumption) (by first | omega | (simp <;> omega)))) | with_reducible apply Below.drew | with_reducible apply below_drewN | (with_reducible refine Below.alloc ?_ (by first | omega | (simp <;> omega)) _) | (with_reducible refine Below.setCell ?_ (by first | omega | (simp <;> omega)) _)))⟩
    | true =>
      rw [h1] at ht
      rw [h2] at ht
      have HT := hide ht; clear ht
      obtain ⟨g, m1, xs, rfl, rfl, rfl, hgx, hlx⟩ := own_form ha h1
      obtain ⟨g', m2, ys, rfl, rfl, rfl, hgy, hly⟩ := own_form hb h2
      rw [twoO_yes hgx hgy]
      have hmp := fun W hW hV => coCompose_any g m1 c b1 g' m2 d b2 xs ys W hW hV hgx hgy
      have HA := hide ha; have HB := hide hb; have HMP := hide hmp
      clear ha hb h1 h2 hmp hgx hgy hlx hly
      cases hq : cmO xs ys with
      | none =>
        have HQ := Lib.hid hq; clear hq
        go_enter Tryz.func8, Tryz.ntmps8
        go_wp2_with (first
          | (go_at_call 40; (with_reducible refine ((unhide HT) _ (own_below (unhide HA) ?p1) (own_below (unhide HB) ?p2)).mono ?_); (case p1 => exact (by repeat (first | with_reducible exact Below.refl _ _ | with_reducible assumption | (with_reducible refine Below.trans ?_ (Below.mono (by assumption) (by first | omega | (simp <;> omega)))) | with_reducible apply Below.drew | with_reducible apply below_drewN | (with_reducible refine Below.alloc ?_ (by first | omega | (simp <;> omega)) _) | (with_reducible refine Below.setCell ?_ (by first | omega | (simp <;> omega)) _)))); (case p2 => exact (by repeat (first | with_reducible exact Below.refl _ _ | with_reducible assumption | (with_reducible refine Below.trans ?_ (Below.mono (by assumption) (by first | omega | (simp <;> omega)))) | with_reducible apply Below.drew | with_reducible apply below_drewN | (with_reducible refine Below.alloc ?_ (by first | omega | (simp <;> omega)) _) | (with_reducible refine Below.setCell ?_ (by first | omega | (simp <;> omega)) _)))); rintro e w2 ⟨rfl, hbw2⟩; have hs2 := hbw2.size)
          | (go_at_call 41; (with_reducible refine ((unhide HMP) _ (own_below (unhide HA) ?pb) (own_below (unhide HB) ?pc)).mono ?_); (case pb => exact (by repeat (first | with_reducible exact Below.refl _ _ | with_reducible assumption | (with_reducible refine Below.trans ?_ (Below.mono (by assumption) (by first | omega | (simp <;> omega)))) | with_reducible apply Below.drew | with_reducible apply below_drewN | (with_reducible refine Below.alloc ?_ (by first | omega | (simp <;> omega)) _) | (with_reducible refine Below.setCell ?_ (by first | omega | (simp <;> omega)) _)))); (case pc => exact (by repeat (first | with_reducible exact Below.refl _ _ | with_reducible assumption | (with_reducible refine Below.trans ?_ (Below.mono (by assumption) (by first | omega | (simp <;> omega)))) | with_reducible apply Below.drew | with_reducible apply below_drewN | (with_reducible refine Below.alloc ?_ (by first | omega | (simp <;> omega)) _) | (with_reducible refine Below.setCell ?_ (by first | omega | (simp <;> omega)) _)))); rintro e w3 ⟨hpt, hbw3⟩; obtain rfl := hpt.2 HQ.out; clear hpt))
        go_ret2
        exact ⟨gives_pt ⟨fun l h => (by cases h), fun _ => rfl⟩, (by repeat (first | with_reducible exact Below.refl _ _ | with_reducible assumption | (with_reducible refine Below.trans ?_ (Below.mono (by assumption) (by first | omega | (simp <;> omega)))) | with_reducible apply Below.drew | with_reducible apply below_drewN | (with_reducible refine Below.alloc ?_ (by first | omega | (simp <;> omega)) _) | (with_reducible refine Below.setCell ?_ (by first | omega | (simp <;> omega)) _)))⟩
      | some r =>
        have HQ := Lib.hid hq; clear hq
        go_enter Tryz.func8, Tryz.ntmps8
        go_wp2_with (first
          | (go_at_call 40; (with_reducible refine ((unhide HT) _ (own_below (unhide HA) ?p1) (own_below (unhide HB) ?p2)).mono ?_); (case p1 => exact (by repeat (first | with_reducible exact Below.refl _ _ | with_reducible assumption | (with_reducible refine Below.trans ?_ (Below.mono (by assumption) (by first | omega | (simp <;> omega)))) | with_reducible apply Below.drew | with_reducible apply below_drewN | (with_reducible refine Below.alloc ?_ (by first | omega | (simp <;> omega)) _) | (with_reducible refine Below.setCell ?_ (by first | omega | (simp <;> omega)) _)))); (case p2 => exact (by repeat (first | with_reducible exact Below.refl _ _ | with_reducible assumption | (with_reducible refine Below.trans ?_ (Below.mono (by assumption) (by first | omega | (simp <;> omega)))) | with_reducible apply Below.drew | with_reducible apply below_drewN | (with_reducible refine Below.alloc ?_ (by first | omega | (simp <;> omega)) _) | (with_reducible refine Below.setCell ?_ (by first | omega | (simp <;> omega)) _)))); rintro e w2 ⟨rfl, hbw2⟩; have hs2 := hbw2.size)
          | (go_at_call 41; (with_reducible refine ((unhide HMP) _ (own_below (unhide HA) ?pb) (own_below (unhide HB) ?pc)).mono ?_); (case pb => exact (by repeat (first | with_reducible exact Below.refl _ _ | with_reducible assumption | (with_reducible refine Below.trans ?_ (Below.mono (by assumption) (by first | omega | (simp <;> omega)))) | with_reducible apply Below.drew | with_reducible apply below_drewN | (with_reducible refine Below.alloc ?_ (by first | omega | (simp <;> omega)) _) | (with_reducible refine Below.setCell ?_ (by first | omega | (simp <;> omega)) _)))); (case pc => exact (by repeat (first | with_reducible exact Below.refl _ _ | with_reducible assumption | (with_reducible refine Below.trans ?_ (Below.mono (by assumption) (by first | omega | (simp <;> omega)))) | with_reducible apply Below.drew | with_reducible apply below_drewN | (with_reducible refine Below.alloc ?_ (by first | omega | (simp <;> omega)) _) | (with_reducible refine Below.setCell ?_ (by first | omega | (simp <;> omega)) _)))); rintro e w3 ⟨hpt, hbw3⟩; obtain ⟨A3, d3, rfl, ho3⟩ := hpt.1 r HQ.out; clear hpt; have HO3 := hide ho3; clear ho3))
        go_ret2
        exact ⟨gives_pt ⟨fun l h => (by injection h with h; subst h; exact ⟨A3, d3, rfl, (unhide HO3).mono (by omega)⟩), fun h => (by cases h)⟩, (by repeat (first | with_reducible exact Below.refl _ _ | with_reducible assumption | (with_reducible refine Below.trans ?_ (Below.mono (by assumption) (by first | omega | (simp <;> omega)))) | with_reducible apply Below.drew | with_reducible apply below_drewN | (with_reducible refine Below.alloc ?_ (by first | omega | (simp <;> omega)) _) | (with_reducible refine Below.setCell ?_ (by first | omega | (simp <;> omega)) _)))⟩
end Go.Proofs.YtjggjegjhcpjhaaGreat

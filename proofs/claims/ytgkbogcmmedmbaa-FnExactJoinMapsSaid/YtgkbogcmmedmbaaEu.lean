/-
  Chapter 5: JoinMaps of the program.
-/
import Derived.Test.YtgkbogcmmedmbaaEt
import Derived.Test.YtgkbogcmmedmbaaEd
import Derived.Test.YtgkbogcmmedmbaaDg
namespace Go.Proofs.Ytgkbogcmmedmbaa
open Go.RowKit Rm

def jnM (ps qs : List Pt) (a b : Int) : Option (List QP) := (valO ps a b).bind fun y => (valO qs a b).bind fun z => if y = z then ifO (jnL (dec ps) (dec qs) (Rat.divInt a b) y) else none
theorem jnM_no {ps qs : List Pt} {a b : Int} (h : valO ps a b = none ∨ valO qs a b = none) : jnM ps qs a b = none := by
  unfold jnM
  rcases h with h | h
  · rw [h]; rfl
  · rw [h]; cases valO ps a b <;> rfl
theorem jnM_ne {ps qs : List Pt} {a b : Int} {y z : Rat} (h1 : valO ps a b = some y) (h2 : valO qs a b = some z) (h : ¬ y = z) : jnM ps qs a b = none := by
  unfold jnM
  rw [h1, h2]
  exact if_neg h
theorem jnM_yes {fs gs : List QP} {a y : Rat} (h1 : valO (fs.map qp) a.num a.den = some y) (h2 : valO (gs.map qp) a.num a.den = some y) : jnM (fs.map qp) (gs.map qp) a.num a.den = ifO (jnL fs gs a y) := by
  unfold jnM
  rw [h1, h2, dec_qp, dec_qp, Rat.num_divInt_den]
  exact if_pos rfl
theorem valO_true {ps : List Pt} {a b : Int} {y : Rat} (h : valO ps a b = some y) : uB a b = true ∧ mapB ps = true := by
  cases h1 : uB a b with
  | false => rw [valO_no (.inl h1)] at h; cases h
  | true =>
    cases h2 : mapB ps with
    | false => rw [valO_no (.inr h2)] at h; cases h
    | true => exact ⟨rfl, rfl⟩
theorem JoinMaps_len (ps qs : List Pt) (a b : Int) : (((jnM ps qs a b).getD []).map qp).length ≤ 1048576 := by
  rw [List.length_map]
  cases h : jnM ps qs a b with
  | none => simp
  | some l =>
    have hl : l.length ≤ 12 := by
      unfold jnM at h
      cases h1 : valO ps a b with
      | none => rw [h1] at h; cases h
      | some y =>
        cases h2 : valO qs a b with
        | none => rw [h1, h2] at h; cases h
        | some z =>
          rw [h1, h2] at h
          simp only [Option.bind_some] at h
          split at h
          · unfold ifO at h
            split at h
            · unfold smO at h
              split at h
              · injection h with h; subst h; assumption
              · cases h
            · cases h
          · cases h
    simp only [Option.getD_some]; omega
theorem join_map (gf mf cf bf gg mg cg bg : Nat) (fs gs : List QP) (a y : Rat) (w : World) (hf : w.ownsRow bf 43 4 (.slice (some ⟨gf, 0, none⟩) (mf + 1) cf) (mf + 1) (ptcs (fs.map qp))) (hg : w.ownsRow bg 43 4 (.slice (some ⟨gg, 0, none⟩) (mg + 1) cg) (mg + 1) (ptcs (gs.map qp))) (hF : GMap fs) (hG : GMap gs) (ha : Un a) (hy : vAt fs a = some y) :
    Calls Try.prog 43 #[.iface 67 (.agg #[.slice (some ⟨gf, 0, none⟩) (mf + 1) cf, .slice (some ⟨gg, 0, none⟩) (mg + 1) cg, .int .i64 a.num, .int .i64 a.den])] w fun e w' => PtO w.heap.size (ifO (jnL fs gs a y)) e w' ∧ Below w.heap.size w w' := by
  have hp := jn_pl hF hG ha
  have hl := jn_len hF hG a
  have h := map_junction (.agg #[.slice (some ⟨gf, 0, none⟩) (mf + 1) cf, .slice (some ⟨gg, 0, none⟩) (mg + 1) cg, .int .i64 a.num, .int .i64 a.den]) (some (jnP fs gs a)) (vjn fs gs a) w
    (fun l e => by
      injection e with e
      subst e
      exact ⟨fun x hx => hp.un x (srt_mem.2 hx), hl.1, by omega⟩)
    (fun l e => pm_smap (fun l e => by injection e with e; subst e; exact ⟨hp, by omega⟩) e)
    (hide fun W hW => placesJn_any gf mf cf bf gg mg cg bg fs gs a W (own_below hf hW) (own_below hg hW) hF hG ha)
    (hide fun x hx W hW => valueJn_any gf mf cf bf gg mg cg bg fs gs a x W (own_below hf hW) (own_below hg hW) hF hG ha hx)
  rw [pm_mm] at h
  simp only [Option.bind_some] at h
  rw [jn_mm hF hG hy] at h
  exact h

set_option maxRecDepth 100000 in
set_option maxHeartbeats 3200000 in
theorem iJoinMaps_any (A : Option Addr) (n c b1 : Nat) (ps : List Pt) (B : Option Addr) (m d b2 : Nat) (qs : List Pt) (a b : Int) (w : World) (ha : w.ownsRow b1 43 4 (.slice A n c) n (ptcs ps)) (hn : n ≤ 1048576) (hb : w.ownsRow b2 43 4 (.slice B m d) m (ptcs qs)) (hm : m ≤ 1048576) :
    Calls Try.prog 17 #[.slice A n c, .slice B m d, .agg #[.int .i64 (a), .int .i64 (b)]] w fun e w' => GivesP w.heap.size (((jnM ps qs a b).getD []).map qp) (jnM ps qs a b).isSome e w' ∧ Below w.heap.size w w' := by
  have hv1 := fun W hW => iValueAt_any A n c b1 ps a b W hW hn
  have hv2 := fun W hW => iValueAt_any B m d b2 qs a b W hW hm
  cases h1 : valO ps a b with
  | none =>
    rw [jnM_no (.inl h1)]
    rw [h1] at hv1
    simp only [oN_none, oD_none, Option.isSome_none] at hv1
    have HV1 := hide hv1; have HA := hide ha
    clear hv1 hv2 h1 ha hb
    go_enter Try.func17, Try.ntmps17
    go_wp2_with (go_at_call 42; (with_reducible refine ((unhide HV1) _ (own_below (unhide HA) ?pb)).mono ?_); (case pb => exact (by repeat (first | with_reducible exact Below.refl _ _ | with_reducible assumption | (with_reducible refine Below.trans ?_ (Below.mono (by assumption) (by first | omega | (simp <;> omega)))) | with_reducible apply Below.drew | with_reducible apply below_drewN | (with_reducible refine Below.alloc ?_ (by first | omega | (simp <;> omega)) _) | (with_reducible refine Below.setCell ?_ (by first | omega | (simp <;> omega)) _)))); rintro e w1 ⟨rfl, hbw1⟩; have hs1 := hbw1.size; (try simp at hs1); (skip; (try ((have kw1w0 := (bnew hbw1) (w.heap.size) ?pf); (case pf => (first | omega | (simp; done) | (simp; omega))); obtain ⟨kcw1w0, kfw1w0, klw1w0⟩ := kw1w0))))
    go_ret2
    exact ⟨gives_pt ⟨fun l h => (by cases h), fun _ => rfl⟩, (by repeat (first | with_reducible exact Below.refl _ _ | with_reducible assumption | (with_reducible refine Below.trans ?_ (Below.mono (by assumption) (by first | omega | (simp <;> omega)))) | with_reducible apply Below.drew | with_reducible apply below_drewN | (with_reducible refine Below.alloc ?_ (by first | omega | (simp <;> omega)) _) | (with_reducible refine Below.setCell ?_ (by first | omega | (simp <;> omega)) _)))⟩
  | some y =>
    have hv1s := hv1
    rw [h1] at hv1s
    simp only [oN_some, oD_some, Option.isSome_some] at hv1s
    have HV1 := hide hv1s; have HA := hide ha; have HB := hide hb
    cases h2 : valO qs a b with
    | none =>
      rw [jnM_no (.inr h2)]
      rw [h2] at hv2
      simp only [oN_none, oD_none, Option.isSome_none] at hv2
      have HV2 := hide hv2
      clear hv1 hv1s hv2 h1 h2 ha hb
      generalize y.num = yn at *
      generalize (y.den : Int) = yd at *
      go_enter Try.func17, Try.ntmps17
      go_wp2_with (first
        | (go_at_call 42; (with_reducible refine ((unhide HV2) _ (own_below (unhide HB) ?pb)).mono ?_); (case pb => exact (by repeat (first | with_reducible exact Below.refl _ _ | with_reducible assumption | (with_reducible refine Below.trans ?_ (Below.mono (by assumption) (by first | omega | (simp <;> omega)))) | with_reducible apply Below.drew | with_reducible apply below_drewN | (with_reducible refine Below.alloc ?_ (by first | omega | (simp <;> omega)) _) | (with_reducible refine Below.setCell ?_ (by first | omega | (simp <;> omega)) _)))); rintro e w2 ⟨rfl, hbw2⟩; have hs2 := hbw2.size; (try simp at hs2); (skip; (try ((have kw2w0 := (bnew hbw2) (w.heap.size) ?pf); (case pf => (first | omega | (simp; done) | (simp; omega))); obtain ⟨kcw2w0, kfw2w0, klw2w0⟩ := kw2w0)); (try ((have kw2w10 := (bnew hbw2) (w1.heap.size) ?pf); (case pf => (first | omega | (simp; done) | (simp; omega))); obtain ⟨kcw2w10, kfw2w10, klw2w10⟩ := kw2w10))))
        | (go_at_call 42; (with_reducible refine ((unhide HV1) _ (own_below (unhide HA) ?pb)).mono ?_); (case pb => exact (by repeat (first | with_reducible exact Below.refl _ _ | with_reducible assumption | (with_reducible refine Below.trans ?_ (Below.mono (by assumption) (by first | omega | (simp <;> omega)))) | with_reducible apply Below.drew | with_reducible apply below_drewN | (with_reducible refine Below.alloc ?_ (by first | omega | (simp <;> omega)) _) | (with_reducible refine Below.setCell ?_ (by first | omega | (simp <;> omega)) _)))); rintro e w1 ⟨rfl, hbw1⟩; have hs1 := hbw1.size; (try simp at hs1); (skip; (try ((have kw1w0 := (bnew hbw1) (w.heap.size) ?pf); (case pf => (first | omega | (simp; done) | (simp; omega))); obtain ⟨kcw1w0, kfw1w0, klw1w0⟩ := kw1w0)))))
      go_ret2
      exact ⟨gives_pt ⟨fun l h => (by cases h), fun _ => rfl⟩, (by repeat (first | with_reducible exact Below.refl _ _ | with_reducible assumption | (with_reducible refine Below.trans ?_ (Below.mono (by assumption) (by first | omega | (simp <;> omega)))) | with_reducible apply Below.drew | with_reducible apply below_drewN | (with_reducible refine Below.alloc ?_ (by first | omega | (simp <;> omega)) _) | (with_reducible refine Below.setCell ?_ (by first | omega | (simp <;> omega)) _)))⟩
    | some z =>
      rw [h2] at hv2
      simp only [oN_some, oD_some, Option.isSome_some] at hv2
      have HV2 := hide hv2
      by_cases hc : y = z
      · subst hc
        obtain ⟨hu, hm1⟩ := valO_true h1
        obtain ⟨_, hm2⟩ := valO_true h2
        obtain ⟨x, rfl, rfl, hxf, hx0, hx1⟩ := uB_rat hu
        have hx : Un x := ⟨hxf, hx0, hx1⟩
        obtain ⟨g, m1, fs, rfl, rfl, rfl, hgx, hlx⟩ := own_form ha hm1
        obtain ⟨g', m2, gs, rfl, rfl, rfl, hgy, hly⟩ := own_form hb hm2
        rw [jnM_yes h1 h2]
        have hva := h1
        rw [valO_eq hgx hu] at hva
        have hmp := fun W hW hV => join_map g m1 c b1 g' m2 d b2 fs gs x y W hW hV hgx hgy hx hva
        have HMP := hide hmp
        clear hv1 hv1s hv2 h1 h2 ha hb hmp hva hgx hgy hlx hly hu hm1 hm2 hx hxf hx0 hx1
        generalize ifO (jnL fs gs x y) = r at *
        generalize y.num = yn at *
        generalize (y.den : Int) = yd at *
        generalize x.num = xn at *
        generalize (x.den : Int) = xd at *
        cases r with
        | none =>
          go_enter Try.func17, Try.ntmps17
          go_wp2_with (first
            | (go_at_call 42; (with_reducible refine ((unhide HV2) _ (own_below (unhide HB) ?pb)).mono ?_); (case pb => exact (by repeat (first | with_reducible exact Below.refl _ _ | with_reducible assumption | (with_reducible refine Below.trans ?_ (Below.mono (by assumption) (by first | omega | (simp <;> omega)))) | with_reducible apply Below.drew | with_reducible apply below_drewN | (with_reducible refine Below.alloc ?_ (by first | omega | (simp <;> omega)) _) | (with_reducible refine Below.setCell ?_ (by first | omega | (simp <;> omega)) _)))); rintro e w2 ⟨rfl, hbw2⟩; have hs2 := hbw2.size; (try simp at hs2); (skip; (try ((have kw2w0 := (bnew hbw2) (w.heap.size) ?pf); (case pf => (first | omega | (simp; done) | (simp; omega))); obtain ⟨kcw2w0, kfw2w0, klw2w0⟩ := kw2w0)); (try ((have kw2w10 := (bnew hbw2) (w1.heap.size) ?pf); (case pf => (first | omega | (simp; done) | (simp; omega))); obtain ⟨kcw2w10, kfw2w10, klw2w10⟩ := kw2w10))))
            | (go_at_call 42; (with_reducible refine ((unhide HV1) _ (own_below (unhide HA) ?pb)).mono ?_); (case pb => exact (by repeat (first | with_reducible exact Below.refl _ _ | with_reducible assumption | (with_reducible refine Below.trans ?_ (Below.mono (by assumption) (by first | omega | (simp <;> omega)))) | with_reducible apply Below.drew | with_reducible apply below_drewN | (with_reducible refine Below.alloc ?_ (by first | omega | (simp <;> omega)) _) | (with_reducible refine Below.setCell ?_ (by first | omega | (simp <;> omega)) _)))); rintro e w1 ⟨rfl, hbw1⟩; have hs1 := hbw1.size; (try simp at hs1); (skip; (try ((have kw1w0 := (bnew hbw1) (w.heap.size) ?pf); (case pf => (first | omega | (simp; done) | (simp; omega))); obtain ⟨kcw1w0, kfw1w0, klw1w0⟩ := kw1w0))))
            | (go_at_call 43; (with_reducible refine ((unhide HMP) _ (own_below (unhide HA) ?pb) (own_below (unhide HB) ?pc)).mono ?_); (case pb => exact (by repeat (first | with_reducible exact Below.refl _ _ | with_reducible assumption | (with_reducible refine Below.trans ?_ (Below.mono (by assumption) (by first | omega | (simp <;> omega)))) | with_reducible apply Below.drew | with_reducible apply below_drewN | (with_reducible refine Below.alloc ?_ (by first | omega | (simp <;> omega)) _) | (with_reducible refine Below.setCell ?_ (by first | omega | (simp <;> omega)) _)))); (case pc => exact (by repeat (first | with_reducible exact Below.refl _ _ | with_reducible assumption | (with_reducible refine Below.trans ?_ (Below.mono (by assumption) (by first | omega | (simp <;> omega)))) | with_reducible apply Below.drew | with_reducible apply below_drewN | (with_reducible refine Below.alloc ?_ (by first | omega | (simp <;> omega)) _) | (with_reducible refine Below.setCell ?_ (by first | omega | (simp <;> omega)) _)))); rintro e w5 ⟨hpt, hbw5⟩; obtain rfl := hpt.2 rfl; clear hpt))
          go_ret2
          exact ⟨gives_pt ⟨fun l h => (by cases h), fun _ => rfl⟩, (by repeat (first | with_reducible exact Below.refl _ _ | with_reducible assumption | (with_reducible refine Below.trans ?_ (Below.mono (by assumption) (by first | omega | (simp <;> omega)))) | with_reducible apply Below.drew | with_reducible apply below_drewN | (with_reducible refine Below.alloc ?_ (by first | omega | (simp <;> omega)) _) | (with_reducible refine Below.setCell ?_ (by first | omega | (simp <;> omega)) _)))⟩
        | some l =>
          go_enter Try.func17, Try.ntmps17
          go_wp2_with (first
            | (go_at_call 42; (with_reducible refine ((unhide HV2) _ (own_below (unhide HB) ?pb)).mono ?_); (case pb => exact (by repeat (first | with_reducible exact Below.refl _ _ | with_reducible assumption | (with_reducible refine Below.trans ?_ (Below.mono (by assumption) (by first | omega | (simp <;> omega)))) | with_reducible apply Below.drew | with_reducible apply below_drewN | (with_reducible refine Below.alloc ?_ (by first | omega | (simp <;> omega)) _) | (with_reducible refine Below.setCell ?_ (by first | omega | (simp <;> omega)) _)))); rintro e w2 ⟨rfl, hbw2⟩; have hs2 := hbw2.size; (try simp at hs2); (skip; (try ((have kw2w0 := (bnew hbw2) (w.heap.size) ?pf); (case pf => (first | omega | (simp; done) | (simp; omega))); obtain ⟨kcw2w0, kfw2w0, klw2w0⟩ := kw2w0)); (try ((have kw2w10 := (bnew hbw2) (w1.heap.size) ?pf); (case pf => (first | omega | (simp; done) | (simp; omega))); obtain ⟨kcw2w10, kfw2w10, klw2w10⟩ := kw2w10))))
            | (go_at_call 42; (with_reducible refine ((unhide HV1) _ (own_below (unhide HA) ?pb)).mono ?_); (case pb => exact (by repeat (first | with_reducible exact Below.refl _ _ | with_reducible assumption | (with_reducible refine Below.trans ?_ (Below.mono (by assumption) (by first | omega | (simp <;> omega)))) | with_reducible apply Below.drew | with_reducible apply below_drewN | (with_reducible refine Below.alloc ?_ (by first | omega | (simp <;> omega)) _) | (with_reducible refine Below.setCell ?_ (by first | omega | (simp <;> omega)) _)))); rintro e w1 ⟨rfl, hbw1⟩; have hs1 := hbw1.size; (try simp at hs1); (skip; (try ((have kw1w0 := (bnew hbw1) (w.heap.size) ?pf); (case pf => (first | omega | (simp; done) | (simp; omega))); obtain ⟨kcw1w0, kfw1w0, klw1w0⟩ := kw1w0))))
            | (go_at_call 43; (with_reducible refine ((unhide HMP) _ (own_below (unhide HA) ?pb) (own_below (unhide HB) ?pc)).mono ?_); (case pb => exact (by repeat (first | with_reducible exact Below.refl _ _ | with_reducible assumption | (with_reducible refine Below.trans ?_ (Below.mono (by assumption) (by first | omega | (simp <;> omega)))) | with_reducible apply Below.drew | with_reducible apply below_drewN | (with_reducible refine Below.alloc ?_ (by first | omega | (simp <;> omega)) _) | (with_reducible refine Below.setCell ?_ (by first | omega | (simp <;> omega)) _)))); (case pc => exact (by repeat (first | with_reducible exact Below.refl _ _ | with_reducible assumption | (with_reducible refine Below.trans ?_ (Below.mono (by assumption) (by first | omega | (simp <;> omega)))) | with_reducible apply Below.drew | with_reducible apply below_drewN | (with_reducible refine Below.alloc ?_ (by first | omega | (simp <;> omega)) _) | (with_reducible refine Below.setCell ?_ (by first | omega | (simp <;> omega)) _)))); rintro e w5 ⟨hpt, hbw5⟩; obtain ⟨A3, d3, rfl, ho3⟩ := hpt.1 l rfl; clear hpt; have HO3 := hide ho3; clear ho3))
          go_ret2
          exact ⟨gives_pt ⟨fun l h => (by injection h with h; subst h; exact ⟨A3, d3, rfl, (unhide HO3).mono (by simp; omega)⟩), fun h => (by cases h)⟩, (by repeat (first | with_reducible exact Below.refl _ _ | with_reducible assumption | (with_reducible refine Below.trans ?_ (Below.mono (by assumption) (by first | omega | (simp <;> omega)))) | with_reducible apply Below.drew | with_reducible apply below_drewN | (with_reducible refine Below.alloc ?_ (by first | omega | (simp <;> omega)) _) | (with_reducible refine Below.setCell ?_ (by first | omega | (simp <;> omega)) _)))⟩
      · rw [jnM_ne h1 h2 hc]
        have hne : ¬ y.num = z.num ∨ (y.num = z.num ∧ ¬ (y.den : Int) = (z.den : Int)) := by
          by_cases e1 : y.num = z.num
          · refine .inr ⟨e1, fun e2 => hc ?_⟩
            exact Rat.ext e1 (by omega)
          · exact .inl e1
        clear hv1 hv1s hv2 h1 h2 ha hb hc
        generalize y.num = yn at *
        generalize (y.den : Int) = yd at *
        generalize z.num = zn at *
        generalize (z.den : Int) = zd at *
        rcases hne with hne | ⟨rfl, hne⟩
        all_goals
          go_enter Try.func17, Try.ntmps17
          go_wp2_with (first
            | (go_at_call 42; (with_reducible refine ((unhide HV2) _ (own_below (unhide HB) ?pb)).mono ?_); (case pb => exact (by repeat (first | with_reducible exact Below.refl _ _ | with_reducible assumption | (with_reducible refine Below.trans ?_ (Below.mono (by assumption) (by first | omega | (simp <;> omega)))) | with_reducible apply Below.drew | with_reducible apply below_drewN | (with_reducible refine Below.alloc ?_ (by first | omega | (simp <;> omega)) _) | (with_reducible refine Below.setCell ?_ (by first | omega | (simp <;> omega)) _)))); rintro e w2 ⟨rfl, hbw2⟩; have hs2 := hbw2.size; (try simp at hs2); (skip; (try ((have kw2w0 := (bnew hbw2) (w.heap.size) ?pf); (case pf => (first | omega | (simp; done) | (simp; omega))); obtain ⟨kcw2w0, kfw2w0, klw2w0⟩ := kw2w0)); (try ((have kw2w10 := (bnew hbw2) (w1.heap.size) ?pf); (case pf => (first | omega | (simp; done) | (simp; omega))); obtain ⟨kcw2w10, kfw2w10, klw2w10⟩ := kw2w10))))
            | (go_at_call 42; (with_reducible refine ((unhide HV1) _ (own_below (unhide HA) ?pb)).mono ?_); (case pb => exact (by repeat (first | with_reducible exact Below.refl _ _ | with_reducible assumption | (with_reducible refine Below.trans ?_ (Below.mono (by assumption) (by first | omega | (simp <;> omega)))) | with_reducible apply Below.drew | with_reducible apply below_drewN | (with_reducible refine Below.alloc ?_ (by first | omega | (simp <;> omega)) _) | (with_reducible refine Below.setCell ?_ (by first | omega | (simp <;> omega)) _)))); rintro e w1 ⟨rfl, hbw1⟩; have hs1 := hbw1.size; (try simp at hs1); (skip; (try ((have kw1w0 := (bnew hbw1) (w.heap.size) ?pf); (case pf => (first | omega | (simp; done) | (simp; omega))); obtain ⟨kcw1w0, kfw1w0, klw1w0⟩ := kw1w0)))))
          go_ret2
          exact ⟨gives_pt ⟨fun l h => (by cases h), fun _ => rfl⟩, (by repeat (first | with_reducible exact Below.refl _ _ | with_reducible assumption | (with_reducible refine Below.trans ?_ (Below.mono (by assumption) (by first | omega | (simp <;> omega)))) | with_reducible apply Below.drew | with_reducible apply below_drewN | (with_reducible refine Below.alloc ?_ (by first | omega | (simp <;> omega)) _) | (with_reducible refine Below.setCell ?_ (by first | omega | (simp <;> omega)) _)))⟩
end Go.Proofs.Ytgkbogcmmedmbaa

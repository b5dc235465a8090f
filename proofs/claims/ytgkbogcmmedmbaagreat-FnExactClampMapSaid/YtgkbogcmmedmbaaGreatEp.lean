/-
  Chapter 5: ClampMap of the program.
-/
import Derived.Test.YtgkbogcmmedmbaaGreatEc
import Derived.Test.YtgkbogcmmedmbaaGreatEd
import Derived.Test.YtgkbogcmmedmbaaGreatDa
import Derived.Test.YtgkbogcmmedmbaaGreatDe
namespace Go.Proofs.YtgkbogcmmedmbaaGreat
open Go.RowKit Rm

def clO (fs : List QP) (lo hi : Rat) : Option (List QP) := (ctP fs lo hi).bind fun l => mmO (srt l) (vct fs lo hi)
def clP (ps : List Pt) (a b p q : Int) : Option (List QP) := if mapB ps && (uB a b && (uB p q && decide (¬ Rat.divInt p q < Rat.divInt a b))) then clO (dec ps) (Rat.divInt a b) (Rat.divInt p q) else none
theorem clP_no {ps : List Pt} {a b p q : Int} (h : mapB ps = false ∨ uB a b = false ∨ uB p q = false) : clP ps a b p q = none := by
  unfold clP
  rw [if_neg]
  rcases h with h | h | h <;> simp [h]
theorem clP_gt {ps : List Pt} {lo hi : Rat} (h : hi < lo) : clP ps lo.num lo.den hi.num hi.den = none := by
  unfold clP
  rw [Rat.num_divInt_den, Rat.num_divInt_den, if_neg]
  simp [h]
theorem clP_yes {fs : List QP} {lo hi : Rat} (hF : GMap fs) (hl : Un lo) (hh : Un hi) (h : ¬ hi < lo) : clP (fs.map qp) lo.num lo.den hi.num hi.den = clO fs lo hi := by
  unfold clP
  rw [Rat.num_divInt_den, Rat.num_divInt_den, hF.mapB, uB_of hl, uB_of hh, decide_eq_true h, dec_qp]
  rfl
theorem clO_len (fs : List QP) (lo hi : Rat) (l : List QP) (h : clO fs lo hi = some l) : l.length ≤ 12 := by
  unfold clO at h
  cases hc : ctP fs lo hi with
  | none => rw [hc] at h; cases h
  | some x => rw [hc] at h; exact mmO_len h
theorem ClampMap_len (ps : List Pt) (a b p q : Int) : (((clP ps a b p q).getD []).map qp).length ≤ 1048576 := by
  rw [List.length_map]
  cases h : clP ps a b p q with
  | none => simp
  | some l =>
    unfold clP at h
    split at h
    · have := clO_len _ _ _ _ h
      simp only [Option.getD_some]; omega
    · cases h
theorem ct_pl {fs : List QP} {lo hi : Rat} (hF : GMap fs) {l : List Rat} (h : ctP fs lo hi = some l) : Pl (srt l) ∧ 1 ≤ l.length ∧ l.length ≤ 36 := by
  unfold ctP at h
  cases hb : bK (bqO fs) [lo, hi] 2 with
  | none => rw [hb] at h; cases h
  | some b =>
    rw [hb] at h
    injection h with h
    subst h
    have h1 := bK_len (N := 12) (bqO_len hF) hb
    have h2 := hF.hi
    have h3 := hF.lo
    refine ⟨srt_pl (fun x hx => ?_) (by simp [xsOf_zero hF]) (by simp [xsOf_one hF]), by rw [List.length_append, xsOf_len]; omega, by rw [List.length_append, xsOf_len]; omega⟩
    rcases List.mem_append.1 hx with h | h
    · exact xsOf_un hF x h
    · exact bK_all (p := Un) (bqO_un hF) hb x h
theorem cut_map (gf mf cf bf : Nat) (fs : List QP) (lo hi : Rat) (w : World) (hf : w.ownsRow bf 50 4 (.slice (some ⟨gf, 0, none⟩) (mf + 1) cf) (mf + 1) (ptcs (fs.map qp))) (hF : GMap fs) (hlo : Un lo) (hhi : Un hi) :
    Calls Tryz.prog 35 #[.iface 81 (.agg #[.slice (some ⟨gf, 0, none⟩) (mf + 1) cf, .int .i64 lo.num, .int .i64 lo.den, .int .i64 hi.num, .int .i64 hi.den])] w fun e w' => PtO w.heap.size (clO fs lo hi) e w' ∧ Below w.heap.size w w' := by
  have h := map_cut (.agg #[.slice (some ⟨gf, 0, none⟩) (mf + 1) cf, .int .i64 lo.num, .int .i64 lo.den, .int .i64 hi.num, .int .i64 hi.den]) (ctP fs lo hi) (vct fs lo hi) w
    (fun l hl => by
      obtain ⟨h1, h2, h3⟩ := ct_pl hF hl
      exact ⟨fun x hx => h1.un x (srt_mem.2 hx), h2, by omega⟩)
    (fun l hl => pm_smap (fun l hl => by obtain ⟨h1, h2, h3⟩ := ct_pl hF hl; exact ⟨h1, by omega⟩) hl)
    (hide fun W hW => placesCt_any gf mf cf bf fs lo hi W (own_below hf hW) hF hlo hhi)
    (hide fun x hx W hW => valueCt_any gf mf cf bf fs lo hi x W (own_below hf hW) hF hlo hhi hx)
  rw [pm_mm] at h
  exact h

set_option maxRecDepth 100000 in
set_option maxHeartbeats 3200000 in
theorem iClampMap_any (A : Option Addr) (n c b1 : Nat) (ps : List Pt) (a b p q : Int) (w : World) (ha : w.ownsRow b1 50 4 (.slice A n c) n (ptcs ps)) (hn : n ≤ 1048576) :
    Calls Tryz.prog 30 #[.slice A n c, .agg #[.int .i64 (a), .int .i64 (b)], .agg #[.int .i64 (p), .int .i64 (q)]] w fun e w' => GivesP w.heap.size (((clP ps a b p q).getD []).map qp) (clP ps a b p q).isSome e w' ∧ Below w.heap.size w w' := by
  have hm1 := fun W hW => isMap_any A n c b1 ps W hW hn
  have hu1 := fun W => isUnit_any a b W
  have hu2 := fun W => isUnit_any p q W
  cases h1 : mapB ps with
  | false =>
    rw [clP_no (.inl h1)]
    rw [h1] at hm1
    have HM := hide hm1; have HA := hide ha
    clear hm1 h1 ha hu1 hu2
    go_enter Tryz.func30, Tryz.ntmps30
    go_wp2_with (go_at_call 34; (with_reducible refine ((unhide HM) _ (own_below (unhide HA) ?pb)).mono ?_); (case pb => exact (by repeat (first | with_reducible exact Below.refl _ _ | with_reducible assumption | (with_reducible refine Below.trans ?_ (Below.mono (by assumption) (by first | omega | (simp <;> omega)))) | with_reducible apply Below.drew | with_reducible apply below_drewN | (with_reducible refine Below.alloc ?_ (by first | omega | (simp <;> omega)) _) | (with_reducible refine Below.setCell ?_ (by first | omega | (simp <;> omega)) _)))); rintro e w1 ⟨rfl, hbw1⟩; have hs1 := hbw1.size; (try simp at hs1); (skip; (try ((have kw1w0 := (bnew hbw1) (w.heap.size) ?pf); (case pf => (first | omega | (simp; done) | (simp; omega))); obtain ⟨kcw1w0, kfw1w0, klw1w0⟩ := kw1w0)); (try ((have kw1w1 := (bnew hbw1) (w.heap.size + 1) ?pf); (case pf => (first | omega | (simp; done) | (simp; omega))); obtain ⟨kcw1w1, kfw1w1, klw1w1⟩ := kw1w1))))
    go_ret2
    exact ⟨gives_pt ⟨fun l h => (by cases h), fun _ => rfl⟩, (by repeat (first | with_reducible exact Below.refl _ _ | with_reducible assumption | (with_reducible refine Below.trans ?_ (Below.mono (by assumption) (by first | omega | (simp <;> omega)))) | with_reducible apply Below.drew | with_reducible apply below_drewN | (with_reducible refine Below.alloc ?_ (by first | omega | (simp <;> omega)) _) | (with_reducible refine Below.setCell ?_ (by first | omega | (simp <;> omega)) _)))⟩
  | true =>
    rw [h1] at hm1
    have HM := hide hm1; have HA := hide ha; clear hm1
    cases h2 : uB a b with
    | false =>
      rw [clP_no (.inr (.inl h2))]
      rw [h2] at hu1
      have HU1 := hide hu1
      clear h1 h2 ha hu1 hu2
      go_enter Tryz.func30, Tryz.ntmps30
      go_wp2_with (first
        | (go_at_call 34; (with_reducible refine ((unhide HM) _ (own_below (unhide HA) ?pb)).mono ?_); (case pb => exact (by repeat (first | with_reducible exact Below.refl _ _ | with_reducible assumption | (with_reducible refine Below.trans ?_ (Below.mono (by assumption) (by first | omega | (simp <;> omega)))) | with_reducible apply Below.drew | with_reducible apply below_drewN | (with_reducible refine Below.alloc ?_ (by first | omega | (simp <;> omega)) _) | (with_reducible refine Below.setCell ?_ (by first | omega | (simp <;> omega)) _)))); rintro e w1 ⟨rfl, hbw1⟩; have hs1 := hbw1.size; (try simp at hs1); (skip; (try ((have kw1w0 := (bnew hbw1) (w.heap.size) ?pf); (case pf => (first | omega | (simp; done) | (simp; omega))); obtain ⟨kcw1w0, kfw1w0, klw1w0⟩ := kw1w0)); (try ((have kw1w1 := (bnew hbw1) (w.heap.size + 1) ?pf); (case pf => (first | omega | (simp; done) | (simp; omega))); obtain ⟨kcw1w1, kfw1w1, klw1w1⟩ := kw1w1))))
        | (go_at_call 56; (with_reducible refine ((unhide HU1) _).mono ?_); rintro e w2 ⟨rfl, hbw2⟩; obtain ⟨hcw2, hfw2⟩ := bcell hbw2; have hzw2 := hbw2.size; (try simp at hzw2); (try ((have kw2w0 := (bnew hbw2) (w.heap.size) ?pf); (case pf => (first | omega | (simp; done) | (simp; omega))); obtain ⟨kcw2w0, kfw2w0, klw2w0⟩ := kw2w0)); (try ((have kw2w1 := (bnew hbw2) (w.heap.size + 1) ?pf); (case pf => (first | omega | (simp; done) | (simp; omega))); obtain ⟨kcw2w1, kfw2w1, klw2w1⟩ := kw2w1))))
      go_ret2
      exact ⟨gives_pt ⟨fun l h => (by cases h), fun _ => rfl⟩, (by repeat (first | with_reducible exact Below.refl _ _ | with_reducible assumption | (with_reducible refine Below.trans ?_ (Below.mono (by assumption) (by first | omega | (simp <;> omega)))) | with_reducible apply Below.drew | with_reducible apply below_drewN | (with_reducible refine Below.alloc ?_ (by first | omega | (simp <;> omega)) _) | (with_reducible refine Below.setCell ?_ (by first | omega | (simp <;> omega)) _)))⟩
    | true =>
      cases h3 : uB p q with
      | false =>
        rw [clP_no (.inr (.inr h3))]
        rw [h2] at hu1
        rw [h3] at hu2
        have HU1 := hide hu1; have HU2 := hide hu2
        clear h1 h2 h3 ha hu1 hu2
        go_enter Tryz.func30, Tryz.ntmps30
        go_wp2_with (first
          | (go_at_call 34; (with_reducible refine ((unhide HM) _ (own_below (unhide HA) ?pb)).mono ?_); (case pb => exact (by repeat (first | with_reducible exact Below.refl _ _ | with_reducible assumption | (with_reducible refine Below.trans ?_ (Below.mono (by assumption) (by first | omega | (simp <;> omega)))) | with_reducible apply Below.drew | with_reducible apply below_drewN | (with_reducible refine Below.alloc ?_ (by first | omega | (simp <;> omega)) _) | (with_reducible refine Below.setCell ?_ (by first | omega | (simp <;> omega)) _)))); rintro e w1 ⟨rfl, hbw1⟩; have hs1 := hbw1.size; (try simp at hs1); (skip; (try ((have kw1w0 := (bnew hbw1) (w.heap.size) ?pf); (case pf => (first | omega | (simp; done) | (simp; omega))); obtain ⟨kcw1w0, kfw1w0, klw1w0⟩ := kw1w0)); (try ((have kw1w1 := (bnew hbw1) (w.heap.size + 1) ?pf); (case pf => (first | omega | (simp; done) | (simp; omega))); obtain ⟨kcw1w1, kfw1w1, klw1w1⟩ := kw1w1))))
          | (go_at_call 56; have _t := hbw2; clear _t; (with_reducible refine ((unhide HU2) _).mono ?_); rintro e w3 ⟨rfl, hbw3⟩; obtain ⟨hcw3, hfw3⟩ := bcell hbw3; have hzw3 := hbw3.size; (try simp at hzw3); (try ((have kw3w0 := (bnew hbw3) (w.heap.size) ?pf); (case pf => (first | omega | (simp; done) | (simp; omega))); obtain ⟨kcw3w0, kfw3w0, klw3w0⟩ := kw3w0)); (try ((have kw3w1 := (bnew hbw3) (w.heap.size + 1) ?pf); (case pf => (first | omega | (simp; done) | (simp; omega))); obtain ⟨kcw3w1, kfw3w1, klw3w1⟩ := kw3w1)))
          | (go_at_call 56; (with_reducible refine ((unhide HU1) _).mono ?_); rintro e w2 ⟨rfl, hbw2⟩; obtain ⟨hcw2, hfw2⟩ := bcell hbw2; have hzw2 := hbw2.size; (try simp at hzw2); (try ((have kw2w0 := (bnew hbw2) (w.heap.size) ?pf); (case pf => (first | omega | (simp; done) | (simp; omega))); obtain ⟨kcw2w0, kfw2w0, klw2w0⟩ := kw2w0)); (try ((have kw2w1 := (bnew hbw2) (w.heap.size + 1) ?pf); (case pf => (first | omega | (simp; done) | (simp; omega))); obtain ⟨kcw2w1, kfw2w1, klw2w1⟩ := kw2w1))))
        go_ret2
        exact ⟨gives_pt ⟨fun l h => (by cases h), fun _ => rfl⟩, (by repeat (first | with_reducible exact Below.refl _ _ | with_reducible assumption | (with_reducible refine Below.trans ?_ (Below.mono (by assumption) (by first | omega | (simp <;> omega)))) | with_reducible apply Below.drew | with_reducible apply below_drewN | (with_reducible refine Below.alloc ?_ (by first | omega | (simp <;> omega)) _) | (with_reducible refine Below.setCell ?_ (by first | omega | (simp <;> omega)) _)))⟩
      | true =>
        rw [h2] at hu1
        rw [h3] at hu2
        obtain ⟨lo, rfl, rfl, hlof, hlo0, hlo1⟩ := uB_rat h2
        have hlo : Un lo := ⟨hlof, hlo0, hlo1⟩
        obtain ⟨hi, rfl, rfl, hhif, hhi0, hhi1⟩ := uB_rat h3
        have hhi : Un hi := ⟨hhif, hhi0, hhi1⟩
        have hor := fun W => orderOf_q lo hi hlo.fit hhi.fit W
        obtain ⟨g, m1, fs, rfl, rfl, rfl, hgf, hlf⟩ := own_form ha h1
        by_cases hc : hi < lo
        · have hcd : decide (0 < cq lo hi) = true := decide_eq_true (cq_gt.2 hc)
          rw [clP_gt hc]
          have HU1 := hide hu1; have HU2 := hide hu2; have HO := hide hor
          clear h1 h2 h3 ha hu1 hu2 hor hgf hlf hc hlo hhi hlof hlo0 hlo1 hhif hhi0 hhi1
          generalize cq lo hi = cz at *
          generalize lo.num = ln at *
          generalize (lo.den : Int) = ld at *
          generalize hi.num = hn' at *
          generalize (hi.den : Int) = hd' at *
          go_enter Tryz.func30, Tryz.ntmps30
          go_wp2_with (first
            | (go_at_call 34; (with_reducible refine ((unhide HM) _ (own_below (unhide HA) ?pb)).mono ?_); (case pb => exact (by repeat (first | with_reducible exact Below.refl _ _ | with_reducible assumption | (with_reducible refine Below.trans ?_ (Below.mono (by assumption) (by first | omega | (simp <;> omega)))) | with_reducible apply Below.drew | with_reducible apply below_drewN | (with_reducible refine Below.alloc ?_ (by first | omega | (simp <;> omega)) _) | (with_reducible refine Below.setCell ?_ (by first | omega | (simp <;> omega)) _)))); rintro e w1 ⟨rfl, hbw1⟩; have hs1 := hbw1.size; (try simp at hs1); (skip; (try ((have kw1w0 := (bnew hbw1) (w.heap.size) ?pf); (case pf => (first | omega | (simp; done) | (simp; omega))); obtain ⟨kcw1w0, kfw1w0, klw1w0⟩ := kw1w0)); (try ((have kw1w1 := (bnew hbw1) (w.heap.size + 1) ?pf); (case pf => (first | omega | (simp; done) | (simp; omega))); obtain ⟨kcw1w1, kfw1w1, klw1w1⟩ := kw1w1))))
            | (go_at_call 56; have _t := hbw2; clear _t; (with_reducible refine ((unhide HU2) _).mono ?_); rintro e w3 ⟨rfl, hbw3⟩; obtain ⟨hcw3, hfw3⟩ := bcell hbw3; have hzw3 := hbw3.size; (try simp at hzw3); (try ((have kw3w0 := (bnew hbw3) (w.heap.size) ?pf); (case pf => (first | omega | (simp; done) | (simp; omega))); obtain ⟨kcw3w0, kfw3w0, klw3w0⟩ := kw3w0)); (try ((have kw3w1 := (bnew hbw3) (w.heap.size + 1) ?pf); (case pf => (first | omega | (simp; done) | (simp; omega))); obtain ⟨kcw3w1, kfw3w1, klw3w1⟩ := kw3w1)))
            | (go_at_call 56; (with_reducible refine ((unhide HU1) _).mono ?_); rintro e w2 ⟨rfl, hbw2⟩; obtain ⟨hcw2, hfw2⟩ := bcell hbw2; have hzw2 := hbw2.size; (try simp at hzw2); (try ((have kw2w0 := (bnew hbw2) (w.heap.size) ?pf); (case pf => (first | omega | (simp; done) | (simp; omega))); obtain ⟨kcw2w0, kfw2w0, klw2w0⟩ := kw2w0)); (try ((have kw2w1 := (bnew hbw2) (w.heap.size + 1) ?pf); (case pf => (first | omega | (simp; done) | (simp; omega))); obtain ⟨kcw2w1, kfw2w1, klw2w1⟩ := kw2w1)))
            | (go_at_call 57; (with_reducible refine ((unhide HO) _).mono ?_); rintro e w4 ⟨rfl, hbw4⟩; obtain ⟨hcw4, hfw4⟩ := bcell hbw4; have hzw4 := hbw4.size; (try simp at hzw4); (try ((have kw4w0 := (bnew hbw4) (w.heap.size) ?pf); (case pf => (first | omega | (simp; done) | (simp; omega))); obtain ⟨kcw4w0, kfw4w0, klw4w0⟩ := kw4w0)); (try ((have kw4w1 := (bnew hbw4) (w.heap.size + 1) ?pf); (case pf => (first | omega | (simp; done) | (simp; omega))); obtain ⟨kcw4w1, kfw4w1, klw4w1⟩ := kw4w1))))
          go_ret2
          exact ⟨gives_pt ⟨fun l h => (by cases h), fun _ => rfl⟩, (by repeat (first | with_reducible exact Below.refl _ _ | with_reducible assumption | (with_reducible refine Below.trans ?_ (Below.mono (by assumption) (by first | omega | (simp <;> omega)))) | with_reducible apply Below.drew | with_reducible apply below_drewN | (with_reducible refine Below.alloc ?_ (by first | omega | (simp <;> omega)) _) | (with_reducible refine Below.setCell ?_ (by first | omega | (simp <;> omega)) _)))⟩
        · have hcd : decide (0 < cq lo hi) = false := decide_eq_false (fun h => hc (cq_gt.1 h))
          rw [clP_yes hgf hlo hhi hc]
          have hmp := fun W hW => cut_map g m1 c b1 fs lo hi W hW hgf hlo hhi
          have HU1 := hide hu1; have HU2 := hide hu2; have HO := hide hor; have HMP := hide hmp
          clear h1 h2 h3 ha hu1 hu2 hor hmp hgf hlf hc hlo hhi hlof hlo0 hlo1 hhif hhi0 hhi1
          generalize clO fs lo hi = r at *
          generalize cq lo hi = cz at *
          generalize lo.num = ln at *
          generalize (lo.den : Int) = ld at *
          generalize hi.num = hn' at *
          generalize (hi.den : Int) = hd' at *
          cases r with
          | none =>
            go_enter Tryz.func30, Tryz.ntmps30
            go_wp2_with (first
              | (go_at_call 34; (with_reducible refine ((unhide HM) _ (own_below (unhide HA) ?pb)).mono ?_); (case pb => exact (by repeat (first | with_reducible exact Below.refl _ _ | with_reducible assumption | (with_reducible refine Below.trans ?_ (Below.mono (by assumption) (by first | omega | (simp <;> omega)))) | with_reducible apply Below.drew | with_reducible apply below_drewN | (with_reducible refine Below.alloc ?_ (by first | omega | (simp <;> omega)) _) | (with_reducible refine Below.setCell ?_ (by first | omega | (simp <;> omega)) _)))); rintro e w1 ⟨rfl, hbw1⟩; have hs1 := hbw1.size; (try simp at hs1); (skip; (try ((have kw1w0 := (bnew hbw1) (w.heap.size) ?pf); (case pf => (first | omega | (simp; done) | (simp; omega))); obtain ⟨kcw1w0, kfw1w0, klw1w0⟩ := kw1w0)); (try ((have kw1w1 := (bnew hbw1) (w.heap.size + 1) ?pf); (case pf => (first | omega | (simp; done) | (simp; omega))); obtain ⟨kcw1w1, kfw1w1, klw1w1⟩ := kw1w1))))
              | (go_at_call 56; have _t := hbw2; clear _t; (with_reducible refine ((unhide HU2) _).mono ?_); rintro e w3 ⟨rfl, hbw3⟩; obtain ⟨hcw3, hfw3⟩ := bcell hbw3; have hzw3 := hbw3.size; (try simp at hzw3); (try ((have kw3w0 := (bnew hbw3) (w.heap.size) ?pf); (case pf => (first | omega | (simp; done) | (simp; omega))); obtain ⟨kcw3w0, kfw3w0, klw3w0⟩ := kw3w0)); (try ((have kw3w1 := (bnew hbw3) (w.heap.size + 1) ?pf); (case pf => (first | omega | (simp; done) | (simp; omega))); obtain ⟨kcw3w1, kfw3w1, klw3w1⟩ := kw3w1)))
              | (go_at_call 56; (with_reducible refine ((unhide HU1) _).mono ?_); rintro e w2 ⟨rfl, hbw2⟩; obtain ⟨hcw2, hfw2⟩ := bcell hbw2; have hzw2 := hbw2.size; (try simp at hzw2); (try ((have kw2w0 := (bnew hbw2) (w.heap.size) ?pf); (case pf => (first | omega | (simp; done) | (simp; omega))); obtain ⟨kcw2w0, kfw2w0, klw2w0⟩ := kw2w0)); (try ((have kw2w1 := (bnew hbw2) (w.heap.size + 1) ?pf); (case pf => (first | omega | (simp; done) | (simp; omega))); obtain ⟨kcw2w1, kfw2w1, klw2w1⟩ := kw2w1)))
              | (go_at_call 57; (with_reducible refine ((unhide HO) _).mono ?_); rintro e w4 ⟨rfl, hbw4⟩; obtain ⟨hcw4, hfw4⟩ := bcell hbw4; have hzw4 := hbw4.size; (try simp at hzw4); (try ((have kw4w0 := (bnew hbw4) (w.heap.size) ?pf); (case pf => (first | omega | (simp; done) | (simp; omega))); obtain ⟨kcw4w0, kfw4w0, klw4w0⟩ := kw4w0)); (try ((have kw4w1 := (bnew hbw4) (w.heap.size + 1) ?pf); (case pf => (first | omega | (simp; done) | (simp; omega))); obtain ⟨kcw4w1, kfw4w1, klw4w1⟩ := kw4w1)))
              | (go_at_call 35; (with_reducible refine ((unhide HMP) _ (own_below (unhide HA) ?pb)).mono ?_); (case pb => exact (by repeat (first | with_reducible exact Below.refl _ _ | with_reducible assumption | (with_reducible refine Below.trans ?_ (Below.mono (by assumption) (by first | omega | (simp <;> omega)))) | with_reducible apply Below.drew | with_reducible apply below_drewN | (with_reducible refine Below.alloc ?_ (by first | omega | (simp <;> omega)) _) | (with_reducible refine Below.setCell ?_ (by first | omega | (simp <;> omega)) _)))); rintro e w5 ⟨hpt, hbw5⟩; obtain rfl := hpt.2 rfl; clear hpt))
            go_ret2
            exact ⟨gives_pt ⟨fun l h => (by cases h), fun _ => rfl⟩, (by repeat (first | with_reducible exact Below.refl _ _ | with_reducible assumption | (with_reducible refine Below.trans ?_ (Below.mono (by assumption) (by first | omega | (simp <;> omega)))) | with_reducible apply Below.drew | with_reducible apply below_drewN | (with_reducible refine Below.alloc ?_ (by first | omega | (simp <;> omega)) _) | (with_reducible refine Below.setCell ?_ (by first | omega | (simp <;> omega)) _)))⟩
          | some l =>
            go_enter Tryz.func30, Tryz.ntmps30
            go_wp2_with (first
              | (go_at_call 34; (with_reducible refine ((unhide HM) _ (own_below (unhide HA) ?pb)).mono ?_); (case pb => exact (by repeat (first | with_reducible exact Below.refl _ _ | with_reducible assumption | (with_reducible refine Below.trans ?_ (Below.mono (by assumption) (by first | omega | (simp <;> omega)))) | with_reducible apply Below.drew | with_reducible apply below_drewN | (with_reducible refine Below.alloc ?_ (by first | omega | (simp <;> omega)) _) | (with_reducible refine Below.setCell ?_ (by first | omega | (simp <;> omega)) _)))); rintro e w1 ⟨rfl, hbw1⟩; have hs1 := hbw1.size; (try simp at hs1); (skip; (try ((have kw1w0 := (bnew hbw1) (w.heap.size) ?pf); (case pf => (first | omega | (simp; done) | (simp; omega))); obtain ⟨kcw1w0, kfw1w0, klw1w0⟩ := kw1w0)); (try ((have kw1w1 := (bnew hbw1) (w.heap.size + 1) ?pf); (case pf => (first | omega | (simp; done) | (simp; omega))); obtain ⟨kcw1w1, kfw1w1, klw1w1⟩ := kw1w1))))
              | (go_at_call 56; have _t := hbw2; clear _t; (with_reducible refine ((unhide HU2) _).mono ?_); rintro e w3 ⟨rfl, hbw3⟩; obtain ⟨hcw3, hfw3⟩ := bcell hbw3; have hzw3 := hbw3.size; (try simp at hzw3); (try ((have kw3w0 := (bnew hbw3) (w.heap.size) ?pf); (case pf => (first | omega | (simp; done) | (simp; omega))); obtain ⟨kcw3w0, kfw3w0, klw3w0⟩ := kw3w0)); (try ((have kw3w1 := (bnew hbw3) (w.heap.size + 1) ?pf); (case pf => (first | omega | (simp; done) | (simp; omega))); obtain ⟨kcw3w1, kfw3w1, klw3w1⟩ := kw3w1)))
              | (go_at_call 56; (with_reducible refine ((unhide HU1) _).mono ?_); rintro e w2 ⟨rfl, hbw2⟩; obtain ⟨hcw2, hfw2⟩ := bcell hbw2; have hzw2 := hbw2.size; (try simp at hzw2); (try ((have kw2w0 := (bnew hbw2) (w.heap.size) ?pf); (case pf => (first | omega | (simp; done) | (simp; omega))); obtain ⟨kcw2w0, kfw2w0, klw2w0⟩ := kw2w0)); (try ((have kw2w1 := (bnew hbw2) (w.heap.size + 1) ?pf); (case pf => (first | omega | (simp; done) | (simp; omega))); obtain ⟨kcw2w1, kfw2w1, klw2w1⟩ := kw2w1)))
              | (go_at_call 57; (with_reducible refine ((unhide HO) _).mono ?_); rintro e w4 ⟨rfl, hbw4⟩; obtain ⟨hcw4, hfw4⟩ := bcell hbw4; have hzw4 := hbw4.size; (try simp at hzw4); (try ((have kw4w0 := (bnew hbw4) (w.heap.size) ?pf); (case pf => (first | omega | (simp; done) | (simp; omega))); obtain ⟨kcw4w0, kfw4w0, klw4w0⟩ := kw4w0)); (try ((have kw4w1 := (bnew hbw4) (w.heap.size + 1) ?pf); (case pf => (first | omega | (simp; done) | (simp; omega))); obtain ⟨kcw4w1, kfw4w1, klw4w1⟩ := kw4w1)))
              | (go_at_call 35; (with_reducible refine ((unhide HMP) _ (own_below (unhide HA) ?pb)).mono ?_); (case pb => exact (by repeat (first | with_reducible exact Below.refl _ _ | with_reducible assumption | (with_reducible refine Below.trans ?_ (Below.mono (by assumption) (by first | omega | (simp <;> omega)))) | with_reducible apply Below.drew | with_reducible apply below_drewN | (with_reducible refine Below.alloc ?_ (by first | omega | (simp <;> omega)) _) | (with_reducible refine Below.setCell ?_ (by first | omega | (simp <;> omega)) _)))); rintro e w5 ⟨hpt, hbw5⟩; obtain ⟨A3, d3, rfl, ho3⟩ := hpt.1 l rfl; clear hpt; have HO3 := hide ho3; clear ho3))
            go_ret2
            exact ⟨gives_pt ⟨fun l h => (by injection h with h; subst h; exact ⟨A3, d3, rfl, (unhide HO3).mono (by omega)⟩), fun h => (by cases h)⟩, (by repeat (first | with_reducible exact Below.refl _ _ | with_reducible assumption | (with_reducible refine Below.trans ?_ (Below.mono (by assumption) (by first | omega | (simp <;> omega)))) | with_reducible apply Below.drew | with_reducible apply below_drewN | (with_reducible refine Below.alloc ?_ (by first | omega | (simp <;> omega)) _) | (with_reducible refine Below.setCell ?_ (by first | omega | (simp <;> omega)) _)))⟩
end Go.Proofs.YtgkbogcmmedmbaaGreat

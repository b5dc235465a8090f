/-
  Chapter 4: OrbitDistance of the model.
-/
import Derived.Test.YtmkejopkmdcfeaaOg
namespace Go.Proofs.Ytmkejopkmdcfeaa
open Go.RowKit Rm

theorem orbO_map {qs : List QP} {x : Rat} {k : Nat} (hg : GMap qs) (hx : Un x) (hk : k ≤ 60) : orbO (qs.map qp) x.num x.den k = if (run qs k x).length = k + 1 then some (run qs k x) else none := by
  unfold orbO
  rw [runO_map hg hx hk]
  rfl

set_option maxRecDepth 100000 in
set_option maxHeartbeats 6400000 in
theorem sOrbitDistance_any (A : Option Addr) (n c base : Nat) (ps : List Pt) (a b p q m : Int) (w : World) (ha : w.ownsRow base 65 4 (.slice A n c) n (ptcs ps)) (hn : n ≤ 1048576) :
    Calls Try.prog 36 #[.slice A n c, .agg #[.int .i64 (a), .int .i64 (b)], .agg #[.int .i64 (p), .int .i64 (q)], .int .i64 m] w fun e w' => e = .returned (.tuple #[.agg #[.int .i64 (oN (dsO ps a b p q m)), .int .i64 (oD (dsO ps a b p q m))], .bool (dsO ps a b p q m).isSome]) ∧ Below w.heap.size w w' := by
  have hask := fun W hW => orAsked_any A n c base ps a b m W hW hn
  have hun := fun W => raUnit_any p q W
  rcases orb_cases ps a b m with ⟨h1, h2, h3⟩ | ⟨qs, x, k, rfl, hg, rfl, rfl, hx, rfl, hk, hr, h1, hcase⟩
  · rw [h1] at hask
    rw [dsO_no (.inl h3)]
    simp only [oN_none, oD_none, Option.isSome_none]
    have HI := hide hask; have HA := hide ha
    clear hask hun ha h1 h2 h3
    go_enter Try.func36, Try.ntmps36
    go_wp2_with (go_at_call 62; (with_reducible refine ((unhide HI) _ (own_below (unhide HA) ?pb)).mono ?_); (case pb => exact (by repeat (first | with_reducible exact Below.refl _ _ | with_reducible assumption | (with_reducible refine Below.trans ?_ (Below.mono (by assumption) (by first | omega | (simp <;> omega)))) | with_reducible apply Below.drew | with_reducible apply below_drewN | (with_reducible refine Below.alloc ?_ (by first | omega | (simp <;> omega)) _) | (with_reducible refine Below.setCell ?_ (by first | omega | (simp <;> omega)) _)))); rintro e w1 ⟨rfl, hbw1⟩; have hs1 := hbw1.size; (skip; (try ((have kw1w0 := (bnew hbw1) (w.heap.size) ?pf); (case pf => (first | omega | (simp; done) | (simp; omega))); obtain ⟨kcw1w0, kfw1w0, klw1w0⟩ := kw1w0)); (try ((have kw1w1 := (bnew hbw1) (w.heap.size + 1) ?pf); (case pf => (first | omega | (simp; done) | (simp; omega))); obtain ⟨kcw1w1, kfw1w1, klw1w1⟩ := kw1w1)); (try ((have kw1w2 := (bnew hbw1) (w.heap.size + 1 + 1) ?pf); (case pf => (first | omega | (simp; done) | (simp; omega))); obtain ⟨kcw1w2, kfw1w2, klw1w2⟩ := kw1w2))))
    exact bodyPost_ret (v := .tuple #[.agg #[.int .i64 (0), .int .i64 (0)], .bool false]) (by simp [results, Try.results36, go_sem, *]) rfl ⟨rfl, (by repeat (first | with_reducible exact Below.refl _ _ | with_reducible assumption | (with_reducible refine Below.trans ?_ (Below.mono (by assumption) (by first | omega | (simp <;> omega)))) | with_reducible apply Below.drew | with_reducible apply below_drewN | (with_reducible refine Below.alloc ?_ (by first | omega | (simp <;> omega)) _) | (with_reducible refine Below.setCell ?_ (by first | omega | (simp <;> omega)) _)))⟩
  rw [h1] at hask
  rcases hu : uB p q with _ | _
  · rw [dsO_no (.inr (by unfold orbO; rw [runO_no (by unfold askB; rw [hu]; simp)]; rfl))]
    simp only [oN_none, oD_none, Option.isSome_none]
    rw [hu] at hun
    have HI := hide hask; have HA := hide ha; have HU := hide hun
    clear hask hun ha h1 hr hcase hu hg hx
    generalize x.num = xn at *
    generalize (x.den : Int) = xd at *
    go_enter Try.func36, Try.ntmps36
    go_wp2_with (first
      | (go_at_call 62; (with_reducible refine ((unhide HI) _ (own_below (unhide HA) ?pb)).mono ?_); (case pb => exact (by repeat (first | with_reducible exact Below.refl _ _ | with_reducible assumption | (with_reducible refine Below.trans ?_ (Below.mono (by assumption) (by first | omega | (simp <;> omega)))) | with_reducible apply Below.drew | with_reducible apply below_drewN | (with_reducible refine Below.alloc ?_ (by first | omega | (simp <;> omega)) _) | (with_reducible refine Below.setCell ?_ (by first | omega | (simp <;> omega)) _)))); rintro e w1 ⟨rfl, hbw1⟩; have hs1 := hbw1.size; (skip; (try ((have kw1w0 := (bnew hbw1) (w.heap.size) ?pf); (case pf => (first | omega | (simp; done) | (simp; omega))); obtain ⟨kcw1w0, kfw1w0, klw1w0⟩ := kw1w0)); (try ((have kw1w1 := (bnew hbw1) (w.heap.size + 1) ?pf); (case pf => (first | omega | (simp; done) | (simp; omega))); obtain ⟨kcw1w1, kfw1w1, klw1w1⟩ := kw1w1)); (try ((have kw1w2 := (bnew hbw1) (w.heap.size + 1 + 1) ?pf); (case pf => (first | omega | (simp; done) | (simp; omega))); obtain ⟨kcw1w2, kfw1w2, klw1w2⟩ := kw1w2))))
      | (go_at_call 54; (with_reducible refine ((unhide HU) _).mono ?_); rintro e w2 ⟨rfl, hbw2⟩; obtain ⟨hcw2, hfw2⟩ := bcell hbw2; have hzw2 := hbw2.size; (try simp at hzw2); (try ((have kw2w0 := (bnew hbw2) (w.heap.size) ?pf); (case pf => (first | omega | (simp; done) | (simp; omega))); obtain ⟨kcw2w0, kfw2w0, klw2w0⟩ := kw2w0)); (try ((have kw2w1 := (bnew hbw2) (w.heap.size + 1) ?pf); (case pf => (first | omega | (simp; done) | (simp; omega))); obtain ⟨kcw2w1, kfw2w1, klw2w1⟩ := kw2w1)); (try ((have kw2w2 := (bnew hbw2) (w.heap.size + 1 + 1) ?pf); (case pf => (first | omega | (simp; done) | (simp; omega))); obtain ⟨kcw2w2, kfw2w2, klw2w2⟩ := kw2w2))))
    exact bodyPost_ret (v := .tuple #[.agg #[.int .i64 (0), .int .i64 (0)], .bool false]) (by simp [results, Try.results36, go_sem, *]) rfl ⟨rfl, (by repeat (first | with_reducible exact Below.refl _ _ | with_reducible assumption | (with_reducible refine Below.trans ?_ (Below.mono (by assumption) (by first | omega | (simp <;> omega)))) | with_reducible apply Below.drew | with_reducible apply below_drewN | (with_reducible refine Below.alloc ?_ (by first | omega | (simp <;> omega)) _) | (with_reducible refine Below.setCell ?_ (by first | omega | (simp <;> omega)) _)))⟩
  rw [hu] at hun
  obtain ⟨y, rfl, rfl, hyf, hy0, hy1⟩ := uB_rat hu
  have hy : Un y := ⟨hyf, hy0, hy1⟩
  have ho1 := orbO_map hg hx hk
  have ho2 := orbO_map hg hy hk
  have hlenq : qs.length = n := by have := own_len ha; rw [List.length_map] at this; exact this
  obtain ⟨g, hA⟩ := own_form ha (by have := hg.lo; omega)
  subst hA
  have hr1 := fun W hW => orRun_map g n c base qs x k W hW hg hx hk
  have hr2 := fun W hW => orRun_map g n c base qs y k W hW hg hy hk
  have hl1 := run_len qs k x
  have hl2 := run_len qs k y
  have hu1 := run_un hg k x hx
  have hu2 := run_un hg k y hy
  clear hcase hr h1 hu hlenq
  generalize run qs k x = l1 at *
  generalize run qs k y = l2 at *
  obtain ⟨L1, hL1⟩ : ∃ L, L = l1.length := ⟨_, rfl⟩
  obtain ⟨L2, hL2⟩ : ∃ L, L = l2.length := ⟨_, rfl⟩
  rw [← hL1] at hr1 ho1 hl1
  rw [← hL2] at hr2 ho2 hl2
  by_cases hf : L1 = k + 1 ∧ L2 = k + 1
  · obtain ⟨hf1, hf2⟩ := hf
    rw [if_pos hf1] at ho1
    rw [if_pos hf2] at ho2
    rw [dsO_some ho1 ho2, ← hL1, hf1]
    have hua : ∀ i, i < k + 1 → Un (l1.getD i 0) := fun i hi => hu1 _ (by rw [List.getD_eq_getElem?_getD, List.getElem?_eq_getElem (by omega)]; exact List.getElem_mem _)
    have hub : ∀ i, i < k + 1 → Un (l2.getD i 0) := fun i hi => hu2 _ (by rw [List.getD_eq_getElem?_getD, List.getElem?_eq_getElem (by omega)]; exact List.getElem_mem _)
    have HU1 := hide hua; have HU2 := hide hub
    subst hf1 hf2
    have HI := hide hask; have HA := hide ha; have HU := hide hun; have HR1 := hide hr1; have HR2 := hide hr2
    clear hask hun ha ho1 ho2 hu1 hu2 hL1 hL2 hl1 hl2 hr1 hr2 hua hub hg hx hy hyf hy0 hy1
    generalize x.num = xn at *
    generalize (x.den : Int) = xd at *
    generalize y.num = yn at *
    generalize (y.den : Int) = yd at *
    go_enter Try.func36, Try.ntmps36
    go_upto_region 3 with (first
      | (go_at_call 62; (with_reducible refine ((unhide HI) _ (own_below (unhide HA) ?pb)).mono ?_); (case pb => exact (by repeat (first | with_reducible exact Below.refl _ _ | with_reducible assumption | (with_reducible refine Below.trans ?_ (Below.mono (by assumption) (by first | omega | (simp <;> omega)))) | with_reducible apply Below.drew | with_reducible apply below_drewN | (with_reducible refine Below.alloc ?_ (by first | omega | (simp <;> omega)) _) | (with_reducible refine Below.setCell ?_ (by first | omega | (simp <;> omega)) _)))); rintro e w1 ⟨rfl, hbw1⟩; have hs1 := hbw1.size; (skip; (try ((have kw1w0 := (bnew hbw1) (w.heap.size) ?pf); (case pf => (first | omega | (simp; done) | (simp; omega))); obtain ⟨kcw1w0, kfw1w0, klw1w0⟩ := kw1w0)); (try ((have kw1w1 := (bnew hbw1) (w.heap.size + 1) ?pf); (case pf => (first | omega | (simp; done) | (simp; omega))); obtain ⟨kcw1w1, kfw1w1, klw1w1⟩ := kw1w1)); (try ((have kw1w2 := (bnew hbw1) (w.heap.size + 1 + 1) ?pf); (case pf => (first | omega | (simp; done) | (simp; omega))); obtain ⟨kcw1w2, kfw1w2, klw1w2⟩ := kw1w2))))
      | (go_at_call 54; (with_reducible refine ((unhide HU) _).mono ?_); rintro e w2 ⟨rfl, hbw2⟩; obtain ⟨hcw2, hfw2⟩ := bcell hbw2; have hzw2 := hbw2.size; (try simp at hzw2); (try ((have kw2w0 := (bnew hbw2) (w.heap.size) ?pf); (case pf => (first | omega | (simp; done) | (simp; omega))); obtain ⟨kcw2w0, kfw2w0, klw2w0⟩ := kw2w0)); (try ((have kw2w1 := (bnew hbw2) (w.heap.size + 1) ?pf); (case pf => (first | omega | (simp; done) | (simp; omega))); obtain ⟨kcw2w1, kfw2w1, klw2w1⟩ := kw2w1)); (try ((have kw2w2 := (bnew hbw2) (w.heap.size + 1 + 1) ?pf); (case pf => (first | omega | (simp; done) | (simp; omega))); obtain ⟨kcw2w2, kfw2w2, klw2w2⟩ := kw2w2))))
    have cx0 : w2.cell? ⟨w.heap.size, 0, none⟩ = some (.int .i64 xn) := by rw [kcw2w0, kcw1w0]; simp [go_sem]
    have cx1 : w2.cell? ⟨w.heap.size, 1, none⟩ = some (.int .i64 xd) := by rw [kcw2w0, kcw1w0]; simp [go_sem]
    have cy0 : w2.cell? ⟨w.heap.size + 1, 0, none⟩ = some (.int .i64 yn) := by rw [kcw2w1, kcw1w1]; simp [go_sem]
    have cy1 : w2.cell? ⟨w.heap.size + 1, 1, none⟩ = some (.int .i64 yd) := by rw [kcw2w1, kcw1w1]; simp [go_sem]
    have r0 : w2.cell? ⟨w.heap.size + 1 + 1, 0, none⟩ = some (.int .i64 0) := by rw [kcw2w2, kcw1w2]; simp [go_sem]
    have r1 : w2.cell? ⟨w.heap.size + 1 + 1, 1, none⟩ = some (.int .i64 0) := by rw [kcw2w2, kcw1w2]; simp [go_sem]
    have rf : ∀ o, w2.frozen? ⟨w.heap.size + 1 + 1, o, none⟩ = false := fun o => by rw [kfw2w2, kfw1w2]; simp [go_sem]
    have hR2 : w.heap.size + 1 + 1 < w2.heap.size := klw2w2
    have hx2 : w.heap.size < w2.heap.size := by omega
    have hy2 : w.heap.size + 1 < w2.heap.size := by omega
    have hbA : Below w.heap.size w w2 := (by repeat (first | with_reducible exact Below.refl _ _ | with_reducible assumption | (with_reducible refine Below.trans ?_ (Below.mono (by assumption) (by first | omega | (simp <;> omega)))) | with_reducible apply Below.drew | with_reducible apply below_drewN | (with_reducible refine Below.alloc ?_ (by first | omega | (simp <;> omega)) _) | (with_reducible refine Below.setCell ?_ (by first | omega | (simp <;> omega)) _)))
    have HBA := hide hbA
    have HA2 := hide (own_below (unhide HA) hbA)
    clear hbA hbw1 hbw2 kcw1w0 kcw1w1 kcw1w2 kfw1w0 kfw1w1 kfw1w2 klw1w0 klw1w1 klw1w2 kcw2w0 kcw2w1 kcw2w2 kfw2w0 kfw2w1 kfw2w2 klw2w0 klw2w1 klw2w2 hcw2 hfw2 hzw2
    go_cut [10, 11] (fun s10 s11 wx => (∃ gs1 d1 gs2 d2 : Nat, s10 = .slice (some ⟨gs1, 0, none⟩) (k + 1) d1 ∧ s11 = .slice (some ⟨gs2, 0, none⟩) (k + 1) d2 ∧ wx.ownsRow w2.heap.size 26 2 (.slice (some ⟨gs1, 0, none⟩) (k + 1) d1) (k + 1) (frcs (l1.map qf)) ∧ wx.ownsRow w2.heap.size 26 2 (.slice (some ⟨gs2, 0, none⟩) (k + 1) d2) (k + 1) (frcs (l2.map qf))) ∧ Below w2.heap.size w2 wx)
    case first =>
      go_region_held3 (fun w' => w'.cell? ⟨w.heap.size, 0, none⟩ = some (.int .i64 xn) ∧ w'.cell? ⟨w.heap.size, 1, none⟩ = some (.int .i64 xd) ∧ w'.cell? ⟨w.heap.size + 1, 0, none⟩ = some (.int .i64 yn) ∧ w'.cell? ⟨w.heap.size + 1, 1, none⟩ = some (.int .i64 yd)) (simp [go_sem, *])
        (first
          | (go_at_call 63; (with_reducible refine ((unhide HR1) _ (own_below (unhide HA2) ?pb)).mono ?_); (case pb => exact (by repeat (first | with_reducible exact Below.refl _ _ | with_reducible assumption | (with_reducible refine Below.trans ?_ (Below.mono (by assumption) (by first | omega | (simp <;> omega)))) | with_reducible apply Below.drew | with_reducible apply below_drewN | (with_reducible refine Below.alloc ?_ (by first | omega | (simp <;> omega)) _) | (with_reducible refine Below.setCell ?_ (by first | omega | (simp <;> omega)) _)))); rintro e w3 ⟨gs1, d1, rfl, hown1, hbw3⟩; have hs3 := hbw3.size; (try simp at hs3); (skip; (try ((have kw3w.heap.sizeX0 := (bnew hbw3) (w.heap.size) ?pf); (case pf => (first | omega | (simp; done) | (simp; omega))); obtain ⟨kcw3w.heap.sizeX0, kfw3w.heap.sizeX0, klw3w.heap.sizeX0⟩ := kw3w.heap.sizeX0)); (try ((have kw3w.heap.sizeX1 := (bnew hbw3) (w.heap.size + 1) ?pf); (case pf => (first | omega | (simp; done) | (simp; omega))); obtain ⟨kcw3w.heap.sizeX1, kfw3w.heap.sizeX1, klw3w.heap.sizeX1⟩ := kw3w.heap.sizeX1))); have HOW1 := hide hown1; clear hown1)
          | (go_at_call 63; (with_reducible refine ((unhide HR2) _ (own_below (unhide HA2) ?pb)).mono ?_); (case pb => exact (by repeat (first | with_reducible exact Below.refl _ _ | with_reducible assumption | (with_reducible refine Below.trans ?_ (Below.mono (by assumption) (by first | omega | (simp <;> omega)))) | with_reducible apply Below.drew | with_reducible apply below_drewN | (with_reducible refine Below.alloc ?_ (by first | omega | (simp <;> omega)) _) | (with_reducible refine Below.setCell ?_ (by first | omega | (simp <;> omega)) _)))); rintro e w4 ⟨gs2, d2, rfl, hown2, hbw4⟩; have hs4 := hbw4.size; (try simp at hs4); (skip; (try ((have kw4w.heap.sizeX0 := (bnew hbw4) (w.heap.size) ?pf); (case pf => (first | omega | (simp; done) | (simp; omega))); obtain ⟨kcw4w.heap.sizeX0, kfw4w.heap.sizeX0, klw4w.heap.sizeX0⟩ := kw4w.heap.sizeX0)); (try ((have kw4w.heap.sizeX1 := (bnew hbw4) (w.heap.size + 1) ?pf); (case pf => (first | omega | (simp; done) | (simp; omega))); obtain ⟨kcw4w.heap.sizeX1, kfw4w.heap.sizeX1, klw4w.heap.sizeX1⟩ := kw4w.heap.sizeX1))); have HOW2 := hide hown2; clear hown2))
      all_goals
        go_wp2_with fail
        go_meet
        exact ⟨⟨gs1, d1, gs2, d2, rfl, rfl, (own_below (unhide HOW1) (by repeat (first | with_reducible exact Below.refl _ _ | with_reducible assumption | (with_reducible refine Below.trans ?_ (Below.mono (by assumption) (by first | omega | (simp <;> omega)))) | with_reducible apply Below.drew | with_reducible apply below_drewN | (with_reducible refine Below.alloc ?_ (by first | omega | (simp <;> omega)) _) | (with_reducible refine Below.setCell ?_ (by first | omega | (simp <;> omega)) _)))).mono (by first | omega | (simp; done) | (simp; omega)), (own_below (unhide HOW2) (by repeat (first | with_reducible exact Below.refl _ _ | with_reducible assumption | (with_reducible refine Below.trans ?_ (Below.mono (by assumption) (by first | omega | (simp <;> omega)))) | with_reducible apply Below.drew | with_reducible apply below_drewN | (with_reducible refine Below.alloc ?_ (by first | omega | (simp <;> omega)) _) | (with_reducible refine Below.setCell ?_ (by first | omega | (simp <;> omega)) _)))).mono (by first | omega | (simp; done) | (simp; omega))⟩, (by repeat (first | with_reducible exact Below.refl _ _ | with_reducible assumption | (with_reducible refine Below.trans ?_ (Below.mono (by assumption) (by first | omega | (simp <;> omega)))) | with_reducible apply Below.drew | with_reducible apply below_drewN | (with_reducible refine Below.alloc ?_ (by first | omega | (simp <;> omega)) _) | (with_reducible refine Below.setCell ?_ (by first | omega | (simp <;> omega)) _)))⟩
    case rest =>
    obtain ⟨⟨gs1, d1, gs2, d2, rfl, rfl, hown1, hown2⟩, hbwc⟩ := hcut
    have hsc := hbwc.size
    have rc0 := (hbwc.cell (p := ⟨w.heap.size + 1 + 1, 0, none⟩) hR2).trans r0
    have rc1 := (hbwc.cell (p := ⟨w.heap.size + 1 + 1, 1, none⟩) hR2).trans r1
    have rcf := fun o => (hbwc.frozen (p := ⟨w.heap.size + 1 + 1, o, none⟩) hR2).trans (rf o)
    have hRc : w.heap.size + 1 + 1 < wc.heap.size := by omega
    have HOW1 := hide hown1
    have HOW2 := hide hown2
    have HBC := hide ((unhide HBA).trans (hbwc.mono (unhide HBA).size))
    clear hown1 hown2 hbwc r0 r1 rf cx0 cx1 cy0 cy1
    go_wp2_with ((go_at_call 71; (with_reducible refine (raInt_any 0 _).mono ?_); rintro e w5 ⟨rfl, hbw5⟩; obtain ⟨hcw5, hfw5⟩ := bcell hbw5; have hzw5 := hbw5.size; (try simp at hzw5)))
    have hsq : w.heap.size + 1 + 1 < w5.heap.size := by have := hbw5.size; omega
    have hbC := unhide HBC
    have r0 := (hbw5.cell (p := ⟨w.heap.size + 1 + 1, 0, none⟩) hRc).trans rc0
    have r1 := (hbw5.cell (p := ⟨w.heap.size + 1 + 1, 1, none⟩) hRc).trans rc1
    have rf := fun o => (hbw5.frozen (p := ⟨w.heap.size + 1 + 1, o, none⟩) hRc).trans (rcf o)
    have hC1 := (rcells_own (unhide HOW1)).below hbw5
    have hC2 := (rcells_own (unhide HOW2)).below hbw5
    have hb0 : Below w.heap.size w (w5.alloc (.cells #[.int .i64 0, .int .i64 1] 26)) := (by repeat (first | with_reducible exact Below.refl _ _ | with_reducible assumption | (with_reducible refine Below.trans ?_ (Below.mono (by assumption) (by first | omega | (simp <;> omega)))) | with_reducible apply Below.drew | with_reducible apply below_drewN | (with_reducible refine Below.alloc ?_ (by first | omega | (simp <;> omega)) _) | (with_reducible refine Below.setCell ?_ (by first | omega | (simp <;> omega)) _)))
    have hbA : Below w5.heap.size w5 (w5.alloc (.cells #[.int .i64 0, .int .i64 1] 26)) := (by repeat (first | with_reducible exact Below.refl _ _ | with_reducible assumption | (with_reducible refine Below.trans ?_ (Below.mono (by assumption) (by first | omega | (simp <;> omega)))) | with_reducible apply Below.drew | with_reducible apply below_drewN | (with_reducible refine Below.alloc ?_ (by first | omega | (simp <;> omega)) _) | (with_reducible refine Below.setCell ?_ (by first | omega | (simp <;> omega)) _)))
    have m0 : (w5.alloc (.cells #[.int .i64 0, .int .i64 1] 26)).cell? ⟨w5.heap.size, 0, none⟩ = some (.int .i64 (0 : Rat).num) := by simp [go_sem]
    have m1 : (w5.alloc (.cells #[.int .i64 0, .int .i64 1] 26)).cell? ⟨w5.heap.size, 1, none⟩ = some (.int .i64 ((0 : Rat).den : Int)) := by simp [go_sem]
    have mf : ∀ o, (w5.alloc (.cells #[.int .i64 0, .int .i64 1] 26)).frozen? ⟨w5.heap.size, o, none⟩ = false := by intro o; simp [go_sem]
    have hMq : w5.heap.size < (w5.alloc (.cells #[.int .i64 0, .int .i64 1] 26)).heap.size := by simp
    have hg1M := hC1.lt
    have hg2M := hC2.lt
    have HC1 := hide (hC1.below hbA)
    have HC2 := hide (hC2.below hbA)
    replace r0 := (hbA.cell (p := ⟨w.heap.size + 1 + 1, 0, none⟩) hsq).trans r0
    replace r1 := (hbA.cell (p := ⟨w.heap.size + 1 + 1, 1, none⟩) hsq).trans r1
    replace rf := fun o => (hbA.frozen (p := ⟨w.heap.size + 1 + 1, o, none⟩) hsq).trans (rf o)
    have HBQ := hide hb0
    have hwW : w.heap.size ≤ w5.heap.size := by omega
    clear hb0 hbA hC1 hC2 hbC hbw5 hcw5 hfw5 hzw5 rc0 rc1 rcf
    generalize w5.alloc (.cells #[.int .i64 0, .int .i64 1] 26) = wq at *
    generalize w5.heap.size = M at *
    have hRq : w.heap.size + 1 + 1 < wq.heap.size := by omega
    go_loopw [49] (fun i wr => ∃ (j : Nat) (cur : Rat), i = .int .i64 j ∧ j ≤ k + 1 ∧ Hid (odK l1 l2 j = some cur) ∧ wr.cell? ⟨M, 0, none⟩ = some (.int .i64 cur.num) ∧ wr.cell? ⟨M, 1, none⟩ = some (.int .i64 cur.den) ∧ (∀ o, wr.frozen? ⟨M, o, none⟩ = false) ∧ wq.grownBy wr (some M)) (fun i _ => k + 1 - (intOf i).toNat)
    case atStart => exact ⟨0, 0, rfl, by omega, hide rfl, m0, m1, mf, World.grownBy.refl _ _⟩
    case round =>
      obtain ⟨j, cur, rfl, hj, HP, c0, c1, cf, hgr⟩ := hrel
      have hsr := hgr.size
      have hMr : M < wr.heap.size := by omega
      have hRr : w.heap.size + 1 + 1 < wr.heap.size := by omega
      have q0 := (World.cell?_of_block (a := ⟨w.heap.size + 1 + 1, 0, none⟩) (hgr.block (w.heap.size + 1 + 1) hRq (fun e => by have := Option.some.inj e; omega))).trans r0
      have q1 := (World.cell?_of_block (a := ⟨w.heap.size + 1 + 1, 1, none⟩) (hgr.block (w.heap.size + 1 + 1) hRq (fun e => by have := Option.some.inj e; omega))).trans r1
      have qz := fun o => (World.frozen?_of_block (a := ⟨w.heap.size + 1 + 1, o, none⟩) (hgr.block (w.heap.size + 1 + 1) hRq (fun e => by have := Option.some.inj e; omega))).trans (rf o)
      have hb := (unhide HBQ).grown hgr (by omega) (fun i e => by have := Option.some.inj e; omega)
      by_cases hlt : j < k + 1
      · have hC1 := (unhide HC1).kept hgr (by omega)
        have hC2 := (unhide HC2).kept hgr (by omega)
        have y0 := hC1.at0 j hlt
        have y1 := hC1.at1 j hlt
        have z0 := hC2.at0 j hlt
        have z1 := hC2.at1 j hlt
        have hgs1 := hC1.lt
        have hgs2 := hC2.lt
        have hu1 := (unhide HU1) j hlt
        have hu2 := (unhide HU2) j hlt
        have hcurf := odK_fits (unhide HP)
        have hap := fun W => orApart_q (l1.getD j 0) (l2.getD j 0) hu1.fit hu2.fit W
        have HB := hide hb
        have HG := hide hgr
        clear hC1 hC2 hb hgr m0 m1 r0 r1 hu1 hu2
        rcases hd : apR (l1.getD j 0) (l2.getD j 0) with _ | d
        · have hno := odK_up (odK_none (unhide HP) hd) (k + 1) (by omega)
          have HNO := Lib.hid hno
          rw [hd] at hap
          simp only [oN_none, oD_none, Option.isSome_none] at hap
          have HAP := hide hap
          clear hap hd hno hcurf
          generalize (l1.getD j 0).num = a1 at *
          generalize ((l1.getD j 0).den : Int) = a2 at *
          generalize (l2.getD j 0).num = b1 at *
          generalize ((l2.getD j 0).den : Int) = b2 at *
          generalize cur.num = u1 at *
          generalize (cur.den : Int) = u2 at *
          go_upto_region 10 with fail
          go_cut [14, 15] (fun s14 s15 wx => s15 = .bool false ∧ (∃ D : Nat, s14 = .pointer (some ⟨D, 0, none⟩) ∧ Box2 wr wx D 0 0) ∧ Below wr.heap.size wr wx)
          case first =>
            go_region_held3 (fun w' => w'.cell? ⟨gs1, j * 2, none⟩ = some (.int .i64 a1) ∧ w'.cell? ⟨gs1, j * 2 + 1, none⟩ = some (.int .i64 a2) ∧ w'.cell? ⟨gs2, j * 2, none⟩ = some (.int .i64 b1) ∧ w'.cell? ⟨gs2, j * 2 + 1, none⟩ = some (.int .i64 b2)) (simp [go_sem, World.cell?_alloc_past, *])
              ((go_at_call 72; (with_reducible refine ((unhide HAP) _).mono ?_); rintro e w5 ⟨rfl, hbw5⟩; obtain ⟨hcw5, hfw5⟩ := bcell hbw5; have hzw5 := hbw5.size; (try simp at hzw5); (try ((have kw5gs1X0 := (bnew hbw5) (gs1) ?pf); (case pf => (first | omega | (simp; done) | (simp; omega))); obtain ⟨kcw5gs1X0, kfw5gs1X0, klw5gs1X0⟩ := kw5gs1X0)); (try ((have kw5gs2X0 := (bnew hbw5) (gs2) ?pf); (case pf => (first | omega | (simp; done) | (simp; omega))); obtain ⟨kcw5gs2X0, kfw5gs2X0, klw5gs2X0⟩ := kw5gs2X0)); (try ((have kw5wr0 := (bnew hbw5) (wr.heap.size) ?pf); (case pf => (first | omega | (simp; done) | (simp; omega))); obtain ⟨kcw5wr0, kfw5wr0, klw5wr0⟩ := kw5wr0))))
            all_goals
              go_wp2_with fail
              go_meet
              refine ⟨rfl, ⟨_, rfl, ⟨(by repeat (first | with_reducible exact Below.refl _ _ | with_reducible assumption | (with_reducible refine Below.trans ?_ (Below.mono (by assumption) (by first | omega | (simp <;> omega)))) | with_reducible apply Below.drew | with_reducible apply below_drewN | (with_reducible refine Below.alloc ?_ (by first | omega | (simp <;> omega)) _) | (with_reducible refine Below.setCell ?_ (by first | omega | (simp <;> omega)) _))), ?_, ?_, ?_, ?_, ?_, ?_⟩⟩, (by repeat (first | with_reducible exact Below.refl _ _ | with_reducible assumption | (with_reducible refine Below.trans ?_ (Below.mono (by assumption) (by first | omega | (simp <;> omega)))) | with_reducible apply Below.drew | with_reducible apply below_drewN | (with_reducible refine Below.alloc ?_ (by first | omega | (simp <;> omega)) _) | (with_reducible refine Below.setCell ?_ (by first | omega | (simp <;> omega)) _)))⟩
            all_goals first | (go_simp; done) | (simp [go_sem, *]; done) | omega | (simp; omega)
          case rest =>
            obtain ⟨rfl, ⟨D, rfl, hB2⟩, hbwc⟩ := hcut
            have hzc := hbwc.size
            have p0 := (hbwc.cell (p := ⟨w.heap.size + 1 + 1, 0, none⟩) hRr).trans q0
            have p1 := (hbwc.cell (p := ⟨w.heap.size + 1 + 1, 1, none⟩) hRr).trans q1
            have pz := fun o => (hbwc.frozen (p := ⟨w.heap.size + 1 + 1, o, none⟩) hRr).trans (qz o)
            have hRc : w.heap.size + 1 + 1 < wc.heap.size := by omega
            have hb := unhide HB
            have hbz := hb.size
            clear hB2 q0 q1 qz c0 c1 cf y0 y1 z0 z1
            go_wp2_with fail
            rw [HNO.out]
            exact bodyPost_ret (v := .tuple #[.agg #[.int .i64 (0), .int .i64 (0)], .bool false]) (by simp [results, Try.results36, go_sem, *]) rfl ⟨rfl, (by repeat (first | with_reducible exact Below.refl _ _ | with_reducible assumption | (with_reducible refine Below.trans ?_ (Below.mono (by assumption) (by first | omega | (simp <;> omega)))) | with_reducible apply Below.drew | with_reducible apply below_drewN | (with_reducible refine Below.alloc ?_ (by first | omega | (simp <;> omega)) _) | (with_reducible refine Below.setCell ?_ (by first | omega | (simp <;> omega)) _)))⟩
        · have hdf := apR_fits hd
          have hst := odK_step (unhide HP) hd
          have HST := Lib.hid hst
          rw [hd] at hap
          simp only [oN_some, oD_some, Option.isSome_some] at hap
          have HAP := hide hap
          have hord := fun W => raCmp_q cur d hcurf hdf W
          obtain ⟨cz, hcz⟩ : ∃ r, r = cq cur d := ⟨_, rfl⟩
          rw [← hcz] at hord
          have hlt2 : cur < d ↔ cz < 0 := by rw [hcz]; exact cq_lt.symm
          have HO := hide hord
          clear hap hd hst hcz hord
          obtain ⟨dn, hdn⟩ : ∃ r, r = d.num := ⟨_, rfl⟩
          obtain ⟨dd, hdd⟩ : ∃ r, r = (d.den : Int) := ⟨_, rfl⟩
          rw [← hdn, ← hdd] at HAP HO
          have HDV := Lib.hid (And.intro hdn hdd)
          clear hdn hdd
          obtain ⟨u1, hu1⟩ : ∃ r, r = cur.num := ⟨_, rfl⟩
          obtain ⟨u2, hu2⟩ : ∃ r, r = (cur.den : Int) := ⟨_, rfl⟩
          rw [← hu1, ← hu2] at HO
          rw [← hu1] at c0
          rw [← hu2] at c1
          have HCV := Lib.hid (And.intro hu1 hu2)
          clear hu1 hu2
          generalize (l1.getD j 0).num = a1 at *
          generalize ((l1.getD j 0).den : Int) = a2 at *
          generalize (l2.getD j 0).num = b1 at *
          generalize ((l2.getD j 0).den : Int) = b2 at *
          go_upto_region 10 with fail
          go_cut [14, 15] (fun s14 s15 wx => s15 = .bool true ∧ (∃ D : Nat, s14 = .pointer (some ⟨D, 0, none⟩) ∧ Box2 wr wx D dn dd) ∧ Below wr.heap.size wr wx)
          case first =>
            go_region_held3 (fun w' => w'.cell? ⟨gs1, j * 2, none⟩ = some (.int .i64 a1) ∧ w'.cell? ⟨gs1, j * 2 + 1, none⟩ = some (.int .i64 a2) ∧ w'.cell? ⟨gs2, j * 2, none⟩ = some (.int .i64 b1) ∧ w'.cell? ⟨gs2, j * 2 + 1, none⟩ = some (.int .i64 b2)) (simp [go_sem, World.cell?_alloc_past, *])
              ((go_at_call 72; (with_reducible refine ((unhide HAP) _).mono ?_); rintro e w5 ⟨rfl, hbw5⟩; obtain ⟨hcw5, hfw5⟩ := bcell hbw5; have hzw5 := hbw5.size; (try simp at hzw5); (try ((have kw5gs1X0 := (bnew hbw5) (gs1) ?pf); (case pf => (first | omega | (simp; done) | (simp; omega))); obtain ⟨kcw5gs1X0, kfw5gs1X0, klw5gs1X0⟩ := kw5gs1X0)); (try ((have kw5gs2X0 := (bnew hbw5) (gs2) ?pf); (case pf => (first | omega | (simp; done) | (simp; omega))); obtain ⟨kcw5gs2X0, kfw5gs2X0, klw5gs2X0⟩ := kw5gs2X0)); (try ((have kw5wr0 := (bnew hbw5) (wr.heap.size) ?pf); (case pf => (first | omega | (simp; done) | (simp; omega))); obtain ⟨kcw5wr0, kfw5wr0, klw5wr0⟩ := kw5wr0))))
            all_goals
              go_wp2_with fail
              go_meet
              refine ⟨rfl, ⟨_, rfl, ⟨(by repeat (first | with_reducible exact Below.refl _ _ | with_reducible assumption | (with_reducible refine Below.trans ?_ (Below.mono (by assumption) (by first | omega | (simp <;> omega)))) | with_reducible apply Below.drew | with_reducible apply below_drewN | (with_reducible refine Below.alloc ?_ (by first | omega | (simp <;> omega)) _) | (with_reducible refine Below.setCell ?_ (by first | omega | (simp <;> omega)) _))), ?_, ?_, ?_, ?_, ?_, ?_⟩⟩, (by repeat (first | with_reducible exact Below.refl _ _ | with_reducible assumption | (with_reducible refine Below.trans ?_ (Below.mono (by assumption) (by first | omega | (simp <;> omega)))) | with_reducible apply Below.drew | with_reducible apply below_drewN | (with_reducible refine Below.alloc ?_ (by first | omega | (simp <;> omega)) _) | (with_reducible refine Below.setCell ?_ (by first | omega | (simp <;> omega)) _)))⟩
            all_goals first | (go_simp; done) | (simp [go_sem, *]; done) | omega | (simp; omega)
          case rest =>
            obtain ⟨rfl, ⟨D, rfl, hB2⟩, hbwc⟩ := hcut
            have hzc := hbwc.size
            have d0 := hB2.c0
            have d1 := hB2.c1
            have hDl := hB2.hi
            have n0 := (hbwc.cell (p := ⟨M, 0, none⟩) hMr).trans c0
            have n1 := (hbwc.cell (p := ⟨M, 1, none⟩) hMr).trans c1
            have nf := fun o => (hbwc.frozen (p := ⟨M, o, none⟩) hMr).trans (cf o)
            have hMc : M < wc.heap.size := by omega
            have HGC := hide (grown_on (unhide HG) hbwc)
            clear hB2 q0 q1 qz c0 c1 cf y0 y1 z0 z1 hbwc
            by_cases hc : cur < d
            · have hcd : decide (cz < 0) = true := decide_eq_true (hlt2.1 hc)
              rw [if_pos hc] at HST
              clear hc hlt2 hcurf hdf
              go_upto_region 13 with fail
              go_wp2_with ((go_at_call 69; (with_reducible refine ((unhide HO) _).mono ?_); rintro e w6 ⟨rfl, hbw6⟩; obtain ⟨hcw6, hfw6⟩ := bcell hbw6; have hzw6 := hbw6.size; (try simp at hzw6); (try ((have kw6MX0 := (bnew hbw6) (M) ?pf); (case pf => (first | omega | (simp; done) | (simp; omega))); obtain ⟨kcw6MX0, kfw6MX0, klw6MX0⟩ := kw6MX0)); (try ((have kw6DX0 := (bnew hbw6) (D) ?pf); (case pf => (first | omega | (simp; done) | (simp; omega))); obtain ⟨kcw6DX0, kfw6DX0, klw6DX0⟩ := kw6DX0))))
              have HGD := hide (grown_set (grown_set (grown_on (unhide HGC) hbw6) 0 (.int .i64 dn)) 1 (.int .i64 dd))
              go_roundw
              case rel => exact ⟨j + 1, d, by go_num, by omega, hide HST.out, by rw [← HDV.out.1]; simp [go_sem, *], by rw [← HDV.out.2]; simp [go_sem, *], fun o => by simp [go_sem, *], unhide HGD⟩
              case measure => simp [intOf]; omega
            · have hcd : decide (cz < 0) = false := decide_eq_false (fun h => hc (hlt2.2 h))
              rw [if_neg hc] at HST
              clear hc hlt2 hcurf hdf
              go_upto_region 13 with fail
              go_wp2_with ((go_at_call 69; (with_reducible refine ((unhide HO) _).mono ?_); rintro e w6 ⟨rfl, hbw6⟩; obtain ⟨hcw6, hfw6⟩ := bcell hbw6; have hzw6 := hbw6.size; (try simp at hzw6); (try ((have kw6MX0 := (bnew hbw6) (M) ?pf); (case pf => (first | omega | (simp; done) | (simp; omega))); obtain ⟨kcw6MX0, kfw6MX0, klw6MX0⟩ := kw6MX0)); (try ((have kw6DX0 := (bnew hbw6) (D) ?pf); (case pf => (first | omega | (simp; done) | (simp; omega))); obtain ⟨kcw6DX0, kfw6DX0, klw6DX0⟩ := kw6DX0))))
              have HGD := hide (grown_on (unhide HGC) hbw6)
              go_roundw
              case rel => exact ⟨j + 1, cur, by go_num, by omega, hide HST.out, by rw [← HCV.out.1]; simp [go_sem, *], by rw [← HCV.out.2]; simp [go_sem, *], fun o => by simp [go_sem, *], unhide HGD⟩
              case measure => simp [intOf]; omega
      · obtain rfl : j = k + 1 := by omega
        have HB := hide hb
        have hbz := hb.size
        have HPR := Lib.hid (unhide HP)
        clear hb hgr cf m0 m1 r0 r1 rf HP
        generalize hcn : cur.num = u1 at *
        generalize hcd : (cur.den : Int) = u2 at *
        have HCN := Lib.hid (And.intro hcn hcd)
        clear hcn hcd
        go_wp2_with fail
        have hb := unhide HB
        rw [HPR.out]
        simp only [oN_some, oD_some, Option.isSome_some]
        rw [HCN.out.1, HCN.out.2]
        exact bodyPost_ret (v := .tuple #[.agg #[.int .i64 (u1), .int .i64 (u2)], .bool true]) (by simp [results, Try.results36, go_sem, *]) rfl ⟨rfl, (by repeat (first | with_reducible exact Below.refl _ _ | with_reducible assumption | (with_reducible refine Below.trans ?_ (Below.mono (by assumption) (by first | omega | (simp <;> omega)))) | with_reducible apply Below.drew | with_reducible apply below_drewN | (with_reducible refine Below.alloc ?_ (by first | omega | (simp <;> omega)) _) | (with_reducible refine Below.setCell ?_ (by first | omega | (simp <;> omega)) _)))⟩

  · have hshort : L1 < k + 1 ∨ L2 < k + 1 := by omega
    have hno : orbO (qs.map qp) x.num x.den k = none ∨ orbO (qs.map qp) y.num y.den k = none := by
      rcases hshort with h | h
      · left; rw [ho1, if_neg (by omega)]
      · right; rw [ho2, if_neg (by omega)]
    rw [dsO_no hno]
    simp only [oN_none, oD_none, Option.isSome_none]
    have HI := hide hask; have HA := hide ha; have HU := hide hun; have HR1 := hide hr1; have HR2 := hide hr2
    clear hask hun ha ho1 ho2 hu1 hu2 hL1 hL2 hf hr1 hr2 hno hg hx hy hyf hy0 hy1
    generalize x.num = xn at *
    generalize (x.den : Int) = xd at *
    generalize y.num = yn at *
    generalize (y.den : Int) = yd at *
    go_enter Try.func36, Try.ntmps36
    go_upto_region 3 with (first
      | (go_at_call 62; (with_reducible refine ((unhide HI) _ (own_below (unhide HA) ?pb)).mono ?_); (case pb => exact (by repeat (first | with_reducible exact Below.refl _ _ | with_reducible assumption | (with_reducible refine Below.trans ?_ (Below.mono (by assumption) (by first | omega | (simp <;> omega)))) | with_reducible apply Below.drew | with_reducible apply below_drewN | (with_reducible refine Below.alloc ?_ (by first | omega | (simp <;> omega)) _) | (with_reducible refine Below.setCell ?_ (by first | omega | (simp <;> omega)) _)))); rintro e w1 ⟨rfl, hbw1⟩; have hs1 := hbw1.size; (skip; (try ((have kw1w0 := (bnew hbw1) (w.heap.size) ?pf); (case pf => (first | omega | (simp; done) | (simp; omega))); obtain ⟨kcw1w0, kfw1w0, klw1w0⟩ := kw1w0)); (try ((have kw1w1 := (bnew hbw1) (w.heap.size + 1) ?pf); (case pf => (first | omega | (simp; done) | (simp; omega))); obtain ⟨kcw1w1, kfw1w1, klw1w1⟩ := kw1w1)); (try ((have kw1w2 := (bnew hbw1) (w.heap.size + 1 + 1) ?pf); (case pf => (first | omega | (simp; done) | (simp; omega))); obtain ⟨kcw1w2, kfw1w2, klw1w2⟩ := kw1w2))))
      | (go_at_call 54; (with_reducible refine ((unhide HU) _).mono ?_); rintro e w2 ⟨rfl, hbw2⟩; obtain ⟨hcw2, hfw2⟩ := bcell hbw2; have hzw2 := hbw2.size; (try simp at hzw2); (try ((have kw2w0 := (bnew hbw2) (w.heap.size) ?pf); (case pf => (first | omega | (simp; done) | (simp; omega))); obtain ⟨kcw2w0, kfw2w0, klw2w0⟩ := kw2w0)); (try ((have kw2w1 := (bnew hbw2) (w.heap.size + 1) ?pf); (case pf => (first | omega | (simp; done) | (simp; omega))); obtain ⟨kcw2w1, kfw2w1, klw2w1⟩ := kw2w1)); (try ((have kw2w2 := (bnew hbw2) (w.heap.size + 1 + 1) ?pf); (case pf => (first | omega | (simp; done) | (simp; omega))); obtain ⟨kcw2w2, kfw2w2, klw2w2⟩ := kw2w2))))
    have cx0 : w2.cell? ⟨w.heap.size, 0, none⟩ = some (.int .i64 xn) := by rw [kcw2w0, kcw1w0]; simp [go_sem]
    have cx1 : w2.cell? ⟨w.heap.size, 1, none⟩ = some (.int .i64 xd) := by rw [kcw2w0, kcw1w0]; simp [go_sem]
    have cy0 : w2.cell? ⟨w.heap.size + 1, 0, none⟩ = some (.int .i64 yn) := by rw [kcw2w1, kcw1w1]; simp [go_sem]
    have cy1 : w2.cell? ⟨w.heap.size + 1, 1, none⟩ = some (.int .i64 yd) := by rw [kcw2w1, kcw1w1]; simp [go_sem]
    have r0 : w2.cell? ⟨w.heap.size + 1 + 1, 0, none⟩ = some (.int .i64 0) := by rw [kcw2w2, kcw1w2]; simp [go_sem]
    have r1 : w2.cell? ⟨w.heap.size + 1 + 1, 1, none⟩ = some (.int .i64 0) := by rw [kcw2w2, kcw1w2]; simp [go_sem]
    have rf : ∀ o, w2.frozen? ⟨w.heap.size + 1 + 1, o, none⟩ = false := fun o => by rw [kfw2w2, kfw1w2]; simp [go_sem]
    have hR2 : w.heap.size + 1 + 1 < w2.heap.size := klw2w2
    have hx2 : w.heap.size < w2.heap.size := by omega
    have hy2 : w.heap.size + 1 < w2.heap.size := by omega
    have hbA : Below w.heap.size w w2 := (by repeat (first | with_reducible exact Below.refl _ _ | with_reducible assumption | (with_reducible refine Below.trans ?_ (Below.mono (by assumption) (by first | omega | (simp <;> omega)))) | with_reducible apply Below.drew | with_reducible apply below_drewN | (with_reducible refine Below.alloc ?_ (by first | omega | (simp <;> omega)) _) | (with_reducible refine Below.setCell ?_ (by first | omega | (simp <;> omega)) _)))
    have HBA := hide hbA
    have HA2 := hide (own_below (unhide HA) hbA)
    clear hbA hbw1 hbw2 kcw1w0 kcw1w1 kcw1w2 kfw1w0 kfw1w1 kfw1w2 klw1w0 klw1w1 klw1w2 kcw2w0 kcw2w1 kcw2w2 kfw2w0 kfw2w1 kfw2w2 klw2w0 klw2w1 klw2w2 hcw2 hfw2 hzw2
    go_cut [10, 11] (fun s10 s11 wx => (∃ gs1 d1 gs2 d2 : Nat, s10 = .slice (some ⟨gs1, 0, none⟩) L1 d1 ∧ s11 = .slice (some ⟨gs2, 0, none⟩) L2 d2 ∧ wx.ownsRow w2.heap.size 26 2 (.slice (some ⟨gs1, 0, none⟩) L1 d1) L1 (frcs (l1.map qf)) ∧ wx.ownsRow w2.heap.size 26 2 (.slice (some ⟨gs2, 0, none⟩) L2 d2) L2 (frcs (l2.map qf))) ∧ Below w2.heap.size w2 wx)
    case first =>
      go_region_held3 (fun w' => w'.cell? ⟨w.heap.size, 0, none⟩ = some (.int .i64 xn) ∧ w'.cell? ⟨w.heap.size, 1, none⟩ = some (.int .i64 xd) ∧ w'.cell? ⟨w.heap.size + 1, 0, none⟩ = some (.int .i64 yn) ∧ w'.cell? ⟨w.heap.size + 1, 1, none⟩ = some (.int .i64 yd)) (simp [go_sem, *])
        (first
          | (go_at_call 63; (with_reducible refine ((unhide HR1) _ (own_below (unhide HA2) ?pb)).mono ?_); (case pb => exact (by repeat (first | with_reducible exact Below.refl _ _ | with_reducible assumption | (with_reducible refine Below.trans ?_ (Below.mono (by assumption) (by first | omega | (simp <;> omega)))) | with_reducible apply Below.drew | with_reducible apply below_drewN | (with_reducible refine Below.alloc ?_ (by first | omega | (simp <;> omega)) _) | (with_reducible refine Below.setCell ?_ (by first | omega | (simp <;> omega)) _)))); rintro e w3 ⟨gs1, d1, rfl, hown1, hbw3⟩; have hs3 := hbw3.size; (try simp at hs3); (skip; (try ((have kw3w.heap.sizeX0 := (bnew hbw3) (w.heap.size) ?pf); (case pf => (first | omega | (simp; done) | (simp; omega))); obtain ⟨kcw3w.heap.sizeX0, kfw3w.heap.sizeX0, klw3w.heap.sizeX0⟩ := kw3w.heap.sizeX0)); (try ((have kw3w.heap.sizeX1 := (bnew hbw3) (w.heap.size + 1) ?pf); (case pf => (first | omega | (simp; done) | (simp; omega))); obtain ⟨kcw3w.heap.sizeX1, kfw3w.heap.sizeX1, klw3w.heap.sizeX1⟩ := kw3w.heap.sizeX1))); have HOW1 := hide hown1; clear hown1)
          | (go_at_call 63; (with_reducible refine ((unhide HR2) _ (own_below (unhide HA2) ?pb)).mono ?_); (case pb => exact (by repeat (first | with_reducible exact Below.refl _ _ | with_reducible assumption | (with_reducible refine Below.trans ?_ (Below.mono (by assumption) (by first | omega | (simp <;> omega)))) | with_reducible apply Below.drew | with_reducible apply below_drewN | (with_reducible refine Below.alloc ?_ (by first | omega | (simp <;> omega)) _) | (with_reducible refine Below.setCell ?_ (by first | omega | (simp <;> omega)) _)))); rintro e w4 ⟨gs2, d2, rfl, hown2, hbw4⟩; have hs4 := hbw4.size; (try simp at hs4); (skip; (try ((have kw4w.heap.sizeX0 := (bnew hbw4) (w.heap.size) ?pf); (case pf => (first | omega | (simp; done) | (simp; omega))); obtain ⟨kcw4w.heap.sizeX0, kfw4w.heap.sizeX0, klw4w.heap.sizeX0⟩ := kw4w.heap.sizeX0)); (try ((have kw4w.heap.sizeX1 := (bnew hbw4) (w.heap.size + 1) ?pf); (case pf => (first | omega | (simp; done) | (simp; omega))); obtain ⟨kcw4w.heap.sizeX1, kfw4w.heap.sizeX1, klw4w.heap.sizeX1⟩ := kw4w.heap.sizeX1))); have HOW2 := hide hown2; clear hown2))
      all_goals
        go_wp2_with fail
        go_meet
        exact ⟨⟨gs1, d1, gs2, d2, rfl, rfl, (own_below (unhide HOW1) (by repeat (first | with_reducible exact Below.refl _ _ | with_reducible assumption | (with_reducible refine Below.trans ?_ (Below.mono (by assumption) (by first | omega | (simp <;> omega)))) | with_reducible apply Below.drew | with_reducible apply below_drewN | (with_reducible refine Below.alloc ?_ (by first | omega | (simp <;> omega)) _) | (with_reducible refine Below.setCell ?_ (by first | omega | (simp <;> omega)) _)))).mono (by first | omega | (simp; done) | (simp; omega)), (own_below (unhide HOW2) (by repeat (first | with_reducible exact Below.refl _ _ | with_reducible assumption | (with_reducible refine Below.trans ?_ (Below.mono (by assumption) (by first | omega | (simp <;> omega)))) | with_reducible apply Below.drew | with_reducible apply below_drewN | (with_reducible refine Below.alloc ?_ (by first | omega | (simp <;> omega)) _) | (with_reducible refine Below.setCell ?_ (by first | omega | (simp <;> omega)) _)))).mono (by first | omega | (simp; done) | (simp; omega))⟩, (by repeat (first | with_reducible exact Below.refl _ _ | with_reducible assumption | (with_reducible refine Below.trans ?_ (Below.mono (by assumption) (by first | omega | (simp <;> omega)))) | with_reducible apply Below.drew | with_reducible apply below_drewN | (with_reducible refine Below.alloc ?_ (by first | omega | (simp <;> omega)) _) | (with_reducible refine Below.setCell ?_ (by first | omega | (simp <;> omega)) _)))⟩
    case rest =>
    obtain ⟨⟨gs1, d1, gs2, d2, rfl, rfl, hown1, hown2⟩, hbwc⟩ := hcut
    have hsc := hbwc.size
    have rc0 := (hbwc.cell (p := ⟨w.heap.size + 1 + 1, 0, none⟩) hR2).trans r0
    have rc1 := (hbwc.cell (p := ⟨w.heap.size + 1 + 1, 1, none⟩) hR2).trans r1
    have rcf := fun o => (hbwc.frozen (p := ⟨w.heap.size + 1 + 1, o, none⟩) hR2).trans (rf o)
    have hRc : w.heap.size + 1 + 1 < wc.heap.size := by omega
    have HOW1 := hide hown1
    have HOW2 := hide hown2
    have HBC := hide ((unhide HBA).trans (hbwc.mono (unhide HBA).size))
    clear hown1 hown2 hbwc r0 r1 rf cx0 cx1 cy0 cy1
    by_cases hs : L1 < k + 1
    · go_wp2_with fail
      have hb := unhide HBC
      exact bodyPost_ret (v := .tuple #[.agg #[.int .i64 (0), .int .i64 (0)], .bool false]) (by simp [results, Try.results36, go_sem, *]) rfl ⟨rfl, (by repeat (first | with_reducible exact Below.refl _ _ | with_reducible assumption | (with_reducible refine Below.trans ?_ (Below.mono (by assumption) (by first | omega | (simp <;> omega)))) | with_reducible apply Below.drew | with_reducible apply below_drewN | (with_reducible refine Below.alloc ?_ (by first | omega | (simp <;> omega)) _) | (with_reducible refine Below.setCell ?_ (by first | omega | (simp <;> omega)) _)))⟩
    · have hs2 : L2 < k + 1 := by omega
      go_wp2_with fail
      have hb := unhide HBC
      exact bodyPost_ret (v := .tuple #[.agg #[.int .i64 (0), .int .i64 (0)], .bool false]) (by simp [results, Try.results36, go_sem, *]) rfl ⟨rfl, (by repeat (first | with_reducible exact Below.refl _ _ | with_reducible assumption | (with_reducible refine Below.trans ?_ (Below.mono (by assumption) (by first | omega | (simp <;> omega)))) | with_reducible apply Below.drew | with_reducible apply below_drewN | (with_reducible refine Below.alloc ?_ (by first | omega | (simp <;> omega)) _) | (with_reducible refine Below.setCell ?_ (by first | omega | (simp <;> omega)) _)))⟩
end Go.Proofs.Ytmkejopkmdcfeaa

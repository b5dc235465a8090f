/-
  Chapter 5: the places of a map whose values are cut.
-/
import Derived.Test.YtgkbogcmmedmbaaGreatCs
namespace Go.Proofs.YtgkbogcmmedmbaaGreat
open Go.RowKit Rm

theorem fcells_two {w : World} {g : Nat} {lo hi : Rat} {a b c d : Int} (hl : g < w.heap.size) (e0 : lo.num = a) (e1 : (lo.den : Int) = b) (e2 : hi.num = c) (e3 : (hi.den : Int) = d) (c0 : w.cell? ⟨g, 0, none⟩ = some (.int .i64 a)) (c1 : w.cell? ⟨g, 1, none⟩ = some (.int .i64 b)) (c2 : w.cell? ⟨g, 2, none⟩ = some (.int .i64 c)) (c3 : w.cell? ⟨g, 3, none⟩ = some (.int .i64 d)) : FCells w g 2 ([lo, hi].map qf) := by
  subst e0 e1 e2 e3
  refine ⟨hl, fun i hi => ?_, fun i hi => ?_⟩
  · have h : i = 0 ∨ i = 1 := by omega
    rcases h with rfl | rfl
    · exact c0
    · exact c2
  · have h : i = 0 ∨ i = 1 := by omega
    rcases h with rfl | rfl
    · exact c1
    · exact c3
set_option maxRecDepth 100000 in
set_option maxHeartbeats 1600000 in
theorem placesCt_any (gf mf cf bf : Nat) (fs : List QP) (lo hi : Rat) (w : World) (hf : w.ownsRow bf 50 4 (.slice (some ⟨gf, 0, none⟩) (mf + 1) cf) (mf + 1) (ptcs (fs.map qp))) (hF : GMap fs) (hlo : Un lo) (hhi : Un hi) :
    Calls Tryz.prog 151 #[.agg #[.slice (some ⟨gf, 0, none⟩) (mf + 1) cf, .int .i64 lo.num, .int .i64 lo.den, .int .i64 hi.num, .int .i64 hi.den]] w fun e w' => PlO w.heap.size (ctP fs lo hi) e w' ∧ Below w.heap.size w w' := by
  have hlf := own_lenQ hf
  have hhf := hF.hi
  rw [hlf] at hhf
  have hgl := (hf.lt gf rfl).2
  have HU := hide (show ∀ y ∈ [lo, hi], Un y from fun y hy => by simp at hy; rcases hy with rfl | rfl <;> assumption)
  have HF := hide hf; clear hf
  have hcm : ctP fs lo hi = (bK (bqO fs) [lo, hi] 2).map (xsOf fs ++ ·) := rfl
  have hxl : ∀ b : List Rat, (xsOf fs ++ b).length = mf + 1 + b.length := fun b => by rw [List.length_append, xsOf_len, hlf]
  rw [hcm]
  have HXL := hide hxl
  clear hlf hcm hxl hlo hhi
  obtain ⟨ln, hln⟩ : ∃ r, r = lo.num := ⟨_, rfl⟩
  obtain ⟨ld, hld⟩ : ∃ r, r = (lo.den : Int) := ⟨_, rfl⟩
  obtain ⟨hn, hhn⟩ : ∃ r, r = hi.num := ⟨_, rfl⟩
  obtain ⟨hd, hhd⟩ : ∃ r, r = (hi.den : Int) := ⟨_, rfl⟩
  rw [← hln, ← hld, ← hhn, ← hhd]
  have HE := Lib.hid (show lo.num = ln ∧ (lo.den : Int) = ld ∧ hi.num = hn ∧ (hi.den : Int) = hd from ⟨hln.symm, hld.symm, hhn.symm, hhd.symm⟩)
  clear hln hld hhn hhd
  rcases hpo : bK (bqO fs) [lo, hi] 2 with _ | b
  case none =>
   have HPO := Lib.hid hpo; clear hpo
   go_enter Tryz.func151, Tryz.ntmps151
   go_upto_region 1 with fail
   have cb0 : (w.alloc (.cells #[.slice (some ⟨gf, 0, none⟩) (mf + 1) cf, .int .i64 ln, .int .i64 ld, .int .i64 hn, .int .i64 hd] 81)).cell? ⟨w.heap.size, 0, none⟩ = some (.slice (some ⟨gf, 0, none⟩) (mf + 1) cf) := by simp [go_sem]
   have cb1 : (w.alloc (.cells #[.slice (some ⟨gf, 0, none⟩) (mf + 1) cf, .int .i64 ln, .int .i64 ld, .int .i64 hn, .int .i64 hd] 81)).cell? ⟨w.heap.size, 1, none⟩ = some (.int .i64 ln) := by simp [go_sem]
   have cb2 : (w.alloc (.cells #[.slice (some ⟨gf, 0, none⟩) (mf + 1) cf, .int .i64 ln, .int .i64 ld, .int .i64 hn, .int .i64 hd] 81)).cell? ⟨w.heap.size, 2, none⟩ = some (.int .i64 ld) := by simp [go_sem]
   have cb3 : (w.alloc (.cells #[.slice (some ⟨gf, 0, none⟩) (mf + 1) cf, .int .i64 ln, .int .i64 ld, .int .i64 hn, .int .i64 hd] 81)).cell? ⟨w.heap.size, 3, none⟩ = some (.int .i64 hn) := by simp [go_sem]
   have cb4 : (w.alloc (.cells #[.slice (some ⟨gf, 0, none⟩) (mf + 1) cf, .int .i64 ln, .int .i64 ld, .int .i64 hn, .int .i64 hd] 81)).cell? ⟨w.heap.size, 4, none⟩ = some (.int .i64 hd) := by simp [go_sem]
   have hbb : Below w.heap.size w (w.alloc (.cells #[.slice (some ⟨gf, 0, none⟩) (mf + 1) cf, .int .i64 ln, .int .i64 ld, .int .i64 hn, .int .i64 hd] 81)) := (by repeat (first | with_reducible exact Below.refl _ _ | with_reducible assumption | (with_reducible refine Below.trans ?_ (Below.mono (by assumption) (by first | omega | (simp <;> omega)))) | with_reducible apply Below.drew | with_reducible apply below_drewN | (with_reducible refine Below.alloc ?_ (by first | omega | (simp <;> omega)) _) | (with_reducible refine Below.setCell ?_ (by first | omega | (simp <;> omega)) _)))
   have hwb : w.heap.size + 1 = (w.alloc (.cells #[.slice (some ⟨gf, 0, none⟩) (mf + 1) cf, .int .i64 ln, .int .i64 ld, .int .i64 hn, .int .i64 hd] 81)).heap.size := by simp
   generalize (w.alloc (.cells #[.slice (some ⟨gf, 0, none⟩) (mf + 1) cf, .int .i64 ln, .int .i64 ld, .int .i64 hn, .int .i64 hd] 81)) = wb at *
   have HWB := Lib.hid hwb; clear hwb
   have hzb : w.heap.size < wb.heap.size := by have := HWB.out; omega
   have HF1 := hide (own_below (unhide HF) hbb)
   go_region_held3 (fun w' => w'.cell? ⟨w.heap.size, 0, none⟩ = some (.slice (some ⟨gf, 0, none⟩) (mf + 1) cf) ∧ w'.cell? ⟨w.heap.size, 1, none⟩ = some (.int .i64 ln) ∧ w'.cell? ⟨w.heap.size, 2, none⟩ = some (.int .i64 ld) ∧ w'.cell? ⟨w.heap.size, 3, none⟩ = some (.int .i64 hn) ∧ w'.cell? ⟨w.heap.size, 4, none⟩ = some (.int .i64 hd)) (simp [go_sem, World.cell?_alloc_past, *])
    (first
      | (go_at_call 142; (with_reducible refine (placesOf_map gf (mf + 1) cf bf fs _ (own_below (unhide HF1) ?pb) (by omega)).mono ?_); (case pb => exact (by repeat (first | with_reducible exact Below.refl _ _ | with_reducible assumption | (with_reducible refine Below.trans ?_ (Below.mono (by assumption) (by first | omega | (simp <;> omega)))) | with_reducible apply Below.drew | with_reducible apply below_drewN | (with_reducible refine Below.alloc ?_ (by first | omega | (simp <;> omega)) _) | (with_reducible refine Below.setCell ?_ (by first | omega | (simp <;> omega)) _)))); rintro e w1 ⟨A1, d1, rfl, ho1, hbw1⟩; have hs1 := hbw1.size; (try simp at hs1); (skip; (try ((have kw1w.heap.sizeX0 := (bnew hbw1) (w.heap.size) ?pf); (case pf => (first | omega | (simp; done) | (simp; omega))); obtain ⟨kcw1w.heap.sizeX0, kfw1w.heap.sizeX0, klw1w.heap.sizeX0⟩ := kw1w.heap.sizeX0)); (try ((have kw1wb0 := (bnew hbw1) (wb.heap.size) ?pf); (case pf => (first | omega | (simp; done) | (simp; omega))); obtain ⟨kcw1wb0, kfw1wb0, klw1wb0⟩ := kw1wb0))); have HO1 := hide ho1; clear ho1)
      | (go_at_call 141; (with_reducible refine (withPlaces_any gf mf cf bf fs hF A1 (mf + 1) d1 w.heap.size (xsOf fs) _ 2 _ [lo, hi] _ (own_below (unhide HF1) ?p1) (own_below ((unhide HO1).mono ?p2) ?p3) ?p4 ?p5 rfl (by omega) (by omega) ?p7 (unhide HU)).mono ?_); (case p1 => exact (by repeat (first | with_reducible exact Below.refl _ _ | with_reducible assumption | (with_reducible refine Below.trans ?_ (Below.mono (by assumption) (by first | omega | (simp <;> omega)))) | with_reducible apply Below.drew | with_reducible apply below_drewN | (with_reducible refine Below.alloc ?_ (by first | omega | (simp <;> omega)) _) | (with_reducible refine Below.setCell ?_ (by first | omega | (simp <;> omega)) _)))); (case p2 => first | omega | (simp; omega)); (case p3 => exact (by repeat (first | with_reducible exact Below.refl _ _ | with_reducible assumption | (with_reducible refine Below.trans ?_ (Below.mono (by assumption) (by first | omega | (simp <;> omega)))) | with_reducible apply Below.drew | with_reducible apply below_drewN | (with_reducible refine Below.alloc ?_ (by first | omega | (simp <;> omega)) _) | (with_reducible refine Below.setCell ?_ (by first | omega | (simp <;> omega)) _)))); (case p4 => first | omega | (simp; omega));
          (case p5 => exact fcells_two (by first | omega | (simp; done) | (simp; omega)) HE.out.1 HE.out.2.1 HE.out.2.2.1 HE.out.2.2.2 (by simp [go_sem, *]) (by simp [go_sem, *]) (by simp [go_sem, *]) (by simp [go_sem, *]));
          (case p7 => (intro k hk; have hq := (unhide HO1).lt k hk; have hdr : wb.drew.heap.size = wb.heap.size := rfl; simp at hq; constructor <;> (first | omega | (simp; omega)))); rintro e w3 ⟨h3, h4, hg3⟩; obtain rfl := h4 HPO.out; clear h3 h4; have kw3 := fun o => World.cell?_of_block (a := ⟨w.heap.size, o, none⟩) (hg3.block w.heap.size (by first | omega | (simp; omega)) (fun e => by have hq := (unhide HO1).lt _ e.symm; have hdr : wb.drew.heap.size = wb.heap.size := rfl; simp at hq; omega))))
   all_goals
    have hz : Below w.heap.size w w3 := Below.grown (show Below w.heap.size w _ from (by repeat (first | with_reducible exact Below.refl _ _ | with_reducible assumption | (with_reducible refine Below.trans ?_ (Below.mono (by assumption) (by first | omega | (simp <;> omega)))) | with_reducible apply Below.drew | with_reducible apply below_drewN | (with_reducible refine Below.alloc ?_ (by first | omega | (simp <;> omega)) _) | (with_reducible refine Below.setCell ?_ (by first | omega | (simp <;> omega)) _)))) hg3 (by first | omega | (simp; omega)) (fun k e => by have hq := (unhide HO1).lt k e; have hdr : wb.drew.heap.size = wb.heap.size := rfl; simp at hq; omega)
    have HZ := hide hz
    clear hz hg3
    go_wp2_with fail
    go_ret2
    exact ⟨⟨fun l h => (by cases h), fun _ => rfl⟩, unhide HZ⟩
  case some =>
   have HPO := Lib.hid hpo; clear hpo
   go_enter Tryz.func151, Tryz.ntmps151
   go_upto_region 1 with fail
   have cb0 : (w.alloc (.cells #[.slice (some ⟨gf, 0, none⟩) (mf + 1) cf, .int .i64 ln, .int .i64 ld, .int .i64 hn, .int .i64 hd] 81)).cell? ⟨w.heap.size, 0, none⟩ = some (.slice (some ⟨gf, 0, none⟩) (mf + 1) cf) := by simp [go_sem]
   have cb1 : (w.alloc (.cells #[.slice (some ⟨gf, 0, none⟩) (mf + 1) cf, .int .i64 ln, .int .i64 ld, .int .i64 hn, .int .i64 hd] 81)).cell? ⟨w.heap.size, 1, none⟩ = some (.int .i64 ln) := by simp [go_sem]
   have cb2 : (w.alloc (.cells #[.slice (some ⟨gf, 0, none⟩) (mf + 1) cf, .int .i64 ln, .int .i64 ld, .int .i64 hn, .int .i64 hd] 81)).cell? ⟨w.heap.size, 2, none⟩ = some (.int .i64 ld) := by simp [go_sem]
   have cb3 : (w.alloc (.cells #[.slice (some ⟨gf, 0, none⟩) (mf + 1) cf, .int .i64 ln, .int .i64 ld, .int .i64 hn, .int .i64 hd] 81)).cell? ⟨w.heap.size, 3, none⟩ = some (.int .i64 hn) := by simp [go_sem]
   have cb4 : (w.alloc (.cells #[.slice (some ⟨gf, 0, none⟩) (mf + 1) cf, .int .i64 ln, .int .i64 ld, .int .i64 hn, .int .i64 hd] 81)).cell? ⟨w.heap.size, 4, none⟩ = some (.int .i64 hd) := by simp [go_sem]
   have hbb : Below w.heap.size w (w.alloc (.cells #[.slice (some ⟨gf, 0, none⟩) (mf + 1) cf, .int .i64 ln, .int .i64 ld, .int .i64 hn, .int .i64 hd] 81)) := (by repeat (first | with_reducible exact Below.refl _ _ | with_reducible assumption | (with_reducible refine Below.trans ?_ (Below.mono (by assumption) (by first | omega | (simp <;> omega)))) | with_reducible apply Below.drew | with_reducible apply below_drewN | (with_reducible refine Below.alloc ?_ (by first | omega | (simp <;> omega)) _) | (with_reducible refine Below.setCell ?_ (by first | omega | (simp <;> omega)) _)))
   have hwb : w.heap.size + 1 = (w.alloc (.cells #[.slice (some ⟨gf, 0, none⟩) (mf + 1) cf, .int .i64 ln, .int .i64 ld, .int .i64 hn, .int .i64 hd] 81)).heap.size := by simp
   generalize (w.alloc (.cells #[.slice (some ⟨gf, 0, none⟩) (mf + 1) cf, .int .i64 ln, .int .i64 ld, .int .i64 hn, .int .i64 hd] 81)) = wb at *
   have HWB := Lib.hid hwb; clear hwb
   have hzb : w.heap.size < wb.heap.size := by have := HWB.out; omega
   have HF1 := hide (own_below (unhide HF) hbb)
   go_region_held3 (fun w' => w'.cell? ⟨w.heap.size, 0, none⟩ = some (.slice (some ⟨gf, 0, none⟩) (mf + 1) cf) ∧ w'.cell? ⟨w.heap.size, 1, none⟩ = some (.int .i64 ln) ∧ w'.cell? ⟨w.heap.size, 2, none⟩ = some (.int .i64 ld) ∧ w'.cell? ⟨w.heap.size, 3, none⟩ = some (.int .i64 hn) ∧ w'.cell? ⟨w.heap.size, 4, none⟩ = some (.int .i64 hd)) (simp [go_sem, World.cell?_alloc_past, *])
    (first
      | (go_at_call 142; (with_reducible refine (placesOf_map gf (mf + 1) cf bf fs _ (own_below (unhide HF1) ?pb) (by omega)).mono ?_); (case pb => exact (by repeat (first | with_reducible exact Below.refl _ _ | with_reducible assumption | (with_reducible refine Below.trans ?_ (Below.mono (by assumption) (by first | omega | (simp <;> omega)))) | with_reducible apply Below.drew | with_reducible apply below_drewN | (with_reducible refine Below.alloc ?_ (by first | omega | (simp <;> omega)) _) | (with_reducible refine Below.setCell ?_ (by first | omega | (simp <;> omega)) _)))); rintro e w1 ⟨A1, d1, rfl, ho1, hbw1⟩; have hs1 := hbw1.size; (try simp at hs1); (skip; (try ((have kw1w.heap.sizeX0 := (bnew hbw1) (w.heap.size) ?pf); (case pf => (first | omega | (simp; done) | (simp; omega))); obtain ⟨kcw1w.heap.sizeX0, kfw1w.heap.sizeX0, klw1w.heap.sizeX0⟩ := kw1w.heap.sizeX0)); (try ((have kw1wb0 := (bnew hbw1) (wb.heap.size) ?pf); (case pf => (first | omega | (simp; done) | (simp; omega))); obtain ⟨kcw1wb0, kfw1wb0, klw1wb0⟩ := kw1wb0))); have HO1 := hide ho1; clear ho1)
      | (go_at_call 141; (with_reducible refine (withPlaces_any gf mf cf bf fs hF A1 (mf + 1) d1 w.heap.size (xsOf fs) _ 2 _ [lo, hi] _ (own_below (unhide HF1) ?p1) (own_below ((unhide HO1).mono ?p2) ?p3) ?p4 ?p5 rfl (by omega) (by omega) ?p7 (unhide HU)).mono ?_); (case p1 => exact (by repeat (first | with_reducible exact Below.refl _ _ | with_reducible assumption | (with_reducible refine Below.trans ?_ (Below.mono (by assumption) (by first | omega | (simp <;> omega)))) | with_reducible apply Below.drew | with_reducible apply below_drewN | (with_reducible refine Below.alloc ?_ (by first | omega | (simp <;> omega)) _) | (with_reducible refine Below.setCell ?_ (by first | omega | (simp <;> omega)) _)))); (case p2 => first | omega | (simp; omega)); (case p3 => exact (by repeat (first | with_reducible exact Below.refl _ _ | with_reducible assumption | (with_reducible refine Below.trans ?_ (Below.mono (by assumption) (by first | omega | (simp <;> omega)))) | with_reducible apply Below.drew | with_reducible apply below_drewN | (with_reducible refine Below.alloc ?_ (by first | omega | (simp <;> omega)) _) | (with_reducible refine Below.setCell ?_ (by first | omega | (simp <;> omega)) _)))); (case p4 => first | omega | (simp; omega));
          (case p5 => exact fcells_two (by first | omega | (simp; done) | (simp; omega)) HE.out.1 HE.out.2.1 HE.out.2.2.1 HE.out.2.2.2 (by simp [go_sem, *]) (by simp [go_sem, *]) (by simp [go_sem, *]) (by simp [go_sem, *]));
          (case p7 => (intro k hk; have hq := (unhide HO1).lt k hk; have hdr : wb.drew.heap.size = wb.heap.size := rfl; simp at hq; constructor <;> (first | omega | (simp; omega)))); rintro e w3 ⟨h3, h4, hg3⟩; obtain ⟨A3, d3, rfl, ho3⟩ := h3 _ HPO.out; have HO3 := hide ho3; clear ho3; clear h3 h4; have kw3 := fun o => World.cell?_of_block (a := ⟨w.heap.size, o, none⟩) (hg3.block w.heap.size (by first | omega | (simp; omega)) (fun e => by have hq := (unhide HO1).lt _ e.symm; have hdr : wb.drew.heap.size = wb.heap.size := rfl; simp at hq; omega))))
   all_goals
    have hz : Below w.heap.size w w3 := Below.grown (show Below w.heap.size w _ from (by repeat (first | with_reducible exact Below.refl _ _ | with_reducible assumption | (with_reducible refine Below.trans ?_ (Below.mono (by assumption) (by first | omega | (simp <;> omega)))) | with_reducible apply Below.drew | with_reducible apply below_drewN | (with_reducible refine Below.alloc ?_ (by first | omega | (simp <;> omega)) _) | (with_reducible refine Below.setCell ?_ (by first | omega | (simp <;> omega)) _)))) hg3 (by first | omega | (simp; omega)) (fun k e => by have hq := (unhide HO1).lt k e; have hdr : wb.drew.heap.size = wb.heap.size := rfl; simp at hq; omega)
    have HZ := hide hz
    clear hz hg3
    go_wp2_with fail
    go_ret2
    exact ⟨⟨fun l h => (by injection h with h; subst h; exact ⟨A3, d3, by rw [(unhide HXL)] <;> rfl, by rw [(unhide HXL)]; exact unhide HO3⟩), fun h => (by cases h)⟩, unhide HZ⟩
end Go.Proofs.YtgkbogcmmedmbaaGreat

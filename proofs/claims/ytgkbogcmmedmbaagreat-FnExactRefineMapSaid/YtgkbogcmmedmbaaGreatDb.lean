/-
  Chapter 5: the places of half sums and of refined maps.
-/
import Derived.Test.YtgkbogcmmedmbaaGreatCs
namespace Go.Proofs.YtgkbogcmmedmbaaGreat
open Go.RowKit Rm

set_option maxRecDepth 100000 in
set_option maxHeartbeats 800000 in
theorem placesHs_any (gf mf cf bf gg mg cg bg : Nat) (fs gs : List QP) (w : World) (hf : w.ownsRow bf 50 4 (.slice (some ⟨gf, 0, none⟩) (mf + 1) cf) (mf + 1) (ptcs (fs.map qp))) (hg : w.ownsRow bg 50 4 (.slice (some ⟨gg, 0, none⟩) (mg + 1) cg) (mg + 1) (ptcs (gs.map qp))) (hF : GMap fs) (hG : GMap gs) :
    Calls Tryz.prog 149 #[.agg #[.slice (some ⟨gf, 0, none⟩) (mf + 1) cf, .slice (some ⟨gg, 0, none⟩) (mg + 1) cg]] w fun e w' => PlO w.heap.size (some (xsOf fs ++ xsOf gs)) e w' ∧ Below w.heap.size w w' := by
  have hlf := own_lenQ hf
  have hlg := own_lenQ hg
  have hhf := hF.hi
  have hhg := hG.hi
  rw [hlf] at hhf
  rw [hlg] at hhg
  have HF := hide hf; have HG := hide hg; clear hf hg
  have HXL := Lib.hid (show (xsOf fs ++ xsOf gs).length = mf + 1 + (mg + 1) by rw [List.length_append, xsOf_len, xsOf_len, hlf, hlg])
  clear hlf hlg
  go_enter Tryz.func149, Tryz.ntmps149
  go_wp2_with (go_at_call 150; (with_reducible refine (placesOfBoth_map gf (mf + 1) cf bf gg (mg + 1) cg bg fs gs _ (own_below (unhide HF) ?p1) (own_below (unhide HG) ?p2) (by omega) (by omega)).mono ?_); (case p1 => exact (by repeat (first | with_reducible exact Below.refl _ _ | with_reducible assumption | (with_reducible refine Below.trans ?_ (Below.mono (by assumption) (by first | omega | (simp <;> omega)))) | with_reducible apply Below.drew | with_reducible apply below_drewN | (with_reducible refine Below.alloc ?_ (by first | omega | (simp <;> omega)) _) | (with_reducible refine Below.setCell ?_ (by first | omega | (simp <;> omega)) _)))); (case p2 => exact (by repeat (first | with_reducible exact Below.refl _ _ | with_reducible assumption | (with_reducible refine Below.trans ?_ (Below.mono (by assumption) (by first | omega | (simp <;> omega)))) | with_reducible apply Below.drew | with_reducible apply below_drewN | (with_reducible refine Below.alloc ?_ (by first | omega | (simp <;> omega)) _) | (with_reducible refine Below.setCell ?_ (by first | omega | (simp <;> omega)) _)))); rintro e w1 ⟨A1, d1, rfl, ho1, hbw1⟩; have HO1 := hide ho1; clear ho1)
  have hz : Below w.heap.size w w1 := (by repeat (first | with_reducible exact Below.refl _ _ | with_reducible assumption | (with_reducible refine Below.trans ?_ (Below.mono (by assumption) (by first | omega | (simp <;> omega)))) | with_reducible apply Below.drew | with_reducible apply below_drewN | (with_reducible refine Below.alloc ?_ (by first | omega | (simp <;> omega)) _) | (with_reducible refine Below.setCell ?_ (by first | omega | (simp <;> omega)) _)))
  have HZ := hide hz
  clear hz hbw1
  go_ret2
  exact ⟨⟨fun l h => (by injection h with h; subst h; exact ⟨A1, d1, by rw [HXL.out] <;> rfl, by rw [HXL.out]; exact (unhide HO1).mono (by simp)⟩), fun h => (by cases h)⟩, unhide HZ⟩

set_option maxRecDepth 100000 in
set_option maxHeartbeats 1600000 in
theorem placesRf_any (gf mf cf bf : Nat) (Ax : Option Addr) (nx cx bx : Nat) (fs : List QP) (xs : List Rat) (w : World) (hf : w.ownsRow bf 50 4 (.slice (some ⟨gf, 0, none⟩) (mf + 1) cf) (mf + 1) (ptcs (fs.map qp))) (hx : w.ownsRow bx 46 2 (.slice Ax nx cx) nx (frcs (xs.map qf))) (hF : GMap fs) (hnx : nx ≤ 20) :
    Calls Tryz.prog 148 #[.agg #[.slice (some ⟨gf, 0, none⟩) (mf + 1) cf, .slice Ax nx cx]] w fun e w' => PlO w.heap.size (some (xsOf fs ++ xs)) e w' ∧ Below w.heap.size w w' := by
  obtain ⟨i0, hi0, hz0, hz1, hz2⟩ := info_parts iRat
  have hlf := own_lenQ hf
  have hhf := hF.hi
  rw [hlf] at hhf
  have hlx := own_lenR hx
  have hl3 := hx.1
  have HF := hide hf; have HX := hide hx; clear hf hx
  have HXL := Lib.hid (show (xsOf fs ++ xs).length = mf + 1 + nx by rw [List.length_append, xsOf_len, hlf, hlx])
  clear hlf hlx
  go_enter Tryz.func148, Tryz.ntmps148
  go_upto_region 1 with fail
  have cb0 : (w.alloc (.cells #[.slice (some ⟨gf, 0, none⟩) (mf + 1) cf, .slice Ax nx cx] 68)).cell? ⟨w.heap.size, 0, none⟩ = some (.slice (some ⟨gf, 0, none⟩) (mf + 1) cf) := by simp [go_sem]
  have cb1 : (w.alloc (.cells #[.slice (some ⟨gf, 0, none⟩) (mf + 1) cf, .slice Ax nx cx] 68)).cell? ⟨w.heap.size, 1, none⟩ = some (.slice Ax nx cx) := by simp [go_sem]
  have hbb : Below w.heap.size w (w.alloc (.cells #[.slice (some ⟨gf, 0, none⟩) (mf + 1) cf, .slice Ax nx cx] 68)) := (by repeat (first | with_reducible exact Below.refl _ _ | with_reducible assumption | (with_reducible refine Below.trans ?_ (Below.mono (by assumption) (by first | omega | (simp <;> omega)))) | with_reducible apply Below.drew | with_reducible apply below_drewN | (with_reducible refine Below.alloc ?_ (by first | omega | (simp <;> omega)) _) | (with_reducible refine Below.setCell ?_ (by first | omega | (simp <;> omega)) _)))
  have hwb : w.heap.size + 1 = (w.alloc (.cells #[.slice (some ⟨gf, 0, none⟩) (mf + 1) cf, .slice Ax nx cx] 68)).heap.size := by simp
  generalize (w.alloc (.cells #[.slice (some ⟨gf, 0, none⟩) (mf + 1) cf, .slice Ax nx cx] 68)) = wb at *
  have HWB := Lib.hid hwb; clear hwb
  have hzb : w.heap.size < wb.heap.size := by have := HWB.out; omega
  have HF1 := hide (own_below (unhide HF) hbb); have HX1 := hide (own_below (unhide HX) hbb)
  go_region_held3 (fun w' => w'.cell? ⟨w.heap.size, 0, none⟩ = some (.slice (some ⟨gf, 0, none⟩) (mf + 1) cf) ∧ w'.cell? ⟨w.heap.size, 1, none⟩ = some (.slice Ax nx cx)) (simp [go_sem, *])
    (first
      | (go_at_call 142; (with_reducible refine (placesOf_map gf (mf + 1) cf bf fs _ (own_below (unhide HF1) ?pb) (by omega)).mono ?_); (case pb => exact (by repeat (first | with_reducible exact Below.refl _ _ | with_reducible assumption | (with_reducible refine Below.trans ?_ (Below.mono (by assumption) (by first | omega | (simp <;> omega)))) | with_reducible apply Below.drew | with_reducible apply below_drewN | (with_reducible refine Below.alloc ?_ (by first | omega | (simp <;> omega)) _) | (with_reducible refine Below.setCell ?_ (by first | omega | (simp <;> omega)) _)))); rintro e w1 ⟨A1, d1, rfl, ho1, hbw1⟩; have hs1 := hbw1.size; (try simp at hs1); (skip; (try ((have kw1w.heap.sizeX0 := (bnew hbw1) (w.heap.size) ?pf); (case pf => (first | omega | (simp; done) | (simp; omega))); obtain ⟨kcw1w.heap.sizeX0, kfw1w.heap.sizeX0, klw1w.heap.sizeX0⟩ := kw1w.heap.sizeX0))); have HO1 := hide ho1; clear ho1)
      | (refine step_append_any (by rfl) _ _ _ (by rfl) w.heap.size 46 i0 _ 2 16 Tryz.underlying38 hi0 hz0 hz1 hz2 rfl (by omega) (.slice A1 (mf + 1) d1) (mf + 1) _ (by rfl) (own_below ((unhide HO1).mono ?p1) ?p2) _ nx _ (by rfl) (lies_own (own_below (unhide HX1) ?p3)) hl3 (frcs_one rfl) (Nat.le_trans (by omega) maxLen_ge) (by omega) (by first | omega | (simp; omega)) (mf + 1 + nx) rfl ?_; (case p1 => first | omega | (simp; omega)); (case p2 => exact (by repeat (first | with_reducible exact Below.refl _ _ | with_reducible assumption | (with_reducible refine Below.trans ?_ (Below.mono (by assumption) (by first | omega | (simp <;> omega)))) | with_reducible apply Below.drew | with_reducible apply below_drewN | (with_reducible refine Below.alloc ?_ (by first | omega | (simp <;> omega)) _) | (with_reducible refine Below.setCell ?_ (by first | omega | (simp <;> omega)) _)))); (case p3 => exact (by repeat (first | with_reducible exact Below.refl _ _ | with_reducible assumption | (with_reducible refine Below.trans ?_ (Below.mono (by assumption) (by first | omega | (simp <;> omega)))) | with_reducible apply Below.drew | with_reducible apply below_drewN | (with_reducible refine Below.alloc ?_ (by first | omega | (simp <;> omega)) _) | (with_reducible refine Below.setCell ?_ (by first | omega | (simp <;> omega)) _)))); intro A4 c4 w4 hown4 hgrow4; have kw3 := fun o => World.cell?_of_block (a := ⟨w.heap.size, o, none⟩) (hgrow4.block w.heap.size (by first | omega | (simp; omega)) (fun e => by have hq := (unhide HO1).lt _ e.symm; have hdr : wb.drew.heap.size = wb.heap.size := rfl; simp at hq; omega))))
  all_goals
    have hz : Below w.heap.size w w4 := Below.grown (show Below w.heap.size w _ from (by repeat (first | with_reducible exact Below.refl _ _ | with_reducible assumption | (with_reducible refine Below.trans ?_ (Below.mono (by assumption) (by first | omega | (simp <;> omega)))) | with_reducible apply Below.drew | with_reducible apply below_drewN | (with_reducible refine Below.alloc ?_ (by first | omega | (simp <;> omega)) _) | (with_reducible refine Below.setCell ?_ (by first | omega | (simp <;> omega)) _)))) hgrow4 (by first | omega | (simp; omega)) (fun k e => by have hq := (unhide HO1).lt k e; have hdr : wb.drew.heap.size = wb.heap.size := rfl; simp at hq; omega)
    rw [frcs_app] at hown4
    have HO4 := hide hown4
    have HZ := hide hz
    clear hz hgrow4 hown4
    go_wp2_with fail
    go_ret2
    exact ⟨⟨fun l h => (by injection h with h; subst h; exact ⟨A4, c4, by rw [HXL.out] <;> rfl, by rw [HXL.out]; exact unhide HO4⟩), fun h => (by cases h)⟩, unhide HZ⟩
end Go.Proofs.YtgkbogcmmedmbaaGreat

/-
  Chapter 5: the places of the operations.
-/
import Derived.Test.YtjggjegjhcpjhaaGreatCi
namespace Go.Proofs.YtjggjegjhcpjhaaGreat
open Go.RowKit Rm

/-- A list of places, if there is one. -/
def PlO (B : Nat) (po : Option (List Rat)) (e : Ending) (w' : World) : Prop :=
  (∀ l, po = some l → ∃ (A : Option Addr) (d : Nat), e = .returned (.tuple #[.slice A l.length d, .bool true]) ∧ w'.ownsRow B 37 2 (.slice A l.length d) l.length (frcs (l.map qf))) ∧
  (po = none → e = .returned (.tuple #[.slice none 0 0, .bool false]))
theorem own_some {w : World} {base n c : Nat} {A : Option Addr} {e : TypeId} {size : Nat} {xs : List Value} (h : w.ownsRow base e size (.slice A n c) n xs) (hn : 0 < n) : ∃ g, A = some ⟨g, 0, none⟩ ∧ base ≤ g ∧ g < w.heap.size := by
  obtain ⟨g, cap, hv, _, hlt⟩ := h.form hn
  have e1 : A = some ⟨g, 0, none⟩ := by injection hv
  subst e1
  exact ⟨g, rfl, (h.lt g rfl).1, hlt⟩
theorem own_lenQ {w : World} {base g n c : Nat} {qs : List QP} (h : w.ownsRow base 63 4 (.slice (some ⟨g, 0, none⟩) n c) n (ptcs (qs.map qp))) : qs.length = n := by have := own_len h; rw [List.length_map] at this; exact this
def cmP (fs gs : List QP) : Option (List Rat) := (bK (bqO gs) (xsOf fs) fs.length).map (xsOf gs ++ ·)
def ctP (fs : List QP) (lo hi : Rat) : Option (List Rat) := (bK (bqO fs) [lo, hi] 2).map (xsOf fs ++ ·)

set_option maxRecDepth 100000 in
set_option maxHeartbeats 1600000 in
theorem placesCm_any (gf mf cf bf gg mg cg bg : Nat) (fs gs : List QP) (w : World) (hf : w.ownsRow bf 63 4 (.slice (some ⟨gf, 0, none⟩) (mf + 1) cf) (mf + 1) (ptcs (fs.map qp))) (hg : w.ownsRow bg 63 4 (.slice (some ⟨gg, 0, none⟩) (mg + 1) cg) (mg + 1) (ptcs (gs.map qp))) (hF : GMap fs) (hG : GMap gs) :
    Calls Tryz.prog 191 #[.agg #[.slice (some ⟨gf, 0, none⟩) (mf + 1) cf, .slice (some ⟨gg, 0, none⟩) (mg + 1) cg]] w fun e w' => PlO w.heap.size (cmP fs gs) e w' ∧ Below w.heap.size w w' := by
  have hlf := own_lenQ hf
  have hlg := own_lenQ hg
  have hhf := hF.hi
  have hhg := hG.hi
  rw [hlf] at hhf
  rw [hlg] at hhg
  have hgl := (hg.lt gg rfl).2
  have HU := hide (xsOf_un hF)
  have HF := hide hf; have HG := hide hg; clear hf hg
  have hcm : cmP fs gs = (bK (bqO gs) (xsOf fs) (mf + 1)).map (xsOf gs ++ ·) := by unfold cmP; rw [hlf]
  have hxl : ∀ b : List Rat, (xsOf gs ++ b).length = mg + 1 + b.length := fun b => by rw [List.length_append, xsOf_len, hlg]
  rw [hcm]
  have HXL := hide hxl
  have HL := Lib.hid (And.intro hlf hlg); clear hlf hlg hcm hxl
  rcases hpo : bK (bqO gs) (xsOf fs) (mf + 1) with _ | b
  case none =>
   have HPO := Lib.hid hpo; clear hpo
   go_enter Tryz.func191, Tryz.ntmps191
   go_upto_region 1 with fail
   have cb0 : (w.alloc (.cells #[.slice (some ⟨gf, 0, none⟩) (mf + 1) cf, .slice (some ⟨gg, 0, none⟩) (mg + 1) cg] 70)).cell? ⟨w.heap.size, 0, none⟩ = some (.slice (some ⟨gf, 0, none⟩) (mf + 1) cf) := by simp [go_sem]
   have cb1 : (w.alloc (.cells #[.slice (some ⟨gf, 0, none⟩) (mf + 1) cf, .slice (some ⟨gg, 0, none⟩) (mg + 1) cg] 70)).cell? ⟨w.heap.size, 1, none⟩ = some (.slice (some ⟨gg, 0, none⟩) (mg + 1) cg) := by simp [go_sem]
   have hbb : Below w.heap.size w (w.alloc (.cells #[.slice (some ⟨gf, 0, none⟩) (mf + 1) cf, .slice (some ⟨gg, 0, none⟩) (mg + 1) cg] 70)) := (by repeat (first | with_reducible exact Below.refl _ _ | with_reducible assumption | (with_reducible refine Below.trans ?_ (Below.mono (by assumption) (by first | omega | (simp <;> omega)))) | with_reducible apply Below.drew | with_reducible apply below_drewN | (with_reducible refine Below.alloc ?_ (by first | omega | (simp <;> omega)) _) | (with_reducible refine Below.setCell ?_ (by first | omega | (simp <;> omega)) _)))
   have hwb : w.heap.size + 1 = (w.alloc (.cells #[.slice (some ⟨gf, 0, none⟩) (mf + 1) cf, .slice (some ⟨gg, 0, none⟩) (mg + 1) cg] 70)).heap.size := by simp
   generalize (w.alloc (.cells #[.slice (some ⟨gf, 0, none⟩) (mf + 1) cf, .slice (some ⟨gg, 0, none⟩) (mg + 1) cg] 70)) = wb at *
   have HWB := Lib.hid hwb; clear hwb
   have hzb : w.heap.size < wb.heap.size := by have := HWB.out; omega
   have HF1 := hide (own_below (unhide HF) hbb); have HG1 := hide (own_below (unhide HG) hbb)
   go_region_held3 (fun w' => w'.cell? ⟨w.heap.size, 0, none⟩ = some (.slice (some ⟨gf, 0, none⟩) (mf + 1) cf) ∧ w'.cell? ⟨w.heap.size, 1, none⟩ = some (.slice (some ⟨gg, 0, none⟩) (mg + 1) cg)) (simp [go_sem, *])
     (first
       | (go_at_call 193; (with_reducible refine (placesOf_map gg (mg + 1) cg bg gs _ (own_below (unhide HG1) ?pb) (by omega)).mono ?_); (case pb => exact (by repeat (first | with_reducible exact Below.refl _ _ | with_reducible assumption | (with_reducible refine Below.trans ?_ (Below.mono (by assumption) (by first | omega | (simp <;> omega)))) | with_reducible apply Below.drew | with_reducible apply below_drewN | (with_reducible refine Below.alloc ?_ (by first | omega | (simp <;> omega)) _) | (with_reducible refine Below.setCell ?_ (by first | omega | (simp <;> omega)) _)))); rintro e w1 ⟨A1, d1, rfl, ho1, hbw1⟩; have hs1 := hbw1.size; (try simp at hs1); (skip; (try ((have kw1w.heap.sizeX0 := (bnew hbw1) (w.heap.size) ?pf); (case pf => (first | omega | (simp; done) | (simp; omega))); obtain ⟨kcw1w.heap.sizeX0, kfw1w.heap.sizeX0, klw1w.heap.sizeX0⟩ := kw1w.heap.sizeX0))); have HO1 := hide ho1; clear ho1)
       | (go_at_call 193; (with_reducible refine (placesOf_map gf (mf + 1) cf bf fs _ (own_below (unhide HF1) ?pb) (by omega)).mono ?_); (case pb => exact (by repeat (first | with_reducible exact Below.refl _ _ | with_reducible assumption | (with_reducible refine Below.trans ?_ (Below.mono (by assumption) (by first | omega | (simp <;> omega)))) | with_reducible apply Below.drew | with_reducible apply below_drewN | (with_reducible refine Below.alloc ?_ (by first | omega | (simp <;> omega)) _) | (with_reducible refine Below.setCell ?_ (by first | omega | (simp <;> omega)) _)))); rintro e w2 ⟨A2, d2, rfl, ho2, hbw2⟩; obtain ⟨g2, rfl, hB2, hl2⟩ := own_some ho2 (by omega); have hs2 := hbw2.size; (try simp at hs2); (skip; (try ((have kw2w.heap.sizeX0 := (bnew hbw2) (w.heap.size) ?pf); (case pf => (first | omega | (simp; done) | (simp; omega))); obtain ⟨kcw2w.heap.sizeX0, kfw2w.heap.sizeX0, klw2w.heap.sizeX0⟩ := kw2w.heap.sizeX0))); have HO2 := hide ho2; clear ho2)
       | (go_at_call 192; (with_reducible refine (withPlaces_any gg mg cg bg gs hG A1 (mg + 1) d1 w.heap.size (xsOf gs) g2 (mf + 1) d2 (xsOf fs) _ (own_below (unhide HG1) ?p1) (own_below ((unhide HO1).mono ?p2) ?p3) ?p4 ((fcells_own (unhide HO2)).below ?p5) ?p6 (by omega) (by omega) ?p7 (unhide HU)).mono ?_); (case p1 => exact (by repeat (first | with_reducible exact Below.refl _ _ | with_reducible assumption | (with_reducible refine Below.trans ?_ (Below.mono (by assumption) (by first | omega | (simp <;> omega)))) | with_reducible apply Below.drew | with_reducible apply below_drewN | (with_reducible refine Below.alloc ?_ (by first | omega | (simp <;> omega)) _) | (with_reducible refine Below.setCell ?_ (by first | omega | (simp <;> omega)) _)))); (case p2 => first | omega | (simp; omega)); (case p3 => exact (by repeat (first | with_reducible exact Below.refl _ _ | with_reducible assumption | (with_reducible refine Below.trans ?_ (Below.mono (by assumption) (by first | omega | (simp <;> omega)))) | with_reducible apply Below.drew | with_reducible apply below_drewN | (with_reducible refine Below.alloc ?_ (by first | omega | (simp <;> omega)) _) | (with_reducible refine Below.setCell ?_ (by first | omega | (simp <;> omega)) _)))); (case p4 => first | omega | (simp; omega)); (case p5 => exact (by repeat (first | with_reducible exact Below.refl _ _ | with_reducible assumption | (with_reducible refine Below.trans ?_ (Below.mono (by assumption) (by first | omega | (simp <;> omega)))) | with_reducible apply Below.drew | with_reducible apply below_drewN | (with_reducible refine Below.alloc ?_ (by first | omega | (simp <;> omega)) _) | (with_reducible refine Below.setCell ?_ (by first | omega | (simp <;> omega)) _)))); (case p6 => rw [xsOf_len, HL.out.1]); (case p7 => (intro k hk; have hq := (unhide HO1).lt k hk; have hdr : wb.drew.heap.size = wb.heap.size := rfl; constructor <;> omega)); rintro e w3 ⟨h3, h4, hg3⟩; obtain rfl := h4 HPO.out; clear h3 h4; have kw3 : ∀ o, w3.cell? ⟨w.heap.size, o, none⟩ = w2.cell? ⟨w.heap.size, o, none⟩ := fun o => World.cell?_of_block (a := ⟨w.heap.size, o, none⟩) (hg3.block _ (by show w.heap.size < _; omega) (fun e => by have hq := (unhide HO1).lt _ e.symm; have hdr : wb.drew.heap.size = wb.heap.size := rfl; simp at hq; omega))))
   all_goals
    have hz : Below w.heap.size w w3 := Below.grown (show Below w.heap.size w w2 from (by repeat (first | with_reducible exact Below.refl _ _ | with_reducible assumption | (with_reducible refine Below.trans ?_ (Below.mono (by assumption) (by first | omega | (simp <;> omega)))) | with_reducible apply Below.drew | with_reducible apply below_drewN | (with_reducible refine Below.alloc ?_ (by first | omega | (simp <;> omega)) _) | (with_reducible refine Below.setCell ?_ (by first | omega | (simp <;> omega)) _)))) hg3 (by omega) (fun k e => by have hq := (unhide HO1).lt k e; have hdr : wb.drew.heap.size = wb.heap.size := rfl; omega)
    have HZ := hide hz
    clear hz hg3
    go_wp2_with fail
    go_ret2
    exact ⟨⟨fun l h => (by cases h), fun _ => rfl⟩, unhide HZ⟩
  case some =>
   have HPO := Lib.hid hpo; clear hpo
   go_enter Tryz.func191, Tryz.ntmps191
   go_upto_region 1 with fail
   have cb0 : (w.alloc (.cells #[.slice (some ⟨gf, 0, none⟩) (mf + 1) cf, .slice (some ⟨gg, 0, none⟩) (mg + 1) cg] 70)).cell? ⟨w.heap.size, 0, none⟩ = some (.slice (some ⟨gf, 0, none⟩) (mf + 1) cf) := by simp [go_sem]
   have cb1 : (w.alloc (.cells #[.slice (some ⟨gf, 0, none⟩) (mf + 1) cf, .slice (some ⟨gg, 0, none⟩) (mg + 1) cg] 70)).cell? ⟨w.heap.size, 1, none⟩ = some (.slice (some ⟨gg, 0, none⟩) (mg + 1) cg) := by simp [go_sem]
   have hbb : Below w.heap.size w (w.alloc (.cells #[.slice (some ⟨gf, 0, none⟩) (mf + 1) cf, .slice (some ⟨gg, 0, none⟩) (mg + 1) cg] 70)) := (by repeat (first | with_reducible exact Below.refl _ _ | with_reducible assumption | (with_reducible refine Below.trans ?_ (Below.mono (by assumption) (by first | omega | (simp <;> omega)))) | with_reducible apply Below.drew | with_reducible apply below_drewN | (with_reducible refine Below.alloc ?_ (by first | omega | (simp <;> omega)) _) | (with_reducible refine Below.setCell ?_ (by first | omega | (simp <;> omega)) _)))
   have hwb : w.heap.size + 1 = (w.alloc (.cells #[.slice (some ⟨gf, 0, none⟩) (mf + 1) cf, .slice (some ⟨gg, 0, none⟩) (mg + 1) cg] 70)).heap.size := by simp
   generalize (w.alloc (.cells #[.slice (some ⟨gf, 0, none⟩) (mf + 1) cf, .slice (some ⟨gg, 0, none⟩) (mg + 1) cg] 70)) = wb at *
   have HWB := Lib.hid hwb; clear hwb
   have hzb : w.heap.size < wb.heap.size := by have := HWB.out; omega
   have HF1 := hide (own_below (unhide HF) hbb); have HG1 := hide (own_below (unhide HG) hbb)
   go_region_held3 (fun w' => w'.cell? ⟨w.heap.size, 0, none⟩ = some (.slice (some ⟨gf, 0, none⟩) (mf + 1) cf) ∧ w'.cell? ⟨w.heap.size, 1, none⟩ = some (.slice (some ⟨gg, 0, none⟩) (mg + 1) cg)) (simp [go_sem, *])
     (first
       | (go_at_call 193; (with_reducible refine (placesOf_map gg (mg + 1) cg bg gs _ (own_below (unhide HG1) ?pb) (by omega)).mono ?_); (case pb => exact (by repeat (first | with_reducible exact Below.refl _ _ | with_reducible assumption | (with_reducible refine Below.trans ?_ (Below.mono (by assumption) (by first | omega | (simp <;> omega)))) | with_reducible apply Below.drew | with_reducible apply below_drewN | (with_reducible refine Below.alloc ?_ (by first | omega | (simp <;> omega)) _) | (with_reducible refine Below.setCell ?_ (by first | omega | (simp <;> omega)) _)))); rintro e w1 ⟨A1, d1, rfl, ho1, hbw1⟩; have hs1 := hbw1.size; (try simp at hs1); (skip; (try ((have kw1w.heap.sizeX0 := (bnew hbw1) (w.heap.size) ?pf); (case pf => (first | omega | (simp; done) | (simp; omega))); obtain ⟨kcw1w.heap.sizeX0, kfw1w.heap.sizeX0, klw1w.heap.sizeX0⟩ := kw1w.heap.sizeX0))); have HO1 := hide ho1; clear ho1)
       | (go_at_call 193; (with_reducible refine (placesOf_map gf (mf + 1) cf bf fs _ (own_below (unhide HF1) ?pb) (by omega)).mono ?_); (case pb => exact (by repeat (first | with_reducible exact Below.refl _ _ | with_reducible assumption | (with_reducible refine Below.trans ?_ (Below.mono (by assumption) (by first | omega | (simp <;> omega)))) | with_reducible apply Below.drew | with_reducible apply below_drewN | (with_reducible refine Below.alloc ?_ (by first | omega | (simp <;> omega)) _) | (with_reducible refine Below.setCell ?_ (by first | omega | (simp <;> omega)) _)))); rintro e w2 ⟨A2, d2, rfl, ho2, hbw2⟩; obtain ⟨g2, rfl, hB2, hl2⟩ := own_some ho2 (by omega); have hs2 := hbw2.size; (try simp at hs2); (skip; (try ((have kw2w.heap.sizeX0 := (bnew hbw2) (w.heap.size) ?pf); (case pf => (first | omega | (simp; done) | (simp; omega))); obtain ⟨kcw2w.heap.sizeX0, kfw2w.heap.sizeX0, klw2w.heap.sizeX0⟩ := kw2w.heap.sizeX0))); have HO2 := hide ho2; clear ho2)
       | (go_at_call 192; (with_reducible refine (withPlaces_any gg mg cg bg gs hG A1 (mg + 1) d1 w.heap.size (xsOf gs) g2 (mf + 1) d2 (xsOf fs) _ (own_below (unhide HG1) ?p1) (own_below ((unhide HO1).mono ?p2) ?p3) ?p4 ((fcells_own (unhide HO2)).below ?p5) ?p6 (by omega) (by omega) ?p7 (unhide HU)).mono ?_); (case p1 => exact (by repeat (first | with_reducible exact Below.refl _ _ | with_reducible assumption | (with_reducible refine Below.trans ?_ (Below.mono (by assumption) (by first | omega | (simp <;> omega)))) | with_reducible apply Below.drew | with_reducible apply below_drewN | (with_reducible refine Below.alloc ?_ (by first | omega | (simp <;> omega)) _) | (with_reducible refine Below.setCell ?_ (by first | omega | (simp <;> omega)) _)))); (case p2 => first | omega | (simp; omega)); (case p3 => exact (by repeat (first | with_reducible exact Below.refl _ _ | with_reducible assumption | (with_reducible refine Below.trans ?_ (Below.mono (by assumption) (by first | omega | (simp <;> omega)))) | with_reducible apply Below.drew | with_reducible apply below_drewN | (with_reducible refine Below.alloc ?_ (by first | omega | (simp <;> omega)) _) | (with_reducible refine Below.setCell ?_ (by first | omega | (simp <;> omega)) _)))); (case p4 => first | omega | (simp; omega)); (case p5 => exact (by repeat (first | with_reducible exact Below.refl _ _ | with_reducible assumption | (with_reducible refine Below.trans ?_ (Below.mono (by assumption) (by first | omega | (simp <;> omega)))) | with_reducible apply Below.drew | with_reducible apply below_drewN | (with_reducible refine Below.alloc ?_ (by first | omega | (simp <;> omega)) _) | (with_reducible refine Below.setCell ?_ (by first | omega | (simp <;> omega)) _)))); (case p6 => rw [xsOf_len, HL.out.1]); (case p7 => (intro k hk; have hq := (unhide HO1).lt k hk; have hdr : wb.drew.heap.size = wb.heap.size := rfl; constructor <;> omega)); rintro e w3 ⟨h3, h4, hg3⟩; obtain ⟨A3, d3, rfl, ho3⟩ := h3 _ HPO.out; have HO3 := hide ho3; clear ho3; clear h3 h4; have kw3 : ∀ o, w3.cell? ⟨w.heap.size, o, none⟩ = w2.cell? ⟨w.heap.size, o, none⟩ := fun o => World.cell?_of_block (a := ⟨w.heap.size, o, none⟩) (hg3.block _ (by show w.heap.size < _; omega) (fun e => by have hq := (unhide HO1).lt _ e.symm; have hdr : wb.drew.heap.size = wb.heap.size := rfl; simp at hq; omega))))
   all_goals
    have hz : Below w.heap.size w w3 := Below.grown (show Below w.heap.size w w2 from (by repeat (first | with_reducible exact Below.refl _ _ | with_reducible assumption | (with_reducible refine Below.trans ?_ (Below.mono (by assumption) (by first | omega | (simp <;> omega)))) | with_reducible apply Below.drew | with_reducible apply below_drewN | (with_reducible refine Below.alloc ?_ (by first | omega | (simp <;> omega)) _) | (with_reducible refine Below.setCell ?_ (by first | omega | (simp <;> omega)) _)))) hg3 (by omega) (fun k e => by have hq := (unhide HO1).lt k e; have hdr : wb.drew.heap.size = wb.heap.size := rfl; omega)
    have HZ := hide hz
    clear hz hg3
    go_wp2_with fail
    go_ret2
    exact ⟨⟨fun l h => (by injection h with h; subst h; exact ⟨A3, d3, by rw [(unhide HXL)] <;> rfl, by rw [(unhide HXL)]; exact unhide HO3⟩), fun h => (by cases h)⟩, unhide HZ⟩
end Go.Proofs.YtjggjegjhcpjhaaGreat

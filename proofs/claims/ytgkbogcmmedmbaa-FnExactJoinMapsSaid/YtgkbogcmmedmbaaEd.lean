/-
  Chapter 5: ComposeMaps of program and model.
-/
import Derived.Test.YtgkbogcmmedmbaaEc
import Derived.Test.YtgkbogcmmedmbaaDg
import Derived.Test.YtgkbogcmmedmbaaEs
namespace Go.Proofs.Ytgkbogcmmedmbaa
open Go.RowKit Rm

theorem pm_smap {po : Option (List Rat)} {vm : Rat → Option Rat} (hpl : ∀ l, po = some l → Pl (srt l) ∧ l.length ≤ 1000) {l : List QP} (h : pmO po vm = some l) : SMap l := by
  cases po with
  | none => cases h
  | some xs =>
    obtain ⟨h1, h2⟩ := hpl xs rfl
    change pK (srt xs) vm (srt xs).length = some l at h
    rw [pK_vK] at h
    cases hv : vK (srt xs) vm (srt xs).length with
    | none => rw [hv] at h; cases h
    | some m =>
      rw [hv] at h
      simp only [Option.bind_some] at h
      split at h
      · rename_i hc
        injection h with h; subst h
        exact (h1.points (by have := srt_len xs; omega) hv hc).1
      · cases h
theorem pm_mm (po : Option (List Rat)) (vm : Rat → Option Rat) : (pmO po vm).bind smO = po.bind fun l => mmO (srt l) vm := by cases po <;> rfl
/-- What two lists of points give, if both are maps. -/
def twoO (f : List QP → List QP → Option (List QP)) (ps qs : List Pt) : Option (List QP) := if mapB ps && mapB qs then f (dec ps) (dec qs) else none
theorem twoO_no {f : List QP → List QP → Option (List QP)} {ps qs : List Pt} (h : mapB ps = false ∨ mapB qs = false) : twoO f ps qs = none := by
  unfold twoO
  rw [if_neg]
  rcases h with h | h <;> simp [h]
theorem twoO_yes {f : List QP → List QP → Option (List QP)} {fs gs : List QP} (hF : GMap fs) (hG : GMap gs) : twoO f (fs.map qp) (gs.map qp) = f fs gs := by
  unfold twoO
  rw [hF.mapB, hG.mapB, dec_qp, dec_qp]
  rfl
theorem gives_pt {B : Nat} {qo : Option (List QP)} {e : Ending} {w' : World} (h : PtO B qo e w') : GivesP B ((qo.getD []).map qp) qo.isSome e w' := by
  cases qo with
  | none => exact ⟨none, 0, h.2 rfl, World.ownsRow_nil _ _ _ _⟩
  | some l =>
    obtain ⟨A, d, he, ho⟩ := h.1 l rfl
    exact ⟨A, d, by rw [he]; simp, by simpa using ho⟩
theorem mmO_len {xs : List Rat} {vm : Rat → Option Rat} {l : List QP} (h : mmO xs vm = some l) : l.length ≤ 12 := by
  unfold mmO at h
  cases hp : pK xs vm xs.length with
  | none => rw [hp] at h; cases h
  | some m =>
    rw [hp] at h
    simp only [Option.bind_some, smO] at h
    split at h
    · injection h with h; subst h; assumption
    · cases h
theorem twoO_len {f : List QP → List QP → Option (List QP)} (hf : ∀ fs gs l, f fs gs = some l → l.length ≤ 12) (ps qs : List Pt) : (((twoO f ps qs).getD []).map qp).length ≤ 1048576 := by
  rw [List.length_map]
  cases h : twoO f ps qs with
  | none => simp
  | some l =>
    unfold twoO at h
    split at h
    · have := hf _ _ _ h
      simp only [Option.getD_some]; omega
    · cases h
theorem cmO_len (fs gs : List QP) (l : List QP) (h : cmO fs gs = some l) : l.length ≤ 12 := by
  unfold cmO at h
  cases hp : cmP fs gs with
  | none => rw [hp] at h; cases h
  | some xs => rw [hp] at h; exact mmO_len h
theorem ComposeMaps_len (ps qs : List Pt) : (((twoO cmO ps qs).getD []).map qp).length ≤ 1048576 := twoO_len cmO_len ps qs
theorem compose_map (gf mf cf bf gg mg cg bg : Nat) (fs gs : List QP) (w : World) (hf : w.ownsRow bf 43 4 (.slice (some ⟨gf, 0, none⟩) (mf + 1) cf) (mf + 1) (ptcs (fs.map qp))) (hg : w.ownsRow bg 43 4 (.slice (some ⟨gg, 0, none⟩) (mg + 1) cg) (mg + 1) (ptcs (gs.map qp))) (hF : GMap fs) (hG : GMap gs) :
    Calls Try.prog 43 #[.iface 95 (.agg #[.slice (some ⟨gf, 0, none⟩) (mf + 1) cf, .slice (some ⟨gg, 0, none⟩) (mg + 1) cg])] w fun e w' => PtO w.heap.size (cmO fs gs) e w' ∧ Below w.heap.size w w' := by
  have h := map_composition (.agg #[.slice (some ⟨gf, 0, none⟩) (mf + 1) cf, .slice (some ⟨gg, 0, none⟩) (mg + 1) cg]) (cmP fs gs) (vcm fs gs) w
    (fun l hl => by
      obtain ⟨h1, h2, h3⟩ := cmP_pl hF hG hl
      exact ⟨fun x hx => h1.un x (srt_mem.2 hx), h2, by omega⟩)
    (fun l hl => pm_smap (fun l hl => by obtain ⟨h1, h2, h3⟩ := cmP_pl hF hG hl; exact ⟨h1, by omega⟩) hl)
    (hide fun W hW => placesCm_any gf mf cf bf gg mg cg bg fs gs W (own_below hf hW) (own_below hg hW) hF hG)
    (hide fun x hx W hW => valueCm_any gf mf cf bf gg mg cg bg fs gs x W (own_below hf hW) (own_below hg hW) hF hG hx)
  rw [pm_mm] at h
  exact h

end Go.Proofs.Ytgkbogcmmedmbaa

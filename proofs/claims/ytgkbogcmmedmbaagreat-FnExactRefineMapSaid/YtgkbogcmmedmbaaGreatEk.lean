/-
  Chapter 5: RefineMap of program and model.
-/
import Derived.Test.YtgkbogcmmedmbaaGreatEj
import Derived.Test.YtgkbogcmmedmbaaGreatEd
import Derived.Test.YtgkbogcmmedmbaaGreatDb
namespace Go.Proofs.YtgkbogcmmedmbaaGreat
open Go.RowKit Rm

def decF (xs : List Fr) : List Rat := xs.map fun x => Rat.divInt x.1 x.2
theorem decF_qf (rs : List Rat) : decF (rs.map qf) = rs := by
  unfold decF
  rw [List.map_map]
  conv => rhs; rw [← List.map_id rs]
  refine List.map_congr_left fun r _ => ?_
  exact Rat.num_divInt_den r
def rfO (fs : List QP) (rs : List Rat) : Option (List QP) := (pK (srt (xsOf fs ++ rs)) (vAt fs) (srt (xsOf fs ++ rs)).length).bind fun l => if l.length ≤ 12 then some l else none
def rmO (ps : List Pt) (xs : List Fr) : Option (List QP) := if mapB ps && (decide (xs.length ≤ 20) && unB xs) then rfO (dec ps) (decF xs) else none
theorem rmO_no {ps : List Pt} {xs : List Fr} (h : mapB ps = false ∨ decide (xs.length ≤ 20) = false ∨ unB xs = false) : rmO ps xs = none := by
  unfold rmO
  rw [if_neg]
  rcases h with h | h | h <;> rw [h] <;> simp
theorem rmO_yes {fs : List QP} {rs : List Rat} (hF : GMap fs) (h : unB (rs.map qf) = true) (hl : rs.length ≤ 20) : rmO (fs.map qp) (rs.map qf) = rfO fs rs := by
  unfold rmO
  rw [hF.mapB, h, List.length_map, decide_eq_true hl, dec_qp, decF_qf]
  rfl
theorem RefineMap_len (ps : List Pt) (xs : List Fr) : (((rmO ps xs).getD []).map qp).length ≤ 1048576 := by
  rw [List.length_map]
  cases h : rmO ps xs with
  | none => simp
  | some l =>
    unfold rmO at h
    split at h
    · unfold rfO at h
      cases hp : pK (srt (xsOf (dec ps) ++ decF xs)) (vAt (dec ps)) (srt (xsOf (dec ps) ++ decF xs)).length with
      | none => rw [hp] at h; cases h
      | some m =>
        rw [hp] at h
        simp only [Option.bind_some] at h
        split at h
        · injection h with h; subst h; simp only [Option.getD_some]; omega
        · cases h
    · cases h
theorem rf_pl {fs : List QP} {rs : List Rat} (hF : GMap fs) (hu : ∀ r ∈ rs, Un r) (hl : rs.length ≤ 20) : Pl (srt (xsOf fs ++ rs)) ∧ 1 ≤ (xsOf fs ++ rs).length ∧ (xsOf fs ++ rs).length ≤ 32 := by
  have h1 := hF.hi
  have h2 := hF.lo
  refine ⟨srt_pl (fun x hx => ?_) (by simp [xsOf_zero hF]) (by simp [xsOf_one hF]), by rw [List.length_append, xsOf_len]; omega, by rw [List.length_append, xsOf_len]; omega⟩
  rcases List.mem_append.1 hx with h | h
  · exact xsOf_un hF x h
  · exact hu x h
theorem mapB_pl {xs : List Rat} {vm : Rat → Option Rat} {l : List QP} (h : Pl xs) (hn : xs.length ≤ 1000) (hv : vK xs vm xs.length = some l) : mapB (l.map qp) = (coA l && decide (l.length ≤ 12)) := by
  cases hc : coA l with
  | false =>
    rw [Bool.false_and]
    obtain ⟨p, hp, hf⟩ := List.all_eq_false.1 hc
    obtain ⟨i, hi, e⟩ := List.mem_iff_getElem.1 hp
    refine mapB_at (i := i) (by rw [List.length_map]; exact hi) ?_
    unfold okAt
    rw [pAt_map, qAt_elem hi, e]
    change (coD p.1 && (coD p.2 && _)) = false
    cases h1 : coD p.1 with
    | false => rfl
    | true =>
      cases h2 : coD p.2 with
      | false => rfl
      | true => rw [h1, h2] at hf; simp at hf
  | true =>
    rw [Bool.true_and]
    obtain ⟨h1, h2, h3⟩ := h.points hn hv hc
    by_cases hl : l.length ≤ 12
    · rw [decide_eq_true hl]
      exact (GMap.mk h1.lo hl h1.cx h1.cy h1.inc h2 h3).mapB
    · rw [decide_eq_false hl]
      exact mapB_len (by rw [List.length_map]; omega)
theorem refine_points (gf mf cf bf : Nat) (B : Option Addr) (m d b2 : Nat) (fs : List QP) (rs : List Rat) (w : World) (hf : w.ownsRow bf 50 4 (.slice (some ⟨gf, 0, none⟩) (mf + 1) cf) (mf + 1) (ptcs (fs.map qp))) (hx : w.ownsRow b2 46 2 (.slice B m d) m (frcs (rs.map qf))) (hF : GMap fs) (hu : ∀ r ∈ rs, Un r) (hl : rs.length ≤ 20) :
    Calls Tryz.prog 48 #[.iface 68 (.agg #[.slice (some ⟨gf, 0, none⟩) (mf + 1) cf, .slice B m d])] w fun e w' => PtO w.heap.size (pK (srt (xsOf fs ++ rs)) (vAt fs) (srt (xsOf fs ++ rs)).length) e w' ∧ Below w.heap.size w w' := by
  have hm := own_lenR hx
  obtain ⟨h1, h2, h3⟩ := rf_pl hF hu hl
  exact points_refinement (.agg #[.slice (some ⟨gf, 0, none⟩) (mf + 1) cf, .slice B m d]) (some (xsOf fs ++ rs)) (vAt fs) w
    (fun l hl => by injection hl with hl; subst hl; exact ⟨fun x hx => h1.un x (srt_mem.2 hx), h2, by omega⟩)
    (hide fun W hW => placesRf_any gf mf cf bf B m d b2 fs rs W (own_below hf hW) (own_below hx hW) hF (by omega))
    (hide fun x hx' W hW => valueRf_any gf mf cf bf (.slice B m d) fs x W (own_below hf hW) hF hx' B m d rfl)

set_option maxRecDepth 100000 in
set_option maxHeartbeats 1600000 in
theorem iRefineMap_any (A : Option Addr) (n c b1 : Nat) (ps : List Pt) (B : Option Addr) (m d b2 : Nat) (xs : List Fr) (w : World) (ha : w.ownsRow b1 50 4 (.slice A n c) n (ptcs ps)) (hn : n ≤ 1048576) (hx : w.ownsRow b2 46 2 (.slice B m d) m (frcs xs)) (hm : m ≤ 1048576) :
    Calls Tryz.prog 23 #[.slice A n c, .slice B m d] w fun e w' => GivesP w.heap.size (((rmO ps xs).getD []).map qp) (rmO ps xs).isSome e w' ∧ Below w.heap.size w w' := by
  have hm1 := isMap_any A n c b1 ps w ha hn
  have hun := fun W hW => areUnits_any B m d b2 xs W hW hm
  have hxl : xs.length = m := by have := hx.1; rw [frcs_len] at this; omega
  cases h1 : mapB ps with
  | false =>
    rw [rmO_no (.inl h1)]
    rw [h1] at hm1
    have HM := hide hm1
    clear hm1 h1 ha hx hun hxl
    go_enter Tryz.func23, Tryz.ntmps23
    go_wp2_with (go_at_call 34; (with_reducible refine (unhide HM).mono ?_); rintro e w1 ⟨rfl, hbw1⟩; have hs1 := hbw1.size)
    go_ret2
    exact ⟨gives_pt ⟨fun l h => (by cases h), fun _ => rfl⟩, (by repeat (first | with_reducible exact Below.refl _ _ | with_reducible assumption | (with_reducible refine Below.trans ?_ (Below.mono (by assumption) (by first | omega | (simp <;> omega)))) | with_reducible apply Below.drew | with_reducible apply below_drewN | (with_reducible refine Below.alloc ?_ (by first | omega | (simp <;> omega)) _) | (with_reducible refine Below.setCell ?_ (by first | omega | (simp <;> omega)) _)))⟩
  | true =>
    rw [h1] at hm1
    have HM := hide hm1; clear hm1
    by_cases hl : m ≤ 20
    · cases h2 : unB xs with
      | false =>
        rw [rmO_no (.inr (.inr h2))]
        rw [h2] at hun
        have HUN := hide hun; have HX := hide hx
        clear h1 h2 hun hx ha hxl
        go_enter Tryz.func23, Tryz.ntmps23
        go_wp2_with (first
          | (go_at_call 34; (with_reducible refine (unhide HM).mono ?_); rintro e w1 ⟨rfl, hbw1⟩; have hs1 := hbw1.size)
          | (go_at_call 47; (with_reducible refine ((unhide HUN) _ (own_below (unhide HX) ?pb)).mono ?_); (case pb => exact (by repeat (first | with_reducible exact Below.refl _ _ | with_reducible assumption | (with_reducible refine Below.trans ?_ (Below.mono (by assumption) (by first | omega | (simp <;> omega)))) | with_reducible apply Below.drew | with_reducible apply below_drewN | (with_reducible refine Below.alloc ?_ (by first | omega | (simp <;> omega)) _) | (with_reducible refine Below.setCell ?_ (by first | omega | (simp <;> omega)) _)))); rintro e w2 ⟨rfl, hbw2⟩; have hs2 := hbw2.size))
        go_ret2
        exact ⟨gives_pt ⟨fun l h => (by cases h), fun _ => rfl⟩, (by repeat (first | with_reducible exact Below.refl _ _ | with_reducible assumption | (with_reducible refine Below.trans ?_ (Below.mono (by assumption) (by first | omega | (simp <;> omega)))) | with_reducible apply Below.drew | with_reducible apply below_drewN | (with_reducible refine Below.alloc ?_ (by first | omega | (simp <;> omega)) _) | (with_reducible refine Below.setCell ?_ (by first | omega | (simp <;> omega)) _)))⟩
      | true =>
        rw [h2] at hun
        have h2' := h2
        obtain ⟨rs, rfl, hru⟩ := unB_rats h2'
        obtain ⟨g, m1, fs, rfl, rfl, rfl, hgf, hlf⟩ := own_form ha h1
        rw [List.length_map] at hxl
        rw [rmO_yes hgf h2 (by omega)]
        have hp := fun W hW hV => refine_points g m1 c b1 B m d b2 fs rs W hW hV hgf hru (by omega)
        have hrf : rfO fs rs = (pK (srt (xsOf fs ++ rs)) (vAt fs) (srt (xsOf fs ++ rs)).length).bind fun l => if l.length ≤ 12 then some l else none := rfl
        rw [hrf]
        have HP := hide hp; have HUN := hide hun; have HX := hide hx; have HA := hide ha
        have hpl := srt_len (xsOf fs ++ rs)
        rw [List.length_append, xsOf_len, hlf] at hpl
        have hf12 := hgf.hi
        clear h1 h2 h2' hp hun hx ha hru hgf hrf
        cases hq : pK (srt (xsOf fs ++ rs)) (vAt fs) (srt (xsOf fs ++ rs)).length with
        | none =>
          have HQ := Lib.hid hq
          clear hq
          go_enter Tryz.func23, Tryz.ntmps23
          go_wp2_with (first
            | (go_at_call 34; (with_reducible refine (unhide HM).mono ?_); rintro e w1 ⟨rfl, hbw1⟩; have hs1 := hbw1.size)
            | (go_at_call 47; (with_reducible refine ((unhide HUN) _ (own_below (unhide HX) ?pb)).mono ?_); (case pb => exact (by repeat (first | with_reducible exact Below.refl _ _ | with_reducible assumption | (with_reducible refine Below.trans ?_ (Below.mono (by assumption) (by first | omega | (simp <;> omega)))) | with_reducible apply Below.drew | with_reducible apply below_drewN | (with_reducible refine Below.alloc ?_ (by first | omega | (simp <;> omega)) _) | (with_reducible refine Below.setCell ?_ (by first | omega | (simp <;> omega)) _)))); rintro e w2 ⟨rfl, hbw2⟩; have hs2 := hbw2.size)
            | (go_at_call 48; (with_reducible refine ((unhide HP) _ (own_below (unhide HA) ?pb) (own_below (unhide HX) ?pc)).mono ?_); (case pb => exact (by repeat (first | with_reducible exact Below.refl _ _ | with_reducible assumption | (with_reducible refine Below.trans ?_ (Below.mono (by assumption) (by first | omega | (simp <;> omega)))) | with_reducible apply Below.drew | with_reducible apply below_drewN | (with_reducible refine Below.alloc ?_ (by first | omega | (simp <;> omega)) _) | (with_reducible refine Below.setCell ?_ (by first | omega | (simp <;> omega)) _)))); (case pc => exact (by repeat (first | with_reducible exact Below.refl _ _ | with_reducible assumption | (with_reducible refine Below.trans ?_ (Below.mono (by assumption) (by first | omega | (simp <;> omega)))) | with_reducible apply Below.drew | with_reducible apply below_drewN | (with_reducible refine Below.alloc ?_ (by first | omega | (simp <;> omega)) _) | (with_reducible refine Below.setCell ?_ (by first | omega | (simp <;> omega)) _)))); rintro e w3 ⟨hpt, hbw3⟩; obtain rfl := hpt.2 HQ.out; clear hpt))
          go_ret2
          exact ⟨gives_pt ⟨fun l h => (by cases h), fun _ => rfl⟩, (by repeat (first | with_reducible exact Below.refl _ _ | with_reducible assumption | (with_reducible refine Below.trans ?_ (Below.mono (by assumption) (by first | omega | (simp <;> omega)))) | with_reducible apply Below.drew | with_reducible apply below_drewN | (with_reducible refine Below.alloc ?_ (by first | omega | (simp <;> omega)) _) | (with_reducible refine Below.setCell ?_ (by first | omega | (simp <;> omega)) _)))⟩
        | some l =>
          have hl32 : l.length ≤ 1000 := by have := pK_len hq; omega
          have HQ := Lib.hid hq
          clear hq
          simp only [Option.bind_some]
          by_cases hl12 : l.length ≤ 12
          · rw [if_pos hl12]
            have s1 : ¬ (12 : Int) < (l.length : Int) := by omega
            go_enter Tryz.func23, Tryz.ntmps23
            go_wp2_with (first
              | (go_at_call 34; (with_reducible refine (unhide HM).mono ?_); rintro e w1 ⟨rfl, hbw1⟩; have hs1 := hbw1.size)
              | (go_at_call 47; (with_reducible refine ((unhide HUN) _ (own_below (unhide HX) ?pb)).mono ?_); (case pb => exact (by repeat (first | with_reducible exact Below.refl _ _ | with_reducible assumption | (with_reducible refine Below.trans ?_ (Below.mono (by assumption) (by first | omega | (simp <;> omega)))) | with_reducible apply Below.drew | with_reducible apply below_drewN | (with_reducible refine Below.alloc ?_ (by first | omega | (simp <;> omega)) _) | (with_reducible refine Below.setCell ?_ (by first | omega | (simp <;> omega)) _)))); rintro e w2 ⟨rfl, hbw2⟩; have hs2 := hbw2.size)
              | (go_at_call 48; (with_reducible refine ((unhide HP) _ (own_below (unhide HA) ?pb) (own_below (unhide HX) ?pc)).mono ?_); (case pb => exact (by repeat (first | with_reducible exact Below.refl _ _ | with_reducible assumption | (with_reducible refine Below.trans ?_ (Below.mono (by assumption) (by first | omega | (simp <;> omega)))) | with_reducible apply Below.drew | with_reducible apply below_drewN | (with_reducible refine Below.alloc ?_ (by first | omega | (simp <;> omega)) _) | (with_reducible refine Below.setCell ?_ (by first | omega | (simp <;> omega)) _)))); (case pc => exact (by repeat (first | with_reducible exact Below.refl _ _ | with_reducible assumption | (with_reducible refine Below.trans ?_ (Below.mono (by assumption) (by first | omega | (simp <;> omega)))) | with_reducible apply Below.drew | with_reducible apply below_drewN | (with_reducible refine Below.alloc ?_ (by first | omega | (simp <;> omega)) _) | (with_reducible refine Below.setCell ?_ (by first | omega | (simp <;> omega)) _)))); rintro e w3 ⟨hpt, hbw3⟩; obtain ⟨A3, d3, rfl, ho3⟩ := hpt.1 l HQ.out; clear hpt; have HO3 := hide ho3; clear ho3))
            go_ret2
            exact ⟨gives_pt ⟨fun l h => (by injection h with h; subst h; exact ⟨A3, d3, rfl, (unhide HO3).mono (by omega)⟩), fun h => (by cases h)⟩, (by repeat (first | with_reducible exact Below.refl _ _ | with_reducible assumption | (with_reducible refine Below.trans ?_ (Below.mono (by assumption) (by first | omega | (simp <;> omega)))) | with_reducible apply Below.drew | with_reducible apply below_drewN | (with_reducible refine Below.alloc ?_ (by first | omega | (simp <;> omega)) _) | (with_reducible refine Below.setCell ?_ (by first | omega | (simp <;> omega)) _)))⟩
          · rw [if_neg hl12]
            have s1 : (12 : Int) < (l.length : Int) := by omega
            go_enter Tryz.func23, Tryz.ntmps23
            go_wp2_with (first
              | (go_at_call 34; (with_reducible refine (unhide HM).mono ?_); rintro e w1 ⟨rfl, hbw1⟩; have hs1 := hbw1.size)
              | (go_at_call 47; (with_reducible refine ((unhide HUN) _ (own_below (unhide HX) ?pb)).mono ?_); (case pb => exact (by repeat (first | with_reducible exact Below.refl _ _ | with_reducible assumption | (with_reducible refine Below.trans ?_ (Below.mono (by assumption) (by first | omega | (simp <;> omega)))) | with_reducible apply Below.drew | with_reducible apply below_drewN | (with_reducible refine Below.alloc ?_ (by first | omega | (simp <;> omega)) _) | (with_reducible refine Below.setCell ?_ (by first | omega | (simp <;> omega)) _)))); rintro e w2 ⟨rfl, hbw2⟩; have hs2 := hbw2.size)
              | (go_at_call 48; (with_reducible refine ((unhide HP) _ (own_below (unhide HA) ?pb) (own_below (unhide HX) ?pc)).mono ?_); (case pb => exact (by repeat (first | with_reducible exact Below.refl _ _ | with_reducible assumption | (with_reducible refine Below.trans ?_ (Below.mono (by assumption) (by first | omega | (simp <;> omega)))) | with_reducible apply Below.drew | with_reducible apply below_drewN | (with_reducible refine Below.alloc ?_ (by first | omega | (simp <;> omega)) _) | (with_reducible refine Below.setCell ?_ (by first | omega | (simp <;> omega)) _)))); (case pc => exact (by repeat (first | with_reducible exact Below.refl _ _ | with_reducible assumption | (with_reducible refine Below.trans ?_ (Below.mono (by assumption) (by first | omega | (simp <;> omega)))) | with_reducible apply Below.drew | with_reducible apply below_drewN | (with_reducible refine Below.alloc ?_ (by first | omega | (simp <;> omega)) _) | (with_reducible refine Below.setCell ?_ (by first | omega | (simp <;> omega)) _)))); rintro e w3 ⟨hpt, hbw3⟩; obtain ⟨A3, d3, rfl, ho3⟩ := hpt.1 l HQ.out; clear hpt ho3))
            go_ret2
            exact ⟨gives_pt ⟨fun l h => (by cases h), fun _ => rfl⟩, (by repeat (first | with_reducible exact Below.refl _ _ | with_reducible assumption | (with_reducible refine Below.trans ?_ (Below.mono (by assumption) (by first | omega | (simp <;> omega)))) | with_reducible apply Below.drew | with_reducible apply below_drewN | (with_reducible refine Below.alloc ?_ (by first | omega | (simp <;> omega)) _) | (with_reducible refine Below.setCell ?_ (by first | omega | (simp <;> omega)) _)))⟩
    · rw [rmO_no (.inr (.inl (decide_eq_false (by omega))))]
      have s1 : (20 : Int) < (m : Int) := by omega
      clear h1 ha hx hun hxl
      go_enter Tryz.func23, Tryz.ntmps23
      go_wp2_with (go_at_call 34; (with_reducible refine (unhide HM).mono ?_); rintro e w1 ⟨rfl, hbw1⟩; have hs1 := hbw1.size)
      go_ret2
      exact ⟨gives_pt ⟨fun l h => (by cases h), fun _ => rfl⟩, (by repeat (first | with_reducible exact Below.refl _ _ | with_reducible assumption | (with_reducible refine Below.trans ?_ (Below.mono (by assumption) (by first | omega | (simp <;> omega)))) | with_reducible apply Below.drew | with_reducible apply below_drewN | (with_reducible refine Below.alloc ?_ (by first | omega | (simp <;> omega)) _) | (with_reducible refine Below.setCell ?_ (by first | omega | (simp <;> omega)) _)))⟩

set_option maxRecDepth 100000 in
set_option maxHeartbeats 6400000 in
theorem sRefineMap_any (A : Option Addr) (n c b1 : Nat) (ps : List Pt) (B : Option Addr) (m d b2 : Nat) (xs : List Fr) (w : World) (ha : w.ownsRow b1 50 4 (.slice A n c) n (ptcs ps)) (hn : n ≤ 1048576) (hx : w.ownsRow b2 46 2 (.slice B m d) m (frcs xs)) (hm : m ≤ 1048576) :
    Calls Tryz.prog 21 #[.slice A n c, .slice B m d] w fun e w' => GivesP w.heap.size (((rmO ps xs).getD []).map qp) (rmO ps xs).isSome e w' ∧ Below w.heap.size w w' := by
  obtain ⟨i0, hi0, hz0, hz1, hz2⟩ := info_parts iPoint
  have hm1 := imGood_any A n c b1 ps w ha hn
  have hxl : xs.length = m := by have := hx.1; rw [frcs_len] at this; omega
  cases h1 : mapB ps with
  | false =>
    rw [rmO_no (.inl h1)]
    rw [h1] at hm1
    have HM := hide hm1
    clear hm1 h1 ha hx hxl
    go_enter Tryz.func21, Tryz.ntmps21
    go_wp2_with (go_at_call 37; (with_reducible refine (unhide HM).mono ?_); rintro e w0 ⟨rfl, hbw0⟩; have hs0 := hbw0.size)
    go_ret2
    exact ⟨gives_pt ⟨fun l h => (by cases h), fun _ => rfl⟩, (by repeat (first | with_reducible exact Below.refl _ _ | with_reducible assumption | (with_reducible refine Below.trans ?_ (Below.mono (by assumption) (by first | omega | (simp <;> omega)))) | with_reducible apply Below.drew | with_reducible apply below_drewN | (with_reducible refine Below.alloc ?_ (by first | omega | (simp <;> omega)) _) | (with_reducible refine Below.setCell ?_ (by first | omega | (simp <;> omega)) _)))⟩
  | true =>
    rw [h1] at hm1
    have HM := hide hm1; clear hm1
    by_cases hl : m ≤ 20
    · obtain ⟨g, m1, fs, rfl, rfl, rfl, hgf, hlf⟩ := own_form ha h1
      have hf12 := hgf.hi
      rw [hlf] at hf12
      have hgl := (ha.lt g rfl).2
      have hcx := fun W hW => coXs_map g (m1 + 1) c b1 fs W hW (by omega)
      have hno := fun (h : unB xs = false) => rmO_no (ps := fs.map qp) (xs := xs) (.inr (.inr h))
      have hyes : unB xs = true → rmO (fs.map qp) xs = rfO fs (decF xs) ∧ Pl (srt (xsOf fs ++ decF xs)) := fun h => by
        obtain ⟨rs, e, hru⟩ := unB_rats h
        subst e
        rw [List.length_map] at hxl
        rw [rmO_yes hgf h (by omega), decF_qf]
        exact ⟨rfl, (rf_pl hgf hru (by omega)).1⟩
      have hdl : (decF xs).length = m := by unfold decF; rw [List.length_map]; exact hxl
      have hdk : ∀ k, k < m → uB (fAt xs k).1 (fAt xs k).2 = true → fAt xs k = qf ((decF xs).getD k 0) ∧ Un ((decF xs).getD k 0) := fun k hk hu => by
        obtain ⟨y, e1, e2, hyf, hy0, hy1⟩ := uB_rat hu
        have ed : (decF xs).getD k 0 = y := by
          have : (decF xs).getD k 0 = Rat.divInt (fAt xs k).1 (fAt xs k).2 := by unfold decF fAt; simp [List.getD_eq_getElem?_getD, hxl, hk]
          rw [this, e1, e2, Rat.num_divInt_den]
        rw [ed]
        exact ⟨Prod.ext e1 e2, ⟨hyf, hy0, hy1⟩⟩
      have hxu := xsOf_un hgf
      have hxl2 := (xsOf_len fs).trans hlf
      have hinc := xsOf_inc hgf
      have HA := hide ha; have HX := hide hx; have HCX := hide hcx; have HNO := hide hno; have HYES := hide hyes; have HDK := hide hdk; have HDL := Lib.hid hdl; have HXL := Lib.hid hxl; have HXU := hide hxu; have HXL2 := Lib.hid hxl2; have HINC := hide hinc
      clear h1 ha hx hcx hno hyes hdk hdl hxl hxu hxl2 hinc hlf
      have s1 : ¬ (20 : Int) < (m : Int) := by omega
      go_enter Tryz.func21, Tryz.ntmps21
      go_wp2_with (first
        | (go_at_call 37; (with_reducible refine (unhide HM).mono ?_); rintro e w0 ⟨rfl, hbw0⟩; have hs0 := hbw0.size)
        | (go_at_call 43; (with_reducible refine ((unhide HCX) _ (own_below (unhide HA) ?pb)).mono ?_); (case pb => exact (by repeat (first | with_reducible exact Below.refl _ _ | with_reducible assumption | (with_reducible refine Below.trans ?_ (Below.mono (by assumption) (by first | omega | (simp <;> omega)))) | with_reducible apply Below.drew | with_reducible apply below_drewN | (with_reducible refine Below.alloc ?_ (by first | omega | (simp <;> omega)) _) | (with_reducible refine Below.setCell ?_ (by first | omega | (simp <;> omega)) _)))); rintro e w1 ⟨A1, d1, rfl, ho1, hbw1⟩; have hs1 := hbw1.size; have HO1 := hide ho1; clear ho1))
      have hw1 : Below w.heap.size w w1 := (by repeat (first | with_reducible exact Below.refl _ _ | with_reducible assumption | (with_reducible refine Below.trans ?_ (Below.mono (by assumption) (by first | omega | (simp <;> omega)))) | with_reducible apply Below.drew | with_reducible apply below_drewN | (with_reducible refine Below.alloc ?_ (by first | omega | (simp <;> omega)) _) | (with_reducible refine Below.setCell ?_ (by first | omega | (simp <;> omega)) _)))
      have HW1 := hide hw1
      have hsz1 := hw1.size
      have HO1' := hide ((unhide HO1).mono hs0)
      clear hw1 hbw0 hbw1 HO1 HCX HM
      go_loopw [6, 26] (fun v i wr => ∃ (k : Nat) (A' : Option Addr) (nn cc : Nat) (l : List Rat), i = .int .i64 k ∧ v = .slice A' nn cc ∧ k ≤ m ∧ Hid (l = ((decF xs).take k).foldl putL (xsOf fs)) ∧ Hid (∀ t, t < k → uB (fAt xs t).1 (fAt xs t).2 = true) ∧ Hid (nn = l.length) ∧ 1 ≤ nn ∧ nn ≤ m1 + 1 + k ∧ Hid (∀ z ∈ l, Un z) ∧ wr.ownsRow w.heap.size 46 2 (.slice A' nn cc) nn (frcs (l.map qf)) ∧ Below w.heap.size w wr) (fun _ i _ => m - (intOf i).toNat)
      case atStart => exact ⟨0, A1, m1 + 1, d1, xsOf fs, rfl, rfl, by omega, hide rfl, hide (fun t ht => absurd ht (by omega)), hide HXL2.out.symm, by omega, by omega, HXU, unhide HO1', unhide HW1⟩
      case round =>
        obtain ⟨k, A', nn, cc, l, rfl, rfl, hk, HL, HUP, HN, hn1, hn2, HU, hown, hbwr⟩ := hrel
        have hsr := hbwr.size
        by_cases hlt : k < m
        · obtain ⟨gx, hBx, _, _⟩ := own_some (unhide HX) (by omega)
          subst hBx
          have hC := (fcells_own (unhide HX)).below hbwr
          have f0 := hC.at0 k hlt
          have f1 := hC.at1 k hlt
          have hgr := hC.lt
          have hru := fun W => raUnit_any (fAt xs k).1 (fAt xs k).2 W
          have HO := hide hown; have HB := hide hbwr
          clear hown hbwr hC
          cases hz : uB (fAt xs k).1 (fAt xs k).2 with
          | false =>
            rw [hz] at hru
            have HN2 := Lib.hid ((unhide HNO) (unB_at (by rw [HXL.out]; exact hlt) hz))
            have HRU := hide hru
            clear hru hz
            generalize (fAt xs k).1 = xn at *
            generalize (fAt xs k).2 = xd at *
            go_wp2_with (go_at_call 44; (with_reducible refine ((unhide HRU) _).mono ?_); rintro e w3 ⟨rfl, hbw3⟩; have hsw3 := hbw3.size; (try simp at hsw3); (skip; (try ((have kw3wr0 := (bnew hbw3) (wr.heap.size) ?pf); (case pf => (first | omega | (simp; done) | (simp; omega))); obtain ⟨kcw3wr0, kfw3wr0, klw3wr0⟩ := kw3wr0))))
            have hb := unhide HB
            go_ret2
            refine ⟨?_, (by repeat (first | with_reducible exact Below.refl _ _ | with_reducible assumption | (with_reducible refine Below.trans ?_ (Below.mono (by assumption) (by first | omega | (simp <;> omega)))) | with_reducible apply Below.drew | with_reducible apply below_drewN | (with_reducible refine Below.alloc ?_ (by first | omega | (simp <;> omega)) _) | (with_reducible refine Below.setCell ?_ (by first | omega | (simp <;> omega)) _)))⟩
            rw [HN2.out]
            exact gives_pt ⟨fun l h => (by cases h), fun _ => rfl⟩
          | true =>
            rw [hz] at hru
            obtain ⟨hfe, hyu⟩ := (unhide HDK) k hlt hz
            have hym : (decF xs).getD k 0 ∈ decF xs := mem_iff_getD.2 ⟨k, by rw [HDL.out]; exact hlt, rfl⟩
            have hput := fun W hW => imPut_any A' nn cc w.heap.size l ((decF xs).getD k 0) W hW
            have hl' : ((decF xs).take (k + 1)).foldl putL (xsOf fs) = putL l ((decF xs).getD k 0) := by
              rw [take_sn (by rw [HDL.out]; exact hlt), List.foldl_append, ← HL.out]; rfl
            have hpl := putL_lens l ((decF xs).getD k 0)
            rw [← HN.out] at hpl
            have hu2 : ∀ z ∈ putL l ((decF xs).getD k 0), Un z := fun z hz => by
              rcases putL_iff.1 hz with h | h
              · exact (unhide HU) z h
              · rw [h]; exact hyu
            have HUP' := hide (show ∀ t, t < k + 1 → uB (fAt xs t).1 (fAt xs t).2 = true from fun t ht => by
              by_cases htk : t = k
              · rw [htk]; exact hz
              · exact (unhide HUP) t (by omega))
            rw [hfe] at f0 f1 hru
            have HRU := hide hru; have HU2 := hide hu2; have HFY := hide hyu.fit; have HFL := hide (fun z hz => ((unhide HU) z hz).fit); have HP := hide hput; have HL2 := Lib.hid hl'
            clear hru hz hfe hyu hym hput hl' hu2
            simp only [qf] at f0 f1 HRU
            generalize (decF xs).getD k 0 = y at *
            obtain ⟨yn, hyn⟩ : ∃ r, r = y.num := ⟨_, rfl⟩
            obtain ⟨yd, hyd⟩ : ∃ r, r = (y.den : Int) := ⟨_, rfl⟩
            rw [← hyn] at f0 HP HRU
            rw [← hyd] at f1 HP HRU
            clear hyn hyd
            go_wp2_with (first
              | (go_at_call 44; (with_reducible refine ((unhide HRU) _).mono ?_); rintro e w3 ⟨rfl, hbw3⟩; have hsw3 := hbw3.size; (try simp at hsw3); (skip; (try ((have kw3wr0 := (bnew hbw3) (wr.heap.size) ?pf); (case pf => (first | omega | (simp; done) | (simp; omega))); obtain ⟨kcw3wr0, kfw3wr0, klw3wr0⟩ := kw3wr0))))
              | (go_at_call 45; (with_reducible refine ((unhide HP) _ (own_below (unhide HO) ?pb) ?p1 ?p2 ?p3 (unhide HFL) (unhide HFY)).mono ?_); (case pb => exact (by repeat (first | with_reducible exact Below.refl _ _ | with_reducible assumption | (with_reducible refine Below.trans ?_ (Below.mono (by assumption) (by first | omega | (simp <;> omega)))) | with_reducible apply Below.drew | with_reducible apply below_drewN | (with_reducible refine Below.alloc ?_ (by first | omega | (simp <;> omega)) _) | (with_reducible refine Below.setCell ?_ (by first | omega | (simp <;> omega)) _)))); (case p1 => first | omega | (simp; omega)); (case p2 => omega); (case p3 => (intro h; omega)); rintro e w4 ⟨v4, rfl, ho4, hbw4⟩; obtain ⟨A4, d4, rfl⟩ := own_slice ho4; have HO4 := hide ho4; clear ho4))
            have hb := unhide HB
            have hbz : Below w.heap.size w w4 := (by repeat (first | with_reducible exact Below.refl _ _ | with_reducible assumption | (with_reducible refine Below.trans ?_ (Below.mono (by assumption) (by first | omega | (simp <;> omega)))) | with_reducible apply Below.drew | with_reducible apply below_drewN | (with_reducible refine Below.alloc ?_ (by first | omega | (simp <;> omega)) _) | (with_reducible refine Below.setCell ?_ (by first | omega | (simp <;> omega)) _)))
            have HBZ := hide hbz
            clear hb hbz hbw4 hbw3
            go_roundw
            case rel => exact ⟨k + 1, A4, _, d4, putL l y, by go_num, rfl, by omega, HL2.out.symm, HUP', hide rfl, by omega, by omega, HU2, unhide HO4, unhide HBZ⟩
            case measure => simp [intOf]; omega
        · have hke : k = m := by omega
          have hall : unB xs = true := unB_all fun t ht => (unhide HUP) t (by rw [hke, ← HXL.out]; exact ht)
          obtain ⟨hrm, hpl⟩ := (unhide HYES) hall
          have hls : l = srt (xsOf fs ++ decF xs) := by
            have := HL.out
            rw [List.take_of_length_le (by rw [HDL.out, hke]; exact Nat.le_refl _)] at this
            rw [this, fput_srt (unhide HINC)]
          rw [← hls] at hpl
          have hrf : rmO (fs.map qp) xs = (vK l (vAt fs) l.length).bind fun ps => if coA ps && decide (ps.length ≤ 12) then some ps else none := by
            rw [hrm]
            unfold rfO
            rw [← hls, pK_vK]
            cases vK l (vAt fs) l.length with
            | none => rfl
            | some ps =>
              simp only [Option.bind_some]
              cases coA ps <;> simp
          obtain ⟨g1, rfl, _, _⟩ := own_some hown (by omega)
          have hln : l.length = nn := HN.out.symm
          have HRF := Lib.hid hrf; have HPL := hide hpl
          have HO0 := hide hown; have HB0 := hide hbwr
          have HLN := Lib.hid hln
          have hg1l := (hown.lt g1 rfl).2
          have hnn40 : nn ≤ 1000 := by omega
          clear hown hbwr hrf hpl hln HL HN hke hall hrm hls HYES HNO HDK HUP
          obtain ⟨wl, rfl⟩ : ∃ x, x = wr := ⟨wr, rfl⟩
          go_wp2_with fail
          go_loopw [9, 39] (fun v i wx => ∃ (k : Nat) (u : Value) (ps : List QP), i = .int .i64 k ∧ u = v ∧ k ≤ nn ∧ Hid (vK l (vAt fs) k = some ps) ∧ wx.ownsRow wl.heap.size 50 4 u k (ptcs (ps.map qp)) ∧ Below wl.heap.size wl wx) (fun _ i _ => nn - (intOf i).toNat)
          case atStart => exact ⟨0, _, [], rfl, rfl, by omega, hide rfl, World.ownsRow_nil _ _ _ _, Below.refl _ _⟩
          case round =>
            obtain ⟨k, u, ps, rfl, rfl, hk, HK, hown, hbwr⟩ := hrel
            have hsx := hbwr.size
            by_cases hlt : k < nn
            · have hC := (fcells_own (unhide HO0)).below hbwr
              have f0 := hC.at0 k hlt
              have f1 := hC.at1 k hlt
              have hgr := hC.lt
              rw [qAtR l k (by rw [HLN.out]; exact hlt)] at f0 f1
              simp only at f0 f1
              have hxu := (unhide HU) _ (mem_iff_getD.2 ⟨k, by rw [HLN.out]; exact hlt, rfl⟩)
              have ha1 := fun W hW => imAt_un g m1 c b1 fs (l.getD k 0) W hW hgf hxu
              have hst := vK_step (unhide HK)
              have hvB : ∀ j, u.ownBlock = some j → wl.heap.size ≤ j := fun j e => (hown.lt j e).1
              have HST := Lib.hid hst; have HO := hide hown; have HB := hide hbwr; have HVB := hide hvB
              clear hst hown hbwr hvB hC hxu
              cases hv : vAt fs (l.getD k 0) with
              | none =>
                rw [hv] at ha1
                have hno : rmO (fs.map qp) xs = none := by
                  rw [HRF.out, HLN.out, vK_none (k := k + 1) (by rw [HST.out, hv]; rfl) (nn - (k + 1)) (by omega)]; rfl
                have HN2 := Lib.hid hno; have H1 := hide ha1
                clear ha1 hno hv
                generalize (l.getD k 0).num = xn at *
                generalize ((l.getD k 0).den : Int) = xd at *
                go_wp2_with (go_at_call 46; (with_reducible refine ((unhide H1) _ (own_below (unhide HA) ?pb)).mono ?_); (case pb => have hb0 := unhide HB0; have hb := unhide HB; exact (by repeat (first | with_reducible exact Below.refl _ _ | with_reducible assumption | (with_reducible refine Below.trans ?_ (Below.mono (by assumption) (by first | omega | (simp <;> omega)))) | with_reducible apply Below.drew | with_reducible apply below_drewN | (with_reducible refine Below.alloc ?_ (by first | omega | (simp <;> omega)) _) | (with_reducible refine Below.setCell ?_ (by first | omega | (simp <;> omega)) _)))); rintro e w3 ⟨rfl, hbw3⟩; have hsw3 := hbw3.size; (try simp at hsw3); (skip; (try ((have kw3wr0 := (bnew hbw3) (wr.heap.size) ?pf); (case pf => (first | omega | (simp; done) | (simp; omega))); obtain ⟨kcw3wr0, kfw3wr0, klw3wr0⟩ := kw3wr0))))
                have hb0 := unhide HB0; have hb := unhide HB
                go_ret2
                refine ⟨?_, (by repeat (first | with_reducible exact Below.refl _ _ | with_reducible assumption | (with_reducible refine Below.trans ?_ (Below.mono (by assumption) (by first | omega | (simp <;> omega)))) | with_reducible apply Below.drew | with_reducible apply below_drewN | (with_reducible refine Below.alloc ?_ (by first | omega | (simp <;> omega)) _) | (with_reducible refine Below.setCell ?_ (by first | omega | (simp <;> omega)) _)))⟩
                rw [HN2.out]
                exact gives_pt ⟨fun l h => (by cases h), fun _ => rfl⟩
              | some z =>
                rw [hv] at ha1
                have HK1 := hide (show vK l (vAt fs) (k + 1) = some (ps ++ [(l.getD k 0, z)]) by rw [HST.out, hv]; rfl)
                have HPT := Lib.hid (ptq_sn ps (l.getD k 0) z)
                have H1 := hide ha1
                clear ha1 hv HST
                simp only [oN_some, oD_some, Option.isSome_some] at H1
                generalize l.getD k 0 = X at *
                obtain ⟨xn, hxn⟩ : ∃ r, r = X.num := ⟨_, rfl⟩
                obtain ⟨xd, hxd⟩ : ∃ r, r = (X.den : Int) := ⟨_, rfl⟩
                obtain ⟨zn, hzn⟩ : ∃ r, r = z.num := ⟨_, rfl⟩
                obtain ⟨zd, hzd⟩ : ∃ r, r = (z.den : Int) := ⟨_, rfl⟩
                rw [← hxn] at f0 H1 HPT
                rw [← hxd] at f1 H1 HPT
                rw [← hzn, ← hzd] at H1 HPT
                clear hxn hxd hzn hzd
                go_wp2_with (first
                  | (go_at_call 46; (with_reducible refine ((unhide H1) _ (own_below (unhide HA) ?pb)).mono ?_); (case pb => have hb0 := unhide HB0; have hb := unhide HB; exact (by repeat (first | with_reducible exact Below.refl _ _ | with_reducible assumption | (with_reducible refine Below.trans ?_ (Below.mono (by assumption) (by first | omega | (simp <;> omega)))) | with_reducible apply Below.drew | with_reducible apply below_drewN | (with_reducible refine Below.alloc ?_ (by first | omega | (simp <;> omega)) _) | (with_reducible refine Below.setCell ?_ (by first | omega | (simp <;> omega)) _)))); rintro e w3 ⟨rfl, hbw3⟩; have hsw3 := hbw3.size; (try simp at hsw3); (skip; (try ((have kw3wr0 := (bnew hbw3) (wr.heap.size) ?pf); (case pf => (first | omega | (simp; done) | (simp; omega))); obtain ⟨kcw3wr0, kfw3wr0, klw3wr0⟩ := kw3wr0))))
                  | (at_builtin; refine wpl_append rfl _ _ _ rfl wl.heap.size 50 i0 _ 4 32 Tryz.underlying24 hi0 hz0 hz1 hz2 rfl (by omega) u k _ rfl (own_below (unhide HO) (show Below wr.heap.size wr _ from (by repeat (first | with_reducible exact Below.refl _ _ | with_reducible assumption | (with_reducible refine Below.trans ?_ (Below.mono (by assumption) (by first | omega | (simp <;> omega)))) | with_reducible apply Below.drew | with_reducible apply below_drewN | (with_reducible refine Below.alloc ?_ (by first | omega | (simp <;> omega)) _) | (with_reducible refine Below.setCell ?_ (by first | omega | (simp <;> omega)) _))))) _ 1 [.int .i64 xn, .int .i64 xd, .int .i64 zn, .int .i64 zd] rfl (lies4 (by simp [go_sem, *]) (by simp [go_sem, *]) (by simp [go_sem, *]) (by simp [go_sem, *])) rfl (by simp [Value.oneCell']) (Nat.le_trans (by omega) maxLen_ge) (by omega) (by first | omega | (simp <;> omega)) (k + 1) rfl ?_; intro A6 c6 w6 hown6 hgrow6))
                have hb := unhide HB
                have hbz : Below wl.heap.size wl w6 := Below.grown (show Below wl.heap.size wl _ from (by repeat (first | with_reducible exact Below.refl _ _ | with_reducible assumption | (with_reducible refine Below.trans ?_ (Below.mono (by assumption) (by first | omega | (simp <;> omega)))) | with_reducible apply Below.drew | with_reducible apply below_drewN | (with_reducible refine Below.alloc ?_ (by first | omega | (simp <;> omega)) _) | (with_reducible refine Below.setCell ?_ (by first | omega | (simp <;> omega)) _)))) hgrow6 (by first | omega | (simp <;> omega)) (unhide HVB)
                rw [HPT.out] at hown6
                have HO6 := hide hown6
                have HBZ := hide hbz
                clear hown6 hgrow6 hb hbz
                go_wp2_with fail
                go_roundw
                case rel => exact ⟨k + 1, _, _, by go_num, rfl, by omega, HK1, unhide HO6, unhide HBZ⟩
                case measure => simp [intOf]; omega
            · have hke : k = nn := by omega
              have hps := vK_len (unhide HK)
              have hv : vK l (vAt fs) l.length = some ps := by rw [HLN.out, ← hke]; exact unhide HK
              have hmb := mapB_pl (unhide HPL) (by rw [HLN.out]; exact hnn40) hv
              have hif : rmO (fs.map qp) xs = if coA ps && decide (ps.length ≤ 12) then some ps else none := by rw [HRF.out, hv]; rfl
              obtain ⟨A6, d6, rfl⟩ := own_slice hown
              have hgd := imGood_any A6 k d6 wl.heap.size (ps.map qp) wr hown (by omega)
              have hz := (unhide HB0).trans (hbwr.mono (unhide HB0).size)
              have hsz := hz.size
              have HPS := Lib.hid hps
              cases hcq : (coA ps && decide (ps.length ≤ 12)) with
              | false =>
                rw [hmb, hcq] at hgd
                rw [hcq] at hif
                have HGD := hide hgd; have HIF := Lib.hid hif; have HZ := hide hz
                clear hgd hif hz hown hbwr hv hmb hcq hke hps
                go_wp2_with (go_at_call 37; (with_reducible refine (unhide HGD).mono ?_); rintro e w7 ⟨rfl, hb7⟩)
                have hz := unhide HZ
                go_ret2
                refine ⟨?_, (by repeat (first | with_reducible exact Below.refl _ _ | with_reducible assumption | (with_reducible refine Below.trans ?_ (Below.mono (by assumption) (by first | omega | (simp <;> omega)))) | with_reducible apply Below.drew | with_reducible apply below_drewN | (with_reducible refine Below.alloc ?_ (by first | omega | (simp <;> omega)) _) | (with_reducible refine Below.setCell ?_ (by first | omega | (simp <;> omega)) _)))⟩
                rw [HIF.out]
                exact gives_pt ⟨fun l h => (by cases h), fun _ => rfl⟩
              | true =>
                rw [hmb, hcq] at hgd
                rw [hcq] at hif
                have HGD := hide hgd; have HIF := Lib.hid hif; have HZ := hide hz; have HO := hide (hown.mono (show w.heap.size ≤ wl.heap.size from (unhide HB0).size))
                clear hgd hif hz hown hbwr hv hmb hcq hke hps
                go_wp2_with (go_at_call 37; (with_reducible refine (unhide HGD).mono ?_); rintro e w7 ⟨rfl, hb7⟩)
                have hz := unhide HZ
                have ho7 := own_below (unhide HO) hb7
                go_ret2
                refine ⟨?_, (by repeat (first | with_reducible exact Below.refl _ _ | with_reducible assumption | (with_reducible refine Below.trans ?_ (Below.mono (by assumption) (by first | omega | (simp <;> omega)))) | with_reducible apply Below.drew | with_reducible apply below_drewN | (with_reducible refine Below.alloc ?_ (by first | omega | (simp <;> omega)) _) | (with_reducible refine Below.setCell ?_ (by first | omega | (simp <;> omega)) _)))⟩
                rw [HIF.out]
                exact gives_pt ⟨fun l h => (by injection h with h; subst h; exact ⟨A6, d6, by rw [HPS.out] <;> rfl, by rw [HPS.out]; exact ho7⟩), fun h => (by cases h)⟩
    · rw [rmO_no (.inr (.inl (decide_eq_false (by omega))))]
      have s1 : (20 : Int) < (m : Int) := by omega
      clear h1 ha hx hxl
      go_enter Tryz.func21, Tryz.ntmps21
      go_wp2_with (go_at_call 37; (with_reducible refine (unhide HM).mono ?_); rintro e w0 ⟨rfl, hbw0⟩; have hs0 := hbw0.size)
      go_ret2
      exact ⟨gives_pt ⟨fun l h => (by cases h), fun _ => rfl⟩, (by repeat (first | with_reducible exact Below.refl _ _ | with_reducible assumption | (with_reducible refine Below.trans ?_ (Below.mono (by assumption) (by first | omega | (simp <;> omega)))) | with_reducible apply Below.drew | with_reducible apply below_drewN | (with_reducible refine Below.alloc ?_ (by first | omega | (simp <;> omega)) _) | (with_reducible refine Below.setCell ?_ (by first | omega | (simp <;> omega)) _)))⟩
end Go.Proofs.YtgkbogcmmedmbaaGreat

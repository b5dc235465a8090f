/-
  Chapter 5: PowerOfMap of program and model.
-/
import Derived.Test.YtjggjegjhcpjhaaGreatEd
namespace Go.Proofs.YtjggjegjhcpjhaaGreat
open Go.RowKit Rm

def idM : List QP := [(0, 0), (1, 1)]
theorem idM_map : GMap idM := by
  refine ⟨by decide, by decide, ?_, ?_, ?_, rfl, rfl⟩
  · intro i hi
    have h : i = 0 ∨ i = 1 := by have : idM.length = 2 := rfl; omega
    rcases h with rfl | rfl <;> (refine ⟨?_, ?_, ?_⟩ <;> decide +kernel)
  · intro i hi
    have h : i = 0 ∨ i = 1 := by have : idM.length = 2 := rfl; omega
    rcases h with rfl | rfl <;> (refine ⟨?_, ?_, ?_⟩ <;> decide +kernel)
  · intro i hi
    have h : i = 0 := by have : idM.length = 2 := rfl; omega
    subst h
    decide +kernel
def pwO (fs : List QP) : Nat → Option (List QP)
  | 0 => some idM
  | k + 1 => (pwO fs k).bind fun l => cmO fs l
theorem cmO_map {fs gs l : List QP} (hF : GMap fs) (hG : GMap gs) (h : cmO fs gs = some l) : GMap l := by
  unfold cmO at h
  cases hp : cmP fs gs with
  | none => rw [hp] at h; cases h
  | some xs =>
    rw [hp] at h
    obtain ⟨h1, h2, h3⟩ := cmP_pl hF hG hp
    exact mmO_map h1 (by have := srt_len xs; omega) h
theorem pwO_map {fs : List QP} (hF : GMap fs) : ∀ (k : Nat) (l : List QP), pwO fs k = some l → GMap l
  | 0, l, h => by simp only [pwO, Option.some.injEq] at h; subst h; exact idM_map
  | k + 1, l, h => by
    simp only [pwO] at h
    cases hk : pwO fs k with
    | none => rw [hk] at h; cases h
    | some m => rw [hk] at h; exact cmO_map hF (pwO_map hF k m hk) h
theorem pwO_none {fs : List QP} {j k : Nat} (h : pwO fs k = none) : ∀ d, j = k + d → pwO fs j = none
  | 0, e => by subst e; exact h
  | d + 1, e => by subst e; show pwO fs (k + d + 1) = none; simp only [pwO, pwO_none h d rfl, Option.bind_none]
theorem pwO_next {fs : List QP} (hF : GMap fs) (k : Nat) : twoO cmO (fs.map qp) (((pwO fs k).getD []).map qp) = pwO fs (k + 1) := by
  cases hk : pwO fs k with
  | none =>
    rw [twoO_no (.inr rfl)]
    simp only [pwO, hk, Option.bind_none]
  | some l =>
    simp only [Option.getD_some]
    rw [twoO_yes hF (pwO_map hF k l hk)]
    simp only [pwO, hk, Option.bind_some]
/-- The power, if the list is a map and the number one of 0 to 6. -/
def poO (ps : List Pt) (n : Int) : Option (List QP) := if mapB ps && (decide (0 ≤ n) && decide (n ≤ 6)) then pwO (dec ps) n.toNat else none
theorem pw_len {fs : List QP} (hF : GMap fs) (k : Nat) : ((pwO fs k).getD []).length ≤ 12 := by
  cases hk : pwO fs k with
  | none => simp
  | some l => exact (pwO_map hF k l hk).hi
theorem PowerOfMap_len (ps : List Pt) (n : Int) : (((poO ps n).getD []).map qp).length ≤ 1048576 := by
  rw [List.length_map]
  unfold poO
  split
  · rename_i h
    rw [Bool.and_eq_true] at h
    obtain ⟨qs, rfl, hg⟩ := gmap_of h.1
    rw [dec_qp]
    have := pw_len hg n.toNat
    omega
  · simp
theorem idM_own (W : World) (B : Nat) (hB : B ≤ W.heap.size) (X : Nat) (hX : X = W.heap.size) : (W.alloc (.cells #[.int .i64 0, .int .i64 1, .int .i64 0, .int .i64 1, .int .i64 1, .int .i64 1, .int .i64 1, .int .i64 1] 63)).ownsRow B 63 4 (.slice (some ⟨X, 0, none⟩) 2 2) 2 (ptcs (idM.map qp)) := by
  subst hX
  exact World.ownsRow_lit W #[.int .i64 0, .int .i64 1, .int .i64 0, .int .i64 1, .int .i64 1, .int .i64 1, .int .i64 1, .int .i64 1] 2 hB (by simp [maxLen]) (by simp)
set_option maxRecDepth 100000 in
theorem sameMap_any (w : World) : Calls Tryz.prog 49 #[] w fun e w' => ∃ g : Nat, e = .returned (.slice (some ⟨g, 0, none⟩) 2 2) ∧ w'.ownsRow w.heap.size 63 4 (.slice (some ⟨g, 0, none⟩) 2 2) 2 (ptcs (idM.map qp)) ∧ Below w.heap.size w w' := by
  go_enter Tryz.func49, Tryz.ntmps49
  go_wp2
  go_ret
  exact ⟨_, rfl, idM_own _ _ (by simp <;> omega) _ (by simp), (by repeat (first | with_reducible exact Below.refl _ _ | with_reducible assumption | (with_reducible refine Below.trans ?_ (Below.mono (by assumption) (by first | omega | (simp <;> omega)))) | with_reducible apply Below.drew | with_reducible apply below_drewN | (with_reducible refine Below.alloc ?_ (by first | omega | (simp <;> omega)) _) | (with_reducible refine Below.setCell ?_ (by first | omega | (simp <;> omega)) _)))⟩
set_option maxRecDepth 100000 in
theorem coSame_any (w : World) : Calls Tryz.prog 96 #[] w fun e w' => ∃ g : Nat, e = .returned (.slice (some ⟨g, 0, none⟩) 2 2) ∧ w'.ownsRow w.heap.size 63 4 (.slice (some ⟨g, 0, none⟩) 2 2) 2 (ptcs (idM.map qp)) ∧ Below w.heap.size w w' := by
  go_enter Tryz.func96, Tryz.ntmps96
  go_wp2_with (first
    | (go_at_call 95; (with_reducible refine (raInt_any 0 _).mono ?_); rintro e w1 ⟨rfl, hbw1⟩; obtain ⟨hcw1, hfw1⟩ := bcell hbw1; have hzw1 := hbw1.size; (try simp at hzw1))
    | (go_at_call 95; (with_reducible refine (raInt_any 1 _).mono ?_); rintro e w2 ⟨rfl, hbw2⟩; obtain ⟨hcw2, hfw2⟩ := bcell hbw2; have hzw2 := hbw2.size; (try simp at hzw2)))
  go_ret
  have hw : Below w.heap.size w w2 := (by repeat (first | with_reducible exact Below.refl _ _ | with_reducible assumption | (with_reducible refine Below.trans ?_ (Below.mono (by assumption) (by first | omega | (simp <;> omega)))) | with_reducible apply Below.drew | with_reducible apply below_drewN | (with_reducible refine Below.alloc ?_ (by first | omega | (simp <;> omega)) _) | (with_reducible refine Below.setCell ?_ (by first | omega | (simp <;> omega)) _)))
  exact ⟨_, rfl, idM_own _ _ hw.size _ rfl, (by repeat (first | with_reducible exact Below.refl _ _ | with_reducible assumption | (with_reducible refine Below.trans ?_ (Below.mono (by assumption) (by first | omega | (simp <;> omega)))) | with_reducible apply Below.drew | with_reducible apply below_drewN | (with_reducible refine Below.alloc ?_ (by first | omega | (simp <;> omega)) _) | (with_reducible refine Below.setCell ?_ (by first | omega | (simp <;> omega)) _)))⟩
theorem l1In_06 (n : Int) (w : World) : Calls Tryz.prog 47 #[.int .i64 n, .int .i64 0, .int .i64 6] w fun e w' => e = .returned (.bool (decide (0 ≤ n) && decide (n ≤ 6))) ∧ w = w' := by
  by_cases h0 : 0 ≤ n
  · by_cases h1 : n ≤ 6
    · rw [decide_eq_true h0, decide_eq_true h1]
      go_enter Tryz.func47, Tryz.ntmps47
      go_wp2
      go_ret
      exact ⟨rfl, rfl⟩
    · rw [decide_eq_true h0, decide_eq_false h1]
      have h2 : 6 < n := by omega
      go_enter Tryz.func47, Tryz.ntmps47
      go_wp2
      go_ret
      exact ⟨rfl, rfl⟩
  · rw [decide_eq_false h0]
    have h2 : n < 0 := by omega
    go_enter Tryz.func47, Tryz.ntmps47
    go_wp2
    go_ret
    exact ⟨rfl, rfl⟩

set_option maxRecDepth 100000 in
set_option maxHeartbeats 1600000 in
theorem iPowerOfMap_any (A : Option Addr) (n c b1 : Nat) (ps : List Pt) (m : Int) (w : World) (ha : w.ownsRow b1 63 4 (.slice A n c) n (ptcs ps)) (hn : n ≤ 1048576) :
    Calls Tryz.prog 15 #[.slice A n c, .int .i64 m] w fun e w' => GivesP w.heap.size (((poO ps m).getD []).map qp) (poO ps m).isSome e w' ∧ Below w.heap.size w w' := by
  have hm1 := isMap_any A n c b1 ps w ha hn
  cases h1 : mapB ps with
  | false =>
    rw [show poO ps m = none by unfold poO; rw [h1]; rfl]
    rw [h1] at hm1
    have HM := hide hm1; clear hm1 h1 ha
    go_enter Tryz.func15, Tryz.ntmps15
    go_wp2_with (go_at_call 43; (with_reducible refine (unhide HM).mono ?_); rintro e w1 ⟨rfl, hbw1⟩)
    go_ret2
    exact ⟨gives_pt ⟨fun l h => (by cases h), fun _ => rfl⟩, (by repeat (first | with_reducible exact Below.refl _ _ | with_reducible assumption | (with_reducible refine Below.trans ?_ (Below.mono (by assumption) (by first | omega | (simp <;> omega)))) | with_reducible apply Below.drew | with_reducible apply below_drewN | (with_reducible refine Below.alloc ?_ (by first | omega | (simp <;> omega)) _) | (with_reducible refine Below.setCell ?_ (by first | omega | (simp <;> omega)) _)))⟩
  | true =>
    rw [h1] at hm1
    have HM := hide hm1; clear hm1
    by_cases h0 : 0 ≤ m
    · by_cases h6 : m ≤ 6
      · obtain ⟨g, m1, fs, rfl, rfl, rfl, hgf, hlf⟩ := own_form ha h1
        obtain ⟨N, rfl⟩ : ∃ N : Nat, m = (N : Int) := ⟨m.toNat, by omega⟩
        have hpo : poO (fs.map qp) (N : Int) = pwO fs N := by
          unfold poO
          rw [h1, decide_eq_true h0, decide_eq_true h6, dec_qp, Int.toNat_natCast]
          rfl
        rw [hpo]
        have hcp := fun (A' : Option Addr) (n' c' b' k : Nat) (W : World) hW hV => iComposeMaps_any (some ⟨g, 0, none⟩) (m1 + 1) c b1 (fs.map qp) A' n' c' b' (((pwO fs k).getD []).map qp) W hW hn hV
        simp only [pwO_next hgf] at hcp
        have hpl := pw_len hgf
        have HA := hide ha; have HC := hide hcp; have HPL := hide hpl
        clear ha h1 hpo hcp hpl hgf hlf
        have s6 : ¬ ((6 : Int) < (N : Int)) := by omega
        go_enter Tryz.func15, Tryz.ntmps15
        go_wp2_with (first
          | (go_at_call 43; (with_reducible refine (unhide HM).mono ?_); rintro e w1 ⟨rfl, hbw1⟩; have hs1 := hbw1.size)
          | (go_at_call 49; (with_reducible refine (sameMap_any _).mono ?_); rintro e w2 ⟨g2, rfl, ho2, hbw2⟩; have hs2 := hbw2.size; have HO2 := hide ho2; clear ho2))
        have hw2 : Below w.heap.size w w2 := (by repeat (first | with_reducible exact Below.refl _ _ | with_reducible assumption | (with_reducible refine Below.trans ?_ (Below.mono (by assumption) (by first | omega | (simp <;> omega)))) | with_reducible apply Below.drew | with_reducible apply below_drewN | (with_reducible refine Below.alloc ?_ (by first | omega | (simp <;> omega)) _) | (with_reducible refine Below.setCell ?_ (by first | omega | (simp <;> omega)) _)))
        have HW2 := hide hw2
        have HO2' := hide ((unhide HO2).mono hs1)
        clear hw2 hbw1 hbw2 HO2 HM
        go_loopw [6, 7, 21] (fun v b i wr => ∃ (k : Nat) (A' : Option Addr) (n' d' : Nat) (z : Bool), i = .int .i64 k ∧ v = .slice A' n' d' ∧ b = .bool z ∧ k ≤ N ∧ Hid (z = (pwO fs k).isSome) ∧ Hid (n' = ((pwO fs k).getD []).length) ∧ n' ≤ 1048576 ∧ wr.ownsRow w.heap.size 63 4 (.slice A' n' d') n' (ptcs (((pwO fs k).getD []).map qp)) ∧ Below w.heap.size w wr) (fun _ _ i _ => N - (intOf i).toNat)
        case atStart => exact ⟨0, _, 2, 2, true, rfl, rfl, rfl, by omega, hide rfl, hide rfl, by omega, unhide HO2', unhide HW2⟩
        case round =>
          obtain ⟨k, A', n', d', z, rfl, rfl, rfl, hk, HZ, HN, hn', hown, hbwr⟩ := hrel
          have hsr := hbwr.size
          by_cases hlt : k < N
          · have hcc := fun W hW hV => (unhide HC) A' n' d' w.heap.size k W hW hV hn'
            have hp12 := (unhide HPL) (k + 1)
            have HCC := hide hcc; have HO := hide hown; have HB := hide hbwr
            clear hcc hown hbwr
            obtain ⟨xs, hxs⟩ : ∃ xs, xs = ((pwO fs (k + 1)).getD []) := ⟨_, rfl⟩
            obtain ⟨z', hz'⟩ : ∃ z, z = (pwO fs (k + 1)).isSome := ⟨_, rfl⟩
            have hxm : (((pwO fs (k + 1)).getD []).map qp).length = ((pwO fs (k + 1)).getD []).length := List.length_map ..
            go_wp2_with (go_at_call 10; (with_reducible refine ((unhide HCC) _ (own_below (unhide HA) ?pb) (own_below (unhide HO) ?pc)).mono ?_); (case pb => have hb := unhide HB; exact (by repeat (first | with_reducible exact Below.refl _ _ | with_reducible assumption | (with_reducible refine Below.trans ?_ (Below.mono (by assumption) (by first | omega | (simp <;> omega)))) | with_reducible apply Below.drew | with_reducible apply below_drewN | (with_reducible refine Below.alloc ?_ (by first | omega | (simp <;> omega)) _) | (with_reducible refine Below.setCell ?_ (by first | omega | (simp <;> omega)) _)))); (case pc => exact (by repeat (first | with_reducible exact Below.refl _ _ | with_reducible assumption | (with_reducible refine Below.trans ?_ (Below.mono (by assumption) (by first | omega | (simp <;> omega)))) | with_reducible apply Below.drew | with_reducible apply below_drewN | (with_reducible refine Below.alloc ?_ (by first | omega | (simp <;> omega)) _) | (with_reducible refine Below.setCell ?_ (by first | omega | (simp <;> omega)) _)))); rintro e w3 ⟨⟨A3, d3, rfl, ho3⟩, hbw3⟩; have HO3 := hide ho3; clear ho3)
            have hb := unhide HB
            have hz : Below w.heap.size w w3 := (by repeat (first | with_reducible exact Below.refl _ _ | with_reducible assumption | (with_reducible refine Below.trans ?_ (Below.mono (by assumption) (by first | omega | (simp <;> omega)))) | with_reducible apply Below.drew | with_reducible apply below_drewN | (with_reducible refine Below.alloc ?_ (by first | omega | (simp <;> omega)) _) | (with_reducible refine Below.setCell ?_ (by first | omega | (simp <;> omega)) _)))
            have ho := unhide HO3
            rw [List.length_map] at ho
            have ho' := ho.mono hsr
            refine ⟨⟨k + 1, A3, _, d3, _, by go_num, rfl, rfl, by omega, hide rfl, hide rfl, by omega, ho', hz⟩, by simp [intOf]; omega⟩
          · have hke : k = N := by omega
            have hzz := HZ.out
            have hnn := HN.out
            rw [hke] at hown hzz hnn
            have HO := hide hown; have HB := hide hbwr; have HE := Lib.hid (And.intro hzz hnn)
            clear hke hown hbwr hzz hnn
            go_wp2_with fail
            go_ret2
            refine ⟨⟨A', d', ?_, ?_⟩, unhide HB⟩
            · rw [List.length_map, ← HE.out.1, ← HE.out.2] <;> rfl
            · rw [List.length_map, ← HE.out.2]; exact unhide HO
      · rw [show poO ps m = none by unfold poO; rw [decide_eq_false h6]; simp]
        have s6 : (6 : Int) < m := by omega
        clear h1 ha
        go_enter Tryz.func15, Tryz.ntmps15
        go_wp2_with (go_at_call 43; (with_reducible refine (unhide HM).mono ?_); rintro e w1 ⟨rfl, hbw1⟩)
        go_ret2
        exact ⟨gives_pt ⟨fun l h => (by cases h), fun _ => rfl⟩, (by repeat (first | with_reducible exact Below.refl _ _ | with_reducible assumption | (with_reducible refine Below.trans ?_ (Below.mono (by assumption) (by first | omega | (simp <;> omega)))) | with_reducible apply Below.drew | with_reducible apply below_drewN | (with_reducible refine Below.alloc ?_ (by first | omega | (simp <;> omega)) _) | (with_reducible refine Below.setCell ?_ (by first | omega | (simp <;> omega)) _)))⟩
    · rw [show poO ps m = none by unfold poO; rw [decide_eq_false h0]; simp]
      have s0 : m < 0 := by omega
      clear h1 ha
      go_enter Tryz.func15, Tryz.ntmps15
      go_wp2_with (go_at_call 43; (with_reducible refine (unhide HM).mono ?_); rintro e w1 ⟨rfl, hbw1⟩)
      go_ret2
      exact ⟨gives_pt ⟨fun l h => (by cases h), fun _ => rfl⟩, (by repeat (first | with_reducible exact Below.refl _ _ | with_reducible assumption | (with_reducible refine Below.trans ?_ (Below.mono (by assumption) (by first | omega | (simp <;> omega)))) | with_reducible apply Below.drew | with_reducible apply below_drewN | (with_reducible refine Below.alloc ?_ (by first | omega | (simp <;> omega)) _) | (with_reducible refine Below.setCell ?_ (by first | omega | (simp <;> omega)) _)))⟩

set_option maxRecDepth 100000 in
set_option maxHeartbeats 1600000 in
theorem coPower_any (gf mf cf bf N : Nat) (fs : List QP) (w : World) (hf : w.ownsRow bf 63 4 (.slice (some ⟨gf, 0, none⟩) (mf + 1) cf) (mf + 1) (ptcs (fs.map qp))) (hF : GMap fs) (hN : N ≤ 6) :
    Calls Tryz.prog 48 #[.slice (some ⟨gf, 0, none⟩) (mf + 1) cf, .int .i64 N] w fun e w' => PtO w.heap.size (pwO fs N) e w' ∧ Below w.heap.size w w' := by
  have hcp := fun (g' m' c' b' : Nat) (ls : List QP) (W : World) hW hV hL => coCompose_any gf mf cf bf g' m' c' b' fs ls W hW hV hF hL
  have hpm := pwO_map hF
  have HA := hide hf; have HC := hide hcp; have HPM := hide hpm
  clear hf hcp hpm hF
  go_enter Tryz.func48, Tryz.ntmps48
  go_wp2_with (go_at_call 96; (with_reducible refine (coSame_any _).mono ?_); rintro e w2 ⟨g2, rfl, ho2, hbw2⟩; have hs2 := hbw2.size; have HO2 := hide ho2; clear ho2)
  have HW2 := hide hbw2
  clear hbw2
  go_loopw [1, 6] (fun nv v wr => ∃ (k j : Nat) (A' : Option Addr) (d' : Nat) (l : List QP), nv = .int .i64 j ∧ v = .slice A' l.length d' ∧ Hid (k + j = N) ∧ j ≤ 6 ∧ Hid (pwO fs k = some l) ∧ wr.ownsRow w.heap.size 63 4 (.slice A' l.length d') l.length (ptcs (l.map qp)) ∧ Below w.heap.size w wr) (fun nv _ _ => (intOf nv).toNat)
  case atStart => exact ⟨0, N, _, 2, idM, rfl, rfl, hide (by omega), by omega, hide rfl, unhide HO2, unhide HW2⟩
  case round =>
    obtain ⟨k, j, A', d', l, rfl, rfl, HKJ, hj6, HPW, hown, hbwr⟩ := hrel
    have hsr := hbwr.size
    by_cases hlt : 0 < j
    · have hL := (unhide HPM) k l (unhide HPW)
      have hlo := hL.lo
      obtain ⟨m', hm'⟩ : ∃ m', l.length = m' + 1 := ⟨l.length - 1, by omega⟩
      obtain ⟨g', rfl, _, _⟩ := own_some hown (by omega)
      obtain ⟨j', rfl⟩ : ∃ j', j = j' + 1 := ⟨j - 1, by omega⟩
      have hst : pwO fs (k + 1) = cmO fs l := by simp only [pwO]; rw [(unhide HPW)]; rfl
      rw [hm'] at hown
      have hcc := fun W hW hV => (unhide HC) g' m' d' w.heap.size l W hW hV hL
      rw [hm']
      have HCC := hide hcc; have HO := hide hown; have HB := hide hbwr; have HST := Lib.hid hst
      clear hcc hown hbwr hst hm' hL hlo
      have s1 : IntKind.i64.wrap (j' : Int) = (j' : Int) := IntWalk.i64_in _ (by omega)
      cases hq : cmO fs l with
      | none =>
        have hno : pwO fs N = none := pwO_none (k := k + 1) (by rw [HST.out, hq]) j' (by have := HKJ.out; omega)
        have HNO := Lib.hid hno; have HQ := Lib.hid hq
        clear hno hq
        go_wp2_with (go_at_call 41; (with_reducible refine ((unhide HCC) _ (own_below (unhide HA) ?pb) (own_below (unhide HO) ?pc)).mono ?_); (case pb => have hb := unhide HB; exact (by repeat (first | with_reducible exact Below.refl _ _ | with_reducible assumption | (with_reducible refine Below.trans ?_ (Below.mono (by assumption) (by first | omega | (simp <;> omega)))) | with_reducible apply Below.drew | with_reducible apply below_drewN | (with_reducible refine Below.alloc ?_ (by first | omega | (simp <;> omega)) _) | (with_reducible refine Below.setCell ?_ (by first | omega | (simp <;> omega)) _)))); (case pc => exact (by repeat (first | with_reducible exact Below.refl _ _ | with_reducible assumption | (with_reducible refine Below.trans ?_ (Below.mono (by assumption) (by first | omega | (simp <;> omega)))) | with_reducible apply Below.drew | with_reducible apply below_drewN | (with_reducible refine Below.alloc ?_ (by first | omega | (simp <;> omega)) _) | (with_reducible refine Below.setCell ?_ (by first | omega | (simp <;> omega)) _)))); rintro e w3 ⟨hp3, hbw3⟩; obtain rfl := hp3.2 HQ.out; clear hp3)
        have hb := unhide HB
        go_ret2
        refine ⟨?_, (by repeat (first | with_reducible exact Below.refl _ _ | with_reducible assumption | (with_reducible refine Below.trans ?_ (Below.mono (by assumption) (by first | omega | (simp <;> omega)))) | with_reducible apply Below.drew | with_reducible apply below_drewN | (with_reducible refine Below.alloc ?_ (by first | omega | (simp <;> omega)) _) | (with_reducible refine Below.setCell ?_ (by first | omega | (simp <;> omega)) _)))⟩
        rw [HNO.out]
        exact ⟨fun l h => (by cases h), fun _ => rfl⟩
      | some r =>
        have HPW' := hide (show pwO fs (k + 1) = some r by rw [HST.out, hq])
        have HQ := Lib.hid hq
        clear hq
        go_wp2_with (go_at_call 41; (with_reducible refine ((unhide HCC) _ (own_below (unhide HA) ?pb) (own_below (unhide HO) ?pc)).mono ?_); (case pb => have hb := unhide HB; exact (by repeat (first | with_reducible exact Below.refl _ _ | with_reducible assumption | (with_reducible refine Below.trans ?_ (Below.mono (by assumption) (by first | omega | (simp <;> omega)))) | with_reducible apply Below.drew | with_reducible apply below_drewN | (with_reducible refine Below.alloc ?_ (by first | omega | (simp <;> omega)) _) | (with_reducible refine Below.setCell ?_ (by first | omega | (simp <;> omega)) _)))); (case pc => exact (by repeat (first | with_reducible exact Below.refl _ _ | with_reducible assumption | (with_reducible refine Below.trans ?_ (Below.mono (by assumption) (by first | omega | (simp <;> omega)))) | with_reducible apply Below.drew | with_reducible apply below_drewN | (with_reducible refine Below.alloc ?_ (by first | omega | (simp <;> omega)) _) | (with_reducible refine Below.setCell ?_ (by first | omega | (simp <;> omega)) _)))); rintro e w3 ⟨hp3, hbw3⟩; obtain ⟨A3, d3, rfl, ho3⟩ := hp3.1 r HQ.out; clear hp3; have HO3 := hide ho3; clear ho3)
        have hb := unhide HB
        have hz : Below w.heap.size w w3 := (by repeat (first | with_reducible exact Below.refl _ _ | with_reducible assumption | (with_reducible refine Below.trans ?_ (Below.mono (by assumption) (by first | omega | (simp <;> omega)))) | with_reducible apply Below.drew | with_reducible apply below_drewN | (with_reducible refine Below.alloc ?_ (by first | omega | (simp <;> omega)) _) | (with_reducible refine Below.setCell ?_ (by first | omega | (simp <;> omega)) _)))
        have HZ := hide hz
        clear hz hb hbw3
        go_roundw
        case rel => exact ⟨k + 1, j', A3, d3, r, by go_num, rfl, hide (by have := HKJ.out; omega), by omega, HPW', (unhide HO3).mono hsr, unhide HZ⟩
        case measure => simp [intOf]
    · obtain rfl : j = 0 := by omega
      have hkn : k = N := by have := HKJ.out; omega
      have hpw := unhide HPW
      rw [hkn] at hpw
      have HP := Lib.hid hpw
      have HO := hide hown; have HB := hide hbwr
      clear hkn hpw hown hbwr
      go_wp2_with fail
      go_ret2
      refine ⟨?_, unhide HB⟩
      rw [HP.out]
      exact ⟨fun l h => (by injection h with h; subst h; exact ⟨A', d', rfl, unhide HO⟩), fun h => (by cases h)⟩

set_option maxRecDepth 100000 in
set_option maxHeartbeats 1600000 in
theorem sPowerOfMap_any (A : Option Addr) (n c b1 : Nat) (ps : List Pt) (m : Int) (w : World) (ha : w.ownsRow b1 63 4 (.slice A n c) n (ptcs ps)) (hn : n ≤ 1048576) :
    Calls Tryz.prog 14 #[.slice A n c, .int .i64 m] w fun e w' => GivesP w.heap.size (((poO ps m).getD []).map qp) (poO ps m).isSome e w' ∧ Below w.heap.size w w' := by
  have hm1 := imGood_any A n c b1 ps w ha hn
  have hl1 := fun W => l1In_06 m W
  cases h1 : mapB ps with
  | false =>
    rw [show poO ps m = none by unfold poO; rw [h1]; rfl]
    rw [h1] at hm1
    have HM := hide hm1; clear hm1 h1 ha hl1
    go_enter Tryz.func14, Tryz.ntmps14
    go_wp2_with (go_at_call 46; (with_reducible refine (unhide HM).mono ?_); rintro e w1 ⟨rfl, hbw1⟩)
    go_ret2
    exact ⟨gives_pt ⟨fun l h => (by cases h), fun _ => rfl⟩, (by repeat (first | with_reducible exact Below.refl _ _ | with_reducible assumption | (with_reducible refine Below.trans ?_ (Below.mono (by assumption) (by first | omega | (simp <;> omega)))) | with_reducible apply Below.drew | with_reducible apply below_drewN | (with_reducible refine Below.alloc ?_ (by first | omega | (simp <;> omega)) _) | (with_reducible refine Below.setCell ?_ (by first | omega | (simp <;> omega)) _)))⟩
  | true =>
    rw [h1] at hm1
    have HM := hide hm1; clear hm1
    cases hr : (decide (0 ≤ m) && decide (m ≤ 6)) with
    | false =>
      rw [show poO ps m = none by unfold poO; rw [hr]; simp]
      rw [hr] at hl1
      have HL := hide hl1
      clear h1 ha hl1 hr
      go_enter Tryz.func14, Tryz.ntmps14
      go_wp2_with (first
        | (go_at_call 46; (with_reducible refine (unhide HM).mono ?_); rintro e w1 ⟨rfl, hbw1⟩)
        | (go_at_call 47; (with_reducible refine ((unhide HL) _).mono ?_); rintro e w' ⟨rfl, rfl⟩))
      go_ret2
      exact ⟨gives_pt ⟨fun l h => (by cases h), fun _ => rfl⟩, (by repeat (first | with_reducible exact Below.refl _ _ | with_reducible assumption | (with_reducible refine Below.trans ?_ (Below.mono (by assumption) (by first | omega | (simp <;> omega)))) | with_reducible apply Below.drew | with_reducible apply below_drewN | (with_reducible refine Below.alloc ?_ (by first | omega | (simp <;> omega)) _) | (with_reducible refine Below.setCell ?_ (by first | omega | (simp <;> omega)) _)))⟩
    | true =>
      rw [hr] at hl1
      rw [Bool.and_eq_true] at hr
      have h0 := of_decide_eq_true hr.1
      have h6 := of_decide_eq_true hr.2
      obtain ⟨g, m1, fs, rfl, rfl, rfl, hgf, hlf⟩ := own_form ha h1
      obtain ⟨N, rfl⟩ : ∃ N : Nat, m = (N : Int) := ⟨m.toNat, by omega⟩
      have hpo : poO (fs.map qp) (N : Int) = pwO fs N := by
        unfold poO
        rw [h1, hr.1, hr.2, dec_qp, Int.toNat_natCast]
        rfl
      rw [hpo]
      have hcp := fun W hW => coPower_any g m1 c b1 N fs W hW hgf (by omega)
      have HA := hide ha; have HC := hide hcp; have HL := hide hl1
      clear ha h1 hpo hcp hgf hlf hl1 hr
      cases hq : pwO fs N with
      | none =>
        have HQ := Lib.hid hq; clear hq
        go_enter Tryz.func14, Tryz.ntmps14
        go_wp2_with (first
          | (go_at_call 46; (with_reducible refine (unhide HM).mono ?_); rintro e w1 ⟨rfl, hbw1⟩; have hs1 := hbw1.size)
          | (go_at_call 47; (with_reducible refine ((unhide HL) _).mono ?_); rintro e w' ⟨rfl, rfl⟩)
          | (go_at_call 48; (with_reducible refine ((unhide HC) _ (own_below (unhide HA) ?pb)).mono ?_); (case pb => exact (by repeat (first | with_reducible exact Below.refl _ _ | with_reducible assumption | (with_reducible refine Below.trans ?_ (Below.mono (by assumption) (by first | omega | (simp <;> omega)))) | with_reducible apply Below.drew | with_reducible apply below_drewN | (with_reducible refine Below.alloc ?_ (by first | omega | (simp <;> omega)) _) | (with_reducible refine Below.setCell ?_ (by first | omega | (simp <;> omega)) _)))); rintro e w3 ⟨hp3, hbw3⟩; obtain rfl := hp3.2 HQ.out; clear hp3))
        go_ret2
        exact ⟨gives_pt ⟨fun l h => (by cases h), fun _ => rfl⟩, (by repeat (first | with_reducible exact Below.refl _ _ | with_reducible assumption | (with_reducible refine Below.trans ?_ (Below.mono (by assumption) (by first | omega | (simp <;> omega)))) | with_reducible apply Below.drew | with_reducible apply below_drewN | (with_reducible refine Below.alloc ?_ (by first | omega | (simp <;> omega)) _) | (with_reducible refine Below.setCell ?_ (by first | omega | (simp <;> omega)) _)))⟩
      | some r =>
        have HQ := Lib.hid hq; clear hq
        go_enter Tryz.func14, Tryz.ntmps14
        go_wp2_with (first
          | (go_at_call 46; (with_reducible refine (unhide HM).mono ?_); rintro e w1 ⟨rfl, hbw1⟩; have hs1 := hbw1.size)
          | (go_at_call 47; (with_reducible refine ((unhide HL) _).mono ?_); rintro e w' ⟨rfl, rfl⟩)
          | (go_at_call 48; (with_reducible refine ((unhide HC) _ (own_below (unhide HA) ?pb)).mono ?_); (case pb => exact (by repeat (first | with_reducible exact Below.refl _ _ | with_reducible assumption | (with_reducible refine Below.trans ?_ (Below.mono (by assumption) (by first | omega | (simp <;> omega)))) | with_reducible apply Below.drew | with_reducible apply below_drewN | (with_reducible refine Below.alloc ?_ (by first | omega | (simp <;> omega)) _) | (with_reducible refine Below.setCell ?_ (by first | omega | (simp <;> omega)) _)))); rintro e w3 ⟨hp3, hbw3⟩; obtain ⟨A3, d3, rfl, ho3⟩ := hp3.1 r HQ.out; clear hp3; have HO3 := hide ho3; clear ho3))
        go_ret2
        exact ⟨gives_pt ⟨fun l h => (by injection h with h; subst h; exact ⟨A3, d3, rfl, (unhide HO3).mono (by omega)⟩), fun h => (by cases h)⟩, (by repeat (first | with_reducible exact Below.refl _ _ | with_reducible assumption | (with_reducible refine Below.trans ?_ (Below.mono (by assumption) (by first | omega | (simp <;> omega)))) | with_reducible apply Below.drew | with_reducible apply below_drewN | (with_reducible refine Below.alloc ?_ (by first | omega | (simp <;> omega)) _) | (with_reducible refine Below.setCell ?_ (by first | omega | (simp <;> omega)) _)))⟩
end Go.Proofs.YtjggjegjhcpjhaaGreat

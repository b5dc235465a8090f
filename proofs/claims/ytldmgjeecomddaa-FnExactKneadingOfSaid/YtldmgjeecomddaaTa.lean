/-
  Chapters 17 and 7: strict maps, unimodal maps: of both.
-/
import Derived.Test.YtldmgjeecomddaaWb
import Derived.Test.YtldmgjeecomddaaLpa
namespace Go.Proofs.Ytldmgjeecomddaa
open Go.RowKit Rm

set_option maxRecDepth 100000 in
set_option maxHeartbeats 1600000 in
theorem lpStrict_map (g m c base : Nat) (qs : List QP) (w : World) (ha : w.ownsRow base 49 4 (.slice (some ⟨g, 0, none⟩) (m + 1) c) (m + 1) (ptcs (qs.map qp))) (hg : GMap qs) :
    Calls Try.prog 43 #[.slice (some ⟨g, 0, none⟩) (m + 1) c] w fun e w' => e = .returned (.bool (lmB (qs.map qp))) ∧ Below w.heap.size w w' := by
  have hlen : qs.length = m + 1 := by have := own_len ha; rw [List.length_map] at this; exact this
  obtain ⟨z, hz⟩ : ∃ z, z = lmB (qs.map qp) := ⟨_, rfl⟩
  rw [← hz]
  have hhi := hg.hi
  rw [hlen] at hhi
  have HZ := Lib.hid hz; have HA := hide ha; have HL := Lib.hid hlen
  clear hz ha hlen
  go_enter Try.func43, Try.ntmps43
  go_wp2_with fail
  refine (imSlopes_map g (m + 1) c base qs _ (unhide HA) hg).mono ?_
  rintro e w2 ⟨v1, rfl, ho1, hbw2⟩
  rw [Nat.add_sub_cancel] at ho1
  obtain ⟨A1, c1, rfl⟩ := own_slice ho1
  have HS1 := hide ho1
  have hbA := hbw2
  have HBA := hide hbA
  have hzA := hbA.size
  clear ho1 hbw2 hbA
  go_wp2_with fail
  go_loopw [8] (fun i wr => ∃ k : Nat, i = .int .i64 (k : Int) ∧ k ≤ m ∧ Hid (∀ j, j < k → dirR qs j ≠ 0) ∧ Below w2.heap.size w2 wr) (fun i _ => m - (intOf i).toNat)
  case atStart => exact ⟨0, rfl, by omega, hide (fun j h => by omega), Below.refl _ _⟩
  case round =>
    obtain ⟨k, rfl, hk, hnz, hbwr⟩ := hrel
    have hzwr := hbwr.size
    by_cases hlt : k < m
    · have hk1 : k + 1 < qs.length := by rw [HL.out]; omega
      have hfa : fAt ((slopesK qs m).map qf) k = ((slopeR (qAt qs k) (qAt qs (k + 1))).num, ((slopeR (qAt qs k) (qAt qs (k + 1))).den : Int)) := by
        unfold fAt slopesK
        simp [hlt, qf]
      obtain ⟨g1, rfl, hg1, _, f0, f1⟩ := frs_cells (own_below (unhide HS1) hbwr) hlt hfa
      have hsg : (slopeR (qAt qs k) (qAt qs (k + 1))).num.sign = dirR qs k := slope_sign (hg.inc k hk1)
      have hnx : dirR qs k ≠ 0 → ∀ j, j < k + 1 → dirR qs j ≠ 0 := fun h j hj => by
        rcases Nat.lt_or_ge j k with h1 | h1
        · exact (unhide hnz) j h1
        · obtain rfl : j = k := by omega
          exact h
      have hbad : dirR qs k = 0 → z = false := fun h => by rw [HZ.out]; exact lmB_bad hg hk1 h
      have HSG := Lib.hid hsg; have HNX := hide hnx; have HBAD := hide hbad; have HB := hide hbwr
      clear hfa hsg hnx hbad hbwr hnz
      generalize (slopeR (qAt qs k) (qAt qs (k + 1))).num = sx at *
      generalize ((slopeR (qAt qs k) (qAt qs (k + 1))).den : Int) = sy at *
      by_cases h0 : sx = 0
      · have hd0 : dirR qs k = 0 := by rw [← HSG.out, h0]; rfl
        obtain rfl := (unhide HBAD) hd0
        subst h0
        clear hd0
        go_wp2_with fail
        have hb := unhide HB
        have hbA := unhide HBA
        go_ret
        exact ⟨rfl, (by repeat (first | with_reducible exact Below.refl _ _ | with_reducible assumption | (with_reducible refine Below.trans ?_ (Below.mono (by assumption) (by first | omega | (simp <;> omega)))) | with_reducible apply Below.drew | with_reducible apply below_drewN | (with_reducible refine Below.alloc ?_ (by first | omega | (simp <;> omega)) _) | (with_reducible refine Below.setCell ?_ (by first | omega | (simp <;> omega)) _)))⟩
      · have hd0 : dirR qs k ≠ 0 := by rw [← HSG.out]; exact fun h => h0 (Int.sign_eq_zero_iff_zero.1 h)
        have HN1 := hide ((unhide HNX) hd0)
        have hs1 : (sx == 0) = false := by simpa using h0
        have hs2 : decide (sx = 0) = false := by simpa using h0
        clear hd0
        go_wp2_with fail
        have hb := unhide HB
        go_roundw
        case rel => exact ⟨k + 1, by go_num, by omega, HN1, (by repeat (first | with_reducible exact Below.refl _ _ | with_reducible assumption | (with_reducible refine Below.trans ?_ (Below.mono (by assumption) (by first | omega | (simp <;> omega)))) | with_reducible apply Below.drew | with_reducible apply below_drewN | (with_reducible refine Below.alloc ?_ (by first | omega | (simp <;> omega)) _) | (with_reducible refine Below.setCell ?_ (by first | omega | (simp <;> omega)) _)))⟩
        case measure => (simp [intOf] <;> omega)
    · obtain rfl : k = m := by omega
      obtain rfl : z = true := by
        rw [HZ.out]
        exact (lmB_yes hg).2 ⟨hg, fun j hj => (unhide hnz) j (by have := HL.out; omega)⟩
      have HB := hide hbwr
      clear hbwr
      go_wp2_with fail
      have hb := unhide HB
      have hbA := unhide HBA
      go_ret
      exact ⟨rfl, (by repeat (first | with_reducible exact Below.refl _ _ | with_reducible assumption | (with_reducible refine Below.trans ?_ (Below.mono (by assumption) (by first | omega | (simp <;> omega)))) | with_reducible apply Below.drew | with_reducible apply below_drewN | (with_reducible refine Below.alloc ?_ (by first | omega | (simp <;> omega)) _) | (with_reducible refine Below.setCell ?_ (by first | omega | (simp <;> omega)) _)))⟩

/-- The first lap's direction. -/
def d0 (ps : List Pt) : Int := ((lapF ps).headD []).getD 2 0
/-- A map is unimodal. -/
def umB (ps : List Pt) : Bool := lmB ps && (decide ((lapF ps).length = 2) && decide (d0 ps = 1))
theorem um_no {ps : List Pt} (h : lmB ps = false) : umB ps = false := by unfold umB; rw [h]; rfl
/-- What the laps of a map that is one of laps alone are. -/
theorem um_cases {qs : List QP} (hl : LMap qs) {m : Nat} (hlen : qs.length = m + 1) :
    ((lapRows (dirR qs) m).length ≠ 2 ∧ umB (qs.map qp) = false) ∨
    ∃ (r s : Lap), lapRows (dirR qs) m = [lapRow r, lapRow s] ∧ lapsQ qs = [r, s] ∧ ((r.2.2 = 1 ∧ umB (qs.map qp) = true) ∨ (r.2.2 = -1 ∧ umB (qs.map qp) = false)) := by
  have hF : lapF (qs.map qp) = lapRows (dirR qs) m := by rw [lapF_map hl.toGMap, hlen, Nat.add_sub_cancel]
  have hQ : lapRows (dirR qs) m = (lapsQ qs).map lapRow := by unfold lapsQ lapRows; rw [hlen, Nat.add_sub_cancel]
  have hu : umB (qs.map qp) = (decide ((lapRows (dirR qs) m).length = 2) && decide (d0 (qs.map qp) = 1)) := by unfold umB; rw [hl.lmB, hF]; rfl
  by_cases h2 : (lapRows (dirR qs) m).length = 2
  · right
    rw [hQ, List.length_map] at h2
    obtain ⟨r, s, hrs⟩ : ∃ r s, lapsQ qs = [r, s] := by
      match hq : lapsQ qs, h2 with
      | [r, s], _ => exact ⟨r, s, rfl⟩
    refine ⟨r, s, by rw [hQ, hrs]; rfl, hrs, ?_⟩
    have hd : d0 (qs.map qp) = r.2.2 := by unfold d0; rw [hF, hQ, hrs]; rfl
    obtain ⟨hok, hnz⟩ := hl.lap (r := r) (by rw [hrs]; exact List.mem_cons_self)
    have hb : dirR qs r.1 = r.2.2 := hok.dir r.1 (Nat.le_refl _) hok.lt
    have hbd := cq_bd (qAt qs (r.1 + 1)).2 (qAt qs r.1).2
    have hb' : cq (qAt qs (r.1 + 1)).2 (qAt qs r.1).2 = r.2.2 := hb
    rw [hb'] at hbd
    rw [hu, hd, hQ, hrs]
    rcases (by omega : r.2.2 = 1 ∨ r.2.2 = -1) with h | h
    · exact .inl ⟨h, by rw [h]; rfl⟩
    · exact .inr ⟨h, by rw [h]; rfl⟩
  · exact .inl ⟨h2, by rw [hu, decide_eq_false h2]; rfl⟩

set_option maxRecDepth 100000 in
theorem iIsStrict_any (A : Option Addr) (n c base : Nat) (ps : List Pt) (w : World) (ha : w.ownsRow base 49 4 (.slice A n c) n (ptcs ps)) (hn : n ≤ 1048576) :
    Calls Try.prog 24 #[.slice A n c] w fun e w' => e = .returned (.tuple #[.bool (lmB ps), .bool (mapB ps)]) ∧ Below w.heap.size w w' := by
  have hm := fun W hW => isMap_any A n c base ps W hW hn
  have hl := fun W hW => iIsLapMap_any A n c base ps W hW hn
  have HM := hide hm; have HL := hide hl; have HA := hide ha
  clear hm hl ha
  generalize lmB ps = z at *
  generalize mapB ps = y at *
  go_enter Try.func24, Try.ntmps24
  go_wp2_with (first
    | (go_at_call 44; (with_reducible refine ((unhide HL) _ (unhide HA)).mono ?_); rintro e w1 ⟨rfl, hbw1⟩; have hz1 := hbw1.size)
    | (go_at_call 38; (with_reducible refine ((unhide HM) _ (own_below (unhide HA) hbw1)).mono ?_); rintro e w2 ⟨rfl, hbw2⟩; have hz2 := hbw2.size))
  go_ret2
  exact ⟨rfl, (by repeat (first | with_reducible exact Below.refl _ _ | with_reducible assumption | (with_reducible refine Below.trans ?_ (Below.mono (by assumption) (by first | omega | (simp <;> omega)))) | with_reducible apply Below.drew | with_reducible apply below_drewN | (with_reducible refine Below.alloc ?_ (by first | omega | (simp <;> omega)) _) | (with_reducible refine Below.setCell ?_ (by first | omega | (simp <;> omega)) _)))⟩

set_option maxRecDepth 100000 in
theorem sIsStrict_any (A : Option Addr) (n c base : Nat) (ps : List Pt) (w : World) (ha : w.ownsRow base 49 4 (.slice A n c) n (ptcs ps)) (hn : n ≤ 1048576) :
    Calls Try.prog 23 #[.slice A n c] w fun e w' => e = .returned (.tuple #[.bool (lmB ps), .bool (mapB ps)]) ∧ Below w.heap.size w w' := by
  have hmap := imGood_any A n c base ps w ha hn
  rcases hm : mapB ps with _ | _
  · rw [hm] at hmap
    rw [lmB_no hm]
    have HM := hide hmap; clear hmap hm ha
    go_enter Try.func23, Try.ntmps23
    go_wp2_with (go_at_call 42; (with_reducible refine (unhide HM).mono ?_); rintro e w1 ⟨rfl, hbw1⟩)
    go_ret2
    exact ⟨rfl, hbw1⟩
  · obtain ⟨g, m, qs, rfl, rfl, rfl, hg, hlen⟩ := own_form ha hm
    rw [hm] at hmap
    have hs := fun W hW => lpStrict_map g m c base qs W hW hg
    have HM := hide hmap; have HS := hide hs; have HA := hide ha
    clear hmap hm hs ha hlen
    generalize lmB (qs.map qp) = z at *
    go_enter Try.func23, Try.ntmps23
    go_wp2_with (first
      | (go_at_call 42; (with_reducible refine (unhide HM).mono ?_); rintro e w1 ⟨rfl, hbw1⟩; have hz1 := hbw1.size)
      | (go_at_call 43; (with_reducible refine ((unhide HS) _ (own_below (unhide HA) hbw1)).mono ?_); rintro e w2 ⟨rfl, hbw2⟩; have hz2 := hbw2.size))
    go_ret2
    exact ⟨rfl, (by repeat (first | with_reducible exact Below.refl _ _ | with_reducible assumption | (with_reducible refine Below.trans ?_ (Below.mono (by assumption) (by first | omega | (simp <;> omega)))) | with_reducible apply Below.drew | with_reducible apply below_drewN | (with_reducible refine Below.alloc ?_ (by first | omega | (simp <;> omega)) _) | (with_reducible refine Below.setCell ?_ (by first | omega | (simp <;> omega)) _)))⟩

set_option maxRecDepth 100000 in
set_option maxHeartbeats 1600000 in
theorem iIsUnimodal_any (A : Option Addr) (n c base : Nat) (ps : List Pt) (w : World) (ha : w.ownsRow base 49 4 (.slice A n c) n (ptcs ps)) (hn : n ≤ 1048576) :
    Calls Try.prog 26 #[.slice A n c] w fun e w' => e = .returned (.tuple #[.bool (umB ps), .bool (lmB ps)]) ∧ Below w.heap.size w w' := by
  have hst := iIsStrict_any A n c base ps w ha hn
  rcases hz : lmB ps with _ | _
  · rw [hz] at hst
    rw [um_no hz]
    have HS := hide hst; clear hst hz ha
    generalize mapB ps = y at *
    go_enter Try.func26, Try.ntmps26
    go_wp2_with (go_at_call 24; (with_reducible refine (unhide HS).mono ?_); rintro e w1 ⟨rfl, hbw1⟩)
    go_ret2
    exact ⟨rfl, hbw1⟩
  · rw [hz] at hst
    obtain ⟨qs0, hq0, hl⟩ := lmB_of hz
    have hm : mapB ps = true := by rw [hq0]; exact hl.toGMap.mapB
    obtain ⟨g, m, qs, rfl, rfl, rfl, hg, hlen⟩ := own_form ha hm
    obtain rfl : qs = qs0 := by have := congrArg dec hq0; rwa [dec_qp, dec_qp] at this
    have hla := fun W hW => iLaps_map g m c base qs W hW hg hm hn
    have hc := um_cases hl hlen
    have HS := hide hst; have HL := hide hla; have HA := hide ha
    clear hst hla ha hz hm hq0 hlen
    generalize mapB (qs.map qp) = y at *
    rcases hc with ⟨hne, hu⟩ | ⟨r, s, hrs, -, hu⟩
    · rw [hu]
      have HNE := hide hne
      clear hne hu
      go_enter Try.func26, Try.ntmps26
      go_wp2_with (go_at_call 24; (with_reducible refine (unhide HS).mono ?_); rintro e w1 ⟨rfl, hbw1⟩)
      have hz1 := hbw1.size
      refine ((unhide HL) _ (own_below (unhide HA) hbw1)).mono ?_
      rintro e w2 ⟨v, bs, rfl, hnest, hbw2⟩
      obtain ⟨B, d, rfl⟩ := hnest.slice
      have hz2 := hbw2.size
      clear hnest
      have hne2 : (((lapRows (dirR qs) m).length : Int) == 2) = false := by have := unhide HNE; simpa using (by omega : ¬ ((lapRows (dirR qs) m).length : Int) = 2)
      have hne3 : decide (((lapRows (dirR qs) m).length : Int) = 2) = false := decide_eq_false (by have := unhide HNE; omega)
      have hne4 := unhide HNE
      generalize (lapRows (dirR qs) m).length = L at *
      go_wp2_with fail
      go_ret2
      exact ⟨rfl, (by repeat (first | with_reducible exact Below.refl _ _ | with_reducible assumption | (with_reducible refine Below.trans ?_ (Below.mono (by assumption) (by first | omega | (simp <;> omega)))) | with_reducible apply Below.drew | with_reducible apply below_drewN | (with_reducible refine Below.alloc ?_ (by first | omega | (simp <;> omega)) _) | (with_reducible refine Below.setCell ?_ (by first | omega | (simp <;> omega)) _)))⟩
    · have HRS := Lib.hid hrs
      clear hrs
      rcases hu with ⟨hd, hu⟩ | ⟨hd, hu⟩
      all_goals
        rw [hu]
        have HD := Lib.hid hd
        clear hd hu
        go_enter Try.func26, Try.ntmps26
        go_wp2_with (go_at_call 24; (with_reducible refine (unhide HS).mono ?_); rintro e w1 ⟨rfl, hbw1⟩)
        have hz1 := hbw1.size
        refine ((unhide HL) _ (own_below (unhide HA) hbw1)).mono ?_
        rintro e w2 ⟨v, bs, rfl, hnest, hbw2⟩
        obtain ⟨B, d, rfl⟩ := hnest.slice
        have hz2 := hbw2.size
        rw [HRS.out] at hnest ⊢
        obtain ⟨go, b, rfl, -, -, -, hgl2, hbl, hBb, hgb, hoc, hcells⟩ := hnest.at (i := 0) (r := lapRow r) rfl
        have hc2 := (hcells 2 r.2.2 rfl).1
        rw [show (lapRow r).length = 3 from rfl] at hoc
        rw [HD.out] at hc2
        clear hnest hcells
        go_wp2_with fail
        go_ret2
        exact ⟨rfl, (by repeat (first | with_reducible exact Below.refl _ _ | with_reducible assumption | (with_reducible refine Below.trans ?_ (Below.mono (by assumption) (by first | omega | (simp <;> omega)))) | with_reducible apply Below.drew | with_reducible apply below_drewN | (with_reducible refine Below.alloc ?_ (by first | omega | (simp <;> omega)) _) | (with_reducible refine Below.setCell ?_ (by first | omega | (simp <;> omega)) _)))⟩

set_option maxRecDepth 100000 in
set_option maxHeartbeats 1600000 in
theorem sIsUnimodal_any (A : Option Addr) (n c base : Nat) (ps : List Pt) (w : World) (ha : w.ownsRow base 49 4 (.slice A n c) n (ptcs ps)) (hn : n ≤ 1048576) :
    Calls Try.prog 25 #[.slice A n c] w fun e w' => e = .returned (.tuple #[.bool (umB ps), .bool (lmB ps)]) ∧ Below w.heap.size w w' := by
  have hmap := imGood_any A n c base ps w ha hn
  rcases hm : mapB ps with _ | _
  · rw [hm] at hmap
    rw [um_no (lmB_no hm)]
    try rw [lmB_no hm]
    have HM := hide hmap; clear hmap hm ha
    go_enter Try.func25, Try.ntmps25
    go_wp2_with (go_at_call 42; (with_reducible refine (unhide HM).mono ?_); rintro e w1 ⟨rfl, hbw1⟩)
    first | go_ret2 | go_ret
    exact ⟨rfl, (by repeat (first | with_reducible exact Below.refl _ _ | with_reducible assumption | (with_reducible refine Below.trans ?_ (Below.mono (by assumption) (by first | omega | (simp <;> omega)))) | with_reducible apply Below.drew | with_reducible apply below_drewN | (with_reducible refine Below.alloc ?_ (by first | omega | (simp <;> omega)) _) | (with_reducible refine Below.setCell ?_ (by first | omega | (simp <;> omega)) _)))⟩
  · obtain ⟨g, m, qs, rfl, rfl, rfl, hg, hlen⟩ := own_form ha hm
    rw [hm] at hmap
    have hs := fun W hW => lpStrict_map g m c base qs W hW hg
    have hla := fun W hW => imLaps_map g m c base qs W hW hg
    have HM := hide hmap; have HL := hide hla; have HA := hide ha
    clear hmap hm hla ha
    cases hz : lmB (qs.map qp) with
    | false =>
      rw [um_no hz]
      rw [hz] at hs
      have HS := hide hs; clear hs hz
      go_enter Try.func25, Try.ntmps25
      go_wp2_with (first
        | (go_at_call 42; (with_reducible refine (unhide HM).mono ?_); rintro e w1 ⟨rfl, hbw1⟩; have hz1 := hbw1.size)
        | (go_at_call 43; (with_reducible refine ((unhide HS) _ (own_below (unhide HA) hbw1)).mono ?_); rintro e w2 ⟨rfl, hbw2⟩; have hz2 := hbw2.size))
      first | go_ret2 | go_ret
      exact ⟨rfl, (by repeat (first | with_reducible exact Below.refl _ _ | with_reducible assumption | (with_reducible refine Below.trans ?_ (Below.mono (by assumption) (by first | omega | (simp <;> omega)))) | with_reducible apply Below.drew | with_reducible apply below_drewN | (with_reducible refine Below.alloc ?_ (by first | omega | (simp <;> omega)) _) | (with_reducible refine Below.setCell ?_ (by first | omega | (simp <;> omega)) _)))⟩
    | true =>
      have hl := (lmB_yes hg).1 hz
      have hc := um_cases hl hlen
      rw [hz] at hs
      have HS := hide hs; clear hs hz hl
      rcases hc with ⟨hne, hu⟩ | ⟨r, s, hrs, -, hu⟩
      · rw [hu]
        have HNE := hide hne
        clear hne hu
        go_enter Try.func25, Try.ntmps25
        go_wp2_with (first
          | (go_at_call 42; (with_reducible refine (unhide HM).mono ?_); rintro e w1 ⟨rfl, hbw1⟩; have hz1 := hbw1.size)
          | (go_at_call 43; (with_reducible refine ((unhide HS) _ (own_below (unhide HA) hbw1)).mono ?_); rintro e w2 ⟨rfl, hbw2⟩; have hz2 := hbw2.size))
        have hb2 := hbw1.trans (hbw2.mono hz1)
        refine ((unhide HL) _ (own_below (unhide HA) hb2)).mono ?_
        rintro e w3 ⟨v, bs, rfl, hnest, hbw3⟩
        obtain ⟨B, d, rfl⟩ := hnest.slice
        have hz3 := hbw3.size
        clear hnest
        have hne2 : (((lapRows (dirR qs) m).length : Int) == 2) = false := by have := unhide HNE; simpa using (by omega : ¬ ((lapRows (dirR qs) m).length : Int) = 2)
        have hne3 : decide (((lapRows (dirR qs) m).length : Int) = 2) = false := decide_eq_false (by have := unhide HNE; omega)
        have hne4 := unhide HNE
        generalize (lapRows (dirR qs) m).length = L at *
        go_wp2_with fail
        first | go_ret2 | go_ret
        exact ⟨rfl, (by repeat (first | with_reducible exact Below.refl _ _ | with_reducible assumption | (with_reducible refine Below.trans ?_ (Below.mono (by assumption) (by first | omega | (simp <;> omega)))) | with_reducible apply Below.drew | with_reducible apply below_drewN | (with_reducible refine Below.alloc ?_ (by first | omega | (simp <;> omega)) _) | (with_reducible refine Below.setCell ?_ (by first | omega | (simp <;> omega)) _)))⟩
      · have HRS := Lib.hid hrs
        clear hrs
        rcases hu with ⟨hd, hu⟩ | ⟨hd, hu⟩
        all_goals
          rw [hu]
          have HD := Lib.hid hd
          clear hd hu
          go_enter Try.func25, Try.ntmps25
          go_wp2_with (first
            | (go_at_call 42; (with_reducible refine (unhide HM).mono ?_); rintro e w1 ⟨rfl, hbw1⟩; have hz1 := hbw1.size)
            | (go_at_call 43; (with_reducible refine ((unhide HS) _ (own_below (unhide HA) hbw1)).mono ?_); rintro e w2 ⟨rfl, hbw2⟩; have hz2 := hbw2.size))
          have hb2 := hbw1.trans (hbw2.mono hz1)
          refine ((unhide HL) _ (own_below (unhide HA) hb2)).mono ?_
          rintro e w3 ⟨v, bs, rfl, hnest, hbw3⟩
          obtain ⟨B, d, rfl⟩ := hnest.slice
          have hz3 := hbw3.size
          rw [HRS.out] at hnest ⊢
          obtain ⟨go, b, rfl, -, -, -, hgl2, hbl, hBb, hgb, hoc, hcells⟩ := hnest.at (i := 0) (r := lapRow r) rfl
          have hc2 := (hcells 2 r.2.2 rfl).1
          rw [show (lapRow r).length = 3 from rfl] at hoc
          rw [HD.out] at hc2
          clear hnest hcells
          go_wp2_with fail
          first | go_ret2 | go_ret
          exact ⟨rfl, (by repeat (first | with_reducible exact Below.refl _ _ | with_reducible assumption | (with_reducible refine Below.trans ?_ (Below.mono (by assumption) (by first | omega | (simp <;> omega)))) | with_reducible apply Below.drew | with_reducible apply below_drewN | (with_reducible refine Below.alloc ?_ (by first | omega | (simp <;> omega)) _) | (with_reducible refine Below.setCell ?_ (by first | omega | (simp <;> omega)) _)))⟩
set_option maxRecDepth 100000 in
set_option maxHeartbeats 1600000 in
theorem sknLaps_any (A : Option Addr) (n c base : Nat) (ps : List Pt) (w : World) (ha : w.ownsRow base 49 4 (.slice A n c) n (ptcs ps)) (hn : n ≤ 1048576) :
    Calls Try.prog 27 #[.slice A n c] w fun e w' => e = .returned (.bool (umB ps)) ∧ Below w.heap.size w w' := by
  have hmap := imGood_any A n c base ps w ha hn
  rcases hm : mapB ps with _ | _
  · rw [hm] at hmap
    rw [um_no (lmB_no hm)]
    try rw [lmB_no hm]
    have HM := hide hmap; clear hmap hm ha
    go_enter Try.func27, Try.ntmps27
    go_wp2_with (go_at_call 42; (with_reducible refine (unhide HM).mono ?_); rintro e w1 ⟨rfl, hbw1⟩)
    first | go_ret2 | go_ret
    exact ⟨rfl, (by repeat (first | with_reducible exact Below.refl _ _ | with_reducible assumption | (with_reducible refine Below.trans ?_ (Below.mono (by assumption) (by first | omega | (simp <;> omega)))) | with_reducible apply Below.drew | with_reducible apply below_drewN | (with_reducible refine Below.alloc ?_ (by first | omega | (simp <;> omega)) _) | (with_reducible refine Below.setCell ?_ (by first | omega | (simp <;> omega)) _)))⟩
  · obtain ⟨g, m, qs, rfl, rfl, rfl, hg, hlen⟩ := own_form ha hm
    rw [hm] at hmap
    have hs := fun W hW => lpStrict_map g m c base qs W hW hg
    have hla := fun W hW => imLaps_map g m c base qs W hW hg
    have HM := hide hmap; have HL := hide hla; have HA := hide ha
    clear hmap hm hla ha
    cases hz : lmB (qs.map qp) with
    | false =>
      rw [um_no hz]
      rw [hz] at hs
      have HS := hide hs; clear hs hz
      go_enter Try.func27, Try.ntmps27
      go_wp2_with (first
        | (go_at_call 42; (with_reducible refine (unhide HM).mono ?_); rintro e w1 ⟨rfl, hbw1⟩; have hz1 := hbw1.size)
        | (go_at_call 43; (with_reducible refine ((unhide HS) _ (own_below (unhide HA) hbw1)).mono ?_); rintro e w2 ⟨rfl, hbw2⟩; have hz2 := hbw2.size))
      first | go_ret2 | go_ret
      exact ⟨rfl, (by repeat (first | with_reducible exact Below.refl _ _ | with_reducible assumption | (with_reducible refine Below.trans ?_ (Below.mono (by assumption) (by first | omega | (simp <;> omega)))) | with_reducible apply Below.drew | with_reducible apply below_drewN | (with_reducible refine Below.alloc ?_ (by first | omega | (simp <;> omega)) _) | (with_reducible refine Below.setCell ?_ (by first | omega | (simp <;> omega)) _)))⟩
    | true =>
      have hl := (lmB_yes hg).1 hz
      have hc := um_cases hl hlen
      rw [hz] at hs
      have HS := hide hs; clear hs hz hl
      rcases hc with ⟨hne, hu⟩ | ⟨r, s, hrs, -, hu⟩
      · rw [hu]
        have HNE := hide hne
        clear hne hu
        go_enter Try.func27, Try.ntmps27
        go_wp2_with (first
          | (go_at_call 42; (with_reducible refine (unhide HM).mono ?_); rintro e w1 ⟨rfl, hbw1⟩; have hz1 := hbw1.size)
          | (go_at_call 43; (with_reducible refine ((unhide HS) _ (own_below (unhide HA) hbw1)).mono ?_); rintro e w2 ⟨rfl, hbw2⟩; have hz2 := hbw2.size))
        have hb2 := hbw1.trans (hbw2.mono hz1)
        refine ((unhide HL) _ (own_below (unhide HA) hb2)).mono ?_
        rintro e w3 ⟨v, bs, rfl, hnest, hbw3⟩
        obtain ⟨B, d, rfl⟩ := hnest.slice
        have hz3 := hbw3.size
        clear hnest
        have hne2 : (((lapRows (dirR qs) m).length : Int) == 2) = false := by have := unhide HNE; simpa using (by omega : ¬ ((lapRows (dirR qs) m).length : Int) = 2)
        have hne3 : decide (((lapRows (dirR qs) m).length : Int) = 2) = false := decide_eq_false (by have := unhide HNE; omega)
        have hne4 := unhide HNE
        generalize (lapRows (dirR qs) m).length = L at *
        go_wp2_with fail
        first | go_ret2 | go_ret
        exact ⟨rfl, (by repeat (first | with_reducible exact Below.refl _ _ | with_reducible assumption | (with_reducible refine Below.trans ?_ (Below.mono (by assumption) (by first | omega | (simp <;> omega)))) | with_reducible apply Below.drew | with_reducible apply below_drewN | (with_reducible refine Below.alloc ?_ (by first | omega | (simp <;> omega)) _) | (with_reducible refine Below.setCell ?_ (by first | omega | (simp <;> omega)) _)))⟩
      · have HRS := Lib.hid hrs
        clear hrs
        rcases hu with ⟨hd, hu⟩ | ⟨hd, hu⟩
        all_goals
          rw [hu]
          have HD := Lib.hid hd
          clear hd hu
          go_enter Try.func27, Try.ntmps27
          go_wp2_with (first
            | (go_at_call 42; (with_reducible refine (unhide HM).mono ?_); rintro e w1 ⟨rfl, hbw1⟩; have hz1 := hbw1.size)
            | (go_at_call 43; (with_reducible refine ((unhide HS) _ (own_below (unhide HA) hbw1)).mono ?_); rintro e w2 ⟨rfl, hbw2⟩; have hz2 := hbw2.size))
          have hb2 := hbw1.trans (hbw2.mono hz1)
          refine ((unhide HL) _ (own_below (unhide HA) hb2)).mono ?_
          rintro e w3 ⟨v, bs, rfl, hnest, hbw3⟩
          obtain ⟨B, d, rfl⟩ := hnest.slice
          have hz3 := hbw3.size
          rw [HRS.out] at hnest ⊢
          obtain ⟨go, b, rfl, -, -, -, hgl2, hbl, hBb, hgb, hoc, hcells⟩ := hnest.at (i := 0) (r := lapRow r) rfl
          have hc2 := (hcells 2 r.2.2 rfl).1
          rw [show (lapRow r).length = 3 from rfl] at hoc
          rw [HD.out] at hc2
          clear hnest hcells
          go_wp2_with fail
          first | go_ret2 | go_ret
          exact ⟨rfl, (by repeat (first | with_reducible exact Below.refl _ _ | with_reducible assumption | (with_reducible refine Below.trans ?_ (Below.mono (by assumption) (by first | omega | (simp <;> omega)))) | with_reducible apply Below.drew | with_reducible apply below_drewN | (with_reducible refine Below.alloc ?_ (by first | omega | (simp <;> omega)) _) | (with_reducible refine Below.setCell ?_ (by first | omega | (simp <;> omega)) _)))⟩
end Go.Proofs.Ytldmgjeecomddaa

/-
  Joined texts: Ta, Tb, Td, Te.
-/
import Derived.Test.YtldmgjeecomddaaGreatDoorWb
import Derived.Test.YtldmgjeecomddaaGreatDoorLpa
import Derived.Test.YtldmgjeecomddaaGreatDoorOl
import Derived.Test.YtldmgjeecomddaaGreatDoorBt
import Derived.Lib.SmallJoins
namespace Go.Proofs.YtldmgjeecomddaaGreatDoor
open Go.RowKit Rm

/-- The first lap's direction. -/
def d0 (ps : List Pt) : Int := ((lapF ps).headD []).getD 2 0
/-- A map is unimodal. -/
def umB (ps : List Pt) : Bool := lmB ps && (decide ((lapF ps).length = 2) && decide (d0 ps = 1))
theorem um_no {ps : List Pt} (h : lmB ps = false) : umB ps = false := by unfold umB; rw [h]; rfl
/-- What the laps of a map that is one of laps alone are. -/
theorem um_cases {qs : List QP} (hl : LMap qs) {m : Nat} (hlen : qs.length = m + 1) :
    ((lapRows (dirR qs) m).length ≠ 2 ∧ umB (qs.map qp) = false) ∨
    ∃ (r s : Lap), lapRows (dirR qs) m = [lapRow r, lapRow s] ∧ lapsQ qs = [r, s] ∧ ((r.2.2 = 1 ∧ umB (qs.map qp) = true) ∨ (r.2.2 = -1 ∧ umB (qs.map qp) = false)) := by
  have hF : lapF (qs.map qp) = lapRows (dirR qs) m := by rw [lapF_map hl.toGMap, hlen, Nat.add_sub_cancel]
  have hQ : lapRows (dirR qs) m = (lapsQ qs).map lapRow := by unfold lapsQ lapRows; rw [hlen, Nat.add_sub_cancel]
  have hu : umB (qs.map qp) = (decide ((lapRows (dirR qs) m).length = 2) && decide (d0 (qs.map qp) = 1)) := by unfold umB; rw [hl.lmB, hF]; rfl
  by_cases h2 : (lapRows (dirR qs) m).length = 2
  · right
    rw [hQ, List.length_map] at h2
    obtain ⟨r, s, hrs⟩ : ∃ r s, lapsQ qs = [r, s] := by
      match hq : lapsQ qs, h2 with
      | [r, s], _ => exact ⟨r, s, rfl⟩
    refine ⟨r, s, by rw [hQ, hrs]; rfl, hrs, ?_⟩
    have hd : d0 (qs.map qp) = r.2.2 := by unfold d0; rw [hF, hQ, hrs]; rfl
    obtain ⟨hok, hnz⟩ := hl.lap (r := r) (by rw [hrs]; exact List.mem_cons_self)
    have hb : dirR qs r.1 = r.2.2 := hok.dir r.1 (Nat.le_refl _) hok.lt
    have hbd := cq_bd (qAt qs (r.1 + 1)).2 (qAt qs r.1).2
    have hb' : cq (qAt qs (r.1 + 1)).2 (qAt qs r.1).2 = r.2.2 := hb
    rw [hb'] at hbd
    rw [hu, hd, hQ, hrs]
    rcases (by omega : r.2.2 = 1 ∨ r.2.2 = -1) with h | h
    · exact .inl ⟨h, by rw [h]; rfl⟩
    · exact .inr ⟨h, by rw [h]; rfl⟩
  · exact .inl ⟨h2, by rw [hu, decide_eq_false h2]; rfl⟩

set_option maxRecDepth 100000 in
theorem iIsStrict_any (A : Option Addr) (n c base : Nat) (ps : List Pt) (w : World) (ha : w.ownsRow base 50 4 (.slice A n c) n (ptcs ps)) (hn : n ≤ 1048576) :
    Calls Tryz.prog 64 #[.slice A n c] w fun e w' => e = .returned (.tuple #[.bool (lmB ps), .bool (mapB ps)]) ∧ Below w.heap.size w w' := by
  have hm := fun W hW => isMap_any A n c base ps W hW hn
  have hl := fun W hW => iIsLapMap_any A n c base ps W hW hn
  have HM := hide hm; have HL := hide hl; have HA := hide ha
  clear hm hl ha
  generalize lmB ps = z at *
  generalize mapB ps = y at *
  go_enter Tryz.func64, Tryz.ntmps64
  go_wp2_with (first
    | (go_at_call 79; (with_reducible refine ((unhide HL) _ (unhide HA)).mono ?_); rintro e w1 ⟨rfl, hbw1⟩; have hz1 := hbw1.size)
    | (go_at_call 29; (with_reducible refine ((unhide HM) _ (own_below (unhide HA) hbw1)).mono ?_); rintro e w2 ⟨rfl, hbw2⟩; have hz2 := hbw2.size))
  go_ret2
  exact ⟨rfl, (by repeat (first | with_reducible exact Below.refl _ _ | with_reducible assumption | (with_reducible refine Below.trans ?_ (Below.mono (by assumption) (by first | omega | (simp <;> omega)))) | with_reducible apply Below.drew | with_reducible apply below_drewN | (with_reducible refine Below.alloc ?_ (by first | omega | (simp <;> omega)) _) | (with_reducible refine Below.setCell ?_ (by first | omega | (simp <;> omega)) _)))⟩

set_option maxRecDepth 100000 in
set_option maxHeartbeats 1600000 in
theorem iIsUnimodal_any (A : Option Addr) (n c base : Nat) (ps : List Pt) (w : World) (ha : w.ownsRow base 50 4 (.slice A n c) n (ptcs ps)) (hn : n ≤ 1048576) :
    Calls Tryz.prog 50 #[.slice A n c] w fun e w' => e = .returned (.tuple #[.bool (umB ps), .bool (lmB ps)]) ∧ Below w.heap.size w w' := by
  have hst := iIsStrict_any A n c base ps w ha hn
  rcases hz : lmB ps with _ | _
  · rw [hz] at hst
    rw [um_no hz]
    have HS := hide hst; clear hst hz ha
    generalize mapB ps = y at *
    go_enter Tryz.func50, Tryz.ntmps50
    go_wp2_with (go_at_call 64; (with_reducible refine (unhide HS).mono ?_); rintro e w1 ⟨rfl, hbw1⟩)
    go_ret2
    exact ⟨rfl, hbw1⟩
  · rw [hz] at hst
    obtain ⟨qs0, hq0, hl⟩ := lmB_of hz
    have hm : mapB ps = true := by rw [hq0]; exact hl.toGMap.mapB
    obtain ⟨g, m, qs, rfl, rfl, rfl, hg, hlen⟩ := own_form ha hm
    obtain rfl : qs = qs0 := by have := congrArg dec hq0; rwa [dec_qp, dec_qp] at this
    have hla := fun W hW => iLaps_map g m c base qs W hW hg hm hn
    have hc := um_cases hl hlen
    have HS := hide hst; have HL := hide hla; have HA := hide ha
    clear hst hla ha hz hm hq0 hlen
    generalize mapB (qs.map qp) = y at *
    rcases hc with ⟨hne, hu⟩ | ⟨r, s, hrs, -, hu⟩
    · rw [hu]
      have HNE := hide hne
      clear hne hu
      go_enter Tryz.func50, Tryz.ntmps50
      go_wp2_with (go_at_call 64; (with_reducible refine (unhide HS).mono ?_); rintro e w1 ⟨rfl, hbw1⟩)
      have hz1 := hbw1.size
      refine ((unhide HL) _ (own_below (unhide HA) hbw1)).mono ?_
      rintro e w2 ⟨v, bs, rfl, hnest, hbw2⟩
      obtain ⟨B, d, rfl⟩ := hnest.slice
      have hz2 := hbw2.size
      clear hnest
      have hne2 : (((lapRows (dirR qs) m).length : Int) == 2) = false := by have := unhide HNE; simpa using (by omega : ¬ ((lapRows (dirR qs) m).length : Int) = 2)
      have hne3 : decide (((lapRows (dirR qs) m).length : Int) = 2) = false := decide_eq_false (by have := unhide HNE; omega)
      have hne4 := unhide HNE
      generalize (lapRows (dirR qs) m).length = L at *
      go_wp2_with fail
      go_ret2
      exact ⟨rfl, (by repeat (first | with_reducible exact Below.refl _ _ | with_reducible assumption | (with_reducible refine Below.trans ?_ (Below.mono (by assumption) (by first | omega | (simp <;> omega)))) | with_reducible apply Below.drew | with_reducible apply below_drewN | (with_reducible refine Below.alloc ?_ (by first | omega | (simp <;> omega)) _) | (with_reducible refine Below.setCell ?_ (by first | omega | (simp <;> omega)) _)))⟩
    · have HRS := Lib.hid hrs
      clear hrs
      rcases hu with ⟨hd, hu⟩ | ⟨hd, hu⟩
      all_goals
        rw [hu]
        have HD := Lib.hid hd
        clear hd hu
        go_enter Tryz.func50, Tryz.ntmps50
        go_wp2_with (go_at_call 64; (with_reducible refine (unhide HS).mono ?_); rintro e w1 ⟨rfl, hbw1⟩)
        have hz1 := hbw1.size
        refine ((unhide HL) _ (own_below (unhide HA) hbw1)).mono ?_
        rintro e w2 ⟨v, bs, rfl, hnest, hbw2⟩
        obtain ⟨B, d, rfl⟩ := hnest.slice
        have hz2 := hbw2.size
        rw [HRS.out] at hnest ⊢
        obtain ⟨go, b, rfl, -, -, -, hgl2, hbl, hBb, hgb, hoc, hcells⟩ := hnest.at (i := 0) (r := lapRow r) rfl
        have hc2 := (hcells 2 r.2.2 rfl).1
        rw [show (lapRow r).length = 3 from rfl] at hoc
        rw [HD.out] at hc2
        clear hnest hcells
        go_wp2_with fail
        go_ret2
        exact ⟨rfl, (by repeat (first | with_reducible exact Below.refl _ _ | with_reducible assumption | (with_reducible refine Below.trans ?_ (Below.mono (by assumption) (by first | omega | (simp <;> omega)))) | with_reducible apply Below.drew | with_reducible apply below_drewN | (with_reducible refine Below.alloc ?_ (by first | omega | (simp <;> omega)) _) | (with_reducible refine Below.setCell ?_ (by first | omega | (simp <;> omega)) _)))⟩

end Go.Proofs.YtldmgjeecomddaaGreatDoor

namespace Go.Proofs.YtldmgjeecomddaaGreatDoor
open Go.RowKit Rm

/-- The centre. -/
def cenQ (qs : List QP) : Rat := (tpK qs (qs.length - 1) 1).getD 0 0
/-- The orbit of the centre. -/
def ocO (ps : List Pt) (m : Int) : Option (List Rat) := match umB ps && decide (1 ≤ m ∧ m ≤ 30) with | true => orbO ps (cenQ (dec ps)).num (cenQ (dec ps)).den m | false => none
theorem um_lm {ps : List Pt} (h : umB ps = true) : lmB ps = true := by unfold umB at h; cases hm : lmB ps <;> simp_all
theorem um_un {qs : List QP} (h : GMap qs) {i : Nat} (hi : i < qs.length) : Un (qAt qs i).1 := (GMap.un h hi).1
theorem um_centre {qs : List QP} (h : umB (qs.map qp) = true) : LMap qs ∧ (lapsK (dirR qs) (qs.length - 1)).length = 2 ∧ tpK qs (qs.length - 1) 1 = [cenQ qs] ∧ Un (cenQ qs) ∧ tpF (qs.map qp) = [qf (cenQ qs)] := by
  obtain ⟨qs0, hq0, hl⟩ := lmB_of (um_lm h)
  obtain rfl : qs = qs0 := by have := congrArg dec hq0; rwa [dec_qp, dec_qp] at this
  have hlo := hl.lo
  rcases um_cases hl (m := qs.length - 1) (by omega) with ⟨_, hu⟩ | ⟨r, s, _, hrs, hu⟩
  · rw [hu] at h; cases h
  · have hs : s ∈ lapsQ qs := by rw [hrs]; simp
    have hok := (hl.lap hs).1
    have h1 := hok.lt
    have h2 := hok.le
    unfold lapsQ at hrs
    have ht : tpK qs (qs.length - 1) 1 = [(qAt qs s.1).1] := by unfold tpK; rw [hrs]; rfl
    have hc : cenQ qs = (qAt qs s.1).1 := by unfold cenQ; rw [ht]; rfl
    refine ⟨hl, by rw [hrs]; rfl, by rw [ht, hc], by rw [hc]; exact um_un hl.toGMap (by omega), ?_⟩
    rw [tpF_map hl.toGMap, hrs, hc, ← List.map_singleton (f := qf), ← ht]
    rfl
theorem oc_no {ps : List Pt} {m : Int} (h : (umB ps && decide (1 ≤ m ∧ m ≤ 30)) = false) : ocO ps m = none := by unfold ocO; rw [h]
theorem oc_yes {qs : List QP} {m : Int} (h : umB (qs.map qp) = true) (hm : 1 ≤ m ∧ m ≤ 30) : ocO (qs.map qp) m = orbO (qs.map qp) (cenQ qs).num (cenQ qs).den m := by unfold ocO; rw [h, decide_eq_true hm, dec_qp]; rfl
theorem oc_cases (ps : List Pt) (m : Int) : ((umB ps && decide (1 ≤ m ∧ m ≤ 30)) = false ∧ ocO ps m = none) ∨
    ∃ (qs : List QP) (k : Nat), ps = qs.map qp ∧ umB (qs.map qp) = true ∧ m = k ∧ 1 ≤ k ∧ k ≤ 30 ∧ LMap qs ∧ Un (cenQ qs) ∧ tpF (qs.map qp) = [qf (cenQ qs)] ∧ tpK qs (qs.length - 1) 1 = [cenQ qs] ∧ (lapsK (dirR qs) (qs.length - 1)).length = 2 ∧
      ocO (qs.map qp) k = orbO (qs.map qp) (cenQ qs).num (cenQ qs).den k ∧
      ((1 ≤ (run qs k (cenQ qs)).length ∧ (run qs k (cenQ qs)).length ≤ k ∧ ocO (qs.map qp) k = none) ∨ ((run qs k (cenQ qs)).length = k + 1 ∧ Orb qs (cenQ qs) k (run qs k (cenQ qs)) ∧ ocO (qs.map qp) k = some (run qs k (cenQ qs)))) := by
  cases h : (umB ps && decide (1 ≤ m ∧ m ≤ 30)) with
  | false => exact .inl ⟨rfl, oc_no h⟩
  | true =>
    have hu : umB ps = true := by cases hu : umB ps <;> simp_all
    have hm : 1 ≤ m ∧ m ≤ 30 := by rw [hu] at h; exact of_decide_eq_true h
    obtain ⟨qs, rfl, _⟩ := lmB_of (um_lm hu)
    obtain ⟨hl, h2, ht, hx, hF⟩ := um_centre hu
    have hk : m = ((m.toNat : Nat) : Int) := by omega
    refine .inr ⟨qs, m.toNat, rfl, hu, hk, by omega, by omega, hl, hx, hF, ht, h2, oc_yes hu (by omega), ?_⟩
    rw [oc_yes hu (by omega)]
    rcases orb_cases (qs.map qp) (cenQ qs).num (cenQ qs).den (m.toNat : Int) with ⟨h1, _, _⟩ | ⟨qs', x, k, e1, hg, e2, e3, _, e4, hk', hr, _, hc⟩
    · rw [ask_map hl.toGMap hx (by omega)] at h1; cases h1
    · obtain rfl : qs = qs' := by have := congrArg dec e1; rwa [dec_qp, dec_qp] at this
      obtain rfl : cenQ qs = x := by
        have a1 := Rat.num_divInt_den (cenQ qs)
        have a2 := Rat.num_divInt_den x
        rw [← e2, ← e3, a1] at a2
        exact a2
      obtain rfl : m.toNat = k := by omega
      rcases hc with ⟨c1, c2, c3⟩ | ⟨c1, c2⟩
      · exact .inl ⟨c1, c2, c3⟩
      · exact .inr ⟨c1.len, c1, c2⟩

set_option maxRecDepth 100000 in
set_option maxHeartbeats 1600000 in
theorem lpTurns_map (g m c base : Nat) (qs : List QP) (w : World) (ha : w.ownsRow base 50 4 (.slice (some ⟨g, 0, none⟩) (m + 1) c) (m + 1) (ptcs (qs.map qp))) (hg : GMap qs) :
    Calls Tryz.prog 40 #[.slice (some ⟨g, 0, none⟩) (m + 1) c] w fun e w' => ∃ v : Value, e = .returned v ∧ w'.ownsRow w.heap.size 23 2 v ((lapsK (dirR qs) m).length - 1) (frcs ((tpK qs m ((lapsK (dirR qs) m).length - 1)).map qf)) ∧ Below w.heap.size w w' := by
  obtain ⟨i0, hi0, hz0, hz1, hz2⟩ := info_parts iRat
  have hlen : qs.length = m + 1 := by have := own_len ha; rw [List.length_map] at this; exact this
  have hlo := hg.lo
  have hhi := hg.hi
  rw [hlen] at hlo hhi
  have hgl : g < w.heap.size := (ha.lt g rfl).2
  have hcon := fun W hW => imLaps_map g m c base qs W hW hg
  have HC := hide hcon
  clear hcon
  have HA := hide ha; clear ha hlen
  obtain ⟨P, hP⟩ : ∃ P, (lapsK (dirR qs) m).length = P + 1 := by
    obtain ⟨m', rfl⟩ : ∃ m', m = m' + 1 := ⟨m - 1, by omega⟩
    exact ⟨(lapInit (dirR qs) m').length, by simp [lapsK]⟩
  have hPm := lapsK_len (dirR qs) m
  rw [hP] at hPm
  rw [hP, Nat.add_sub_cancel]
  go_enter Tryz.func40, Tryz.ntmps40
  go_wp2_with fail
  refine ((unhide HC) _ (unhide HA)).mono ?_
  rintro e w1 ⟨v, bs, rfl, hnest, hbw1⟩
  have hz1w := hbw1.size
  obtain ⟨A1, d1, rfl⟩ := hnest.slice
  have hrl : (lapRows (dirR qs) m).length = P + 1 := by rw [lapRows, List.length_map, hP]
  rw [hrl] at hnest ⊢
  have hcap := hnest.cap
  obtain ⟨go, _, rfl, -⟩ := hnest.at (i := 0) (r := (lapRows (dirR qs) m)[0]) (List.getElem?_eq_getElem (by omega))
  have HN := hide hnest
  have HP := Lib.hid hP
  clear hnest hP hrl
  have a1 : (1 : Int) ≤ (P : Int) + 1 := by omega
  rcases Nat.lt_or_ge d1 2 with hd1 | hd1
  · obtain rfl : P = 0 := by omega
    obtain rfl : d1 = 1 := by omega
    go_wp2_with fail
    go_loopw [3, 10] (fun v i wr => v = .slice none 0 0 ∧ i = .int .i64 0 ∧ wr = w1) (fun _ _ _ => 0)
    case atStart => exact ⟨rfl, rfl, rfl⟩
    case round =>
      obtain ⟨rfl, rfl, rfl⟩ := hrel
      go_wp2
      go_ret
      exact ⟨_, rfl, World.ownsRow_nil _ _ _ _, hbw1⟩
  obtain ⟨D, rfl⟩ : ∃ D, d1 = D + 1 + 1 := ⟨d1 - 2, by omega⟩
  have a2 : (P : Int) + 1 ≤ (D : Int) + 1 + 1 := by omega
  go_wp2_with fail
  go_loopw [3, 10] (fun v i wr => ∃ (k : Nat) (u : Value), i = .int .i64 (k : Int) ∧ u = v ∧ k ≤ P ∧ wr.ownsRow w1.heap.size 23 2 u k (frcs ((tpK qs m k).map qf)) ∧ Below w1.heap.size w1 wr) (fun _ i _ => P - (intOf i).toNat)
  case atStart => exact ⟨0, _, rfl, rfl, by omega, World.ownsRow_nil _ _ _ _, Below.refl _ _⟩
  case round =>
    obtain ⟨k, u, rfl, rfl, hk, hown, hbwr⟩ := hrel
    have hzwr := hbwr.size
    by_cases hlt : k < P
    · have hkl : k + 1 < (lapsK (dirR qs) m).length := by rw [HP.out]; omega
      obtain ⟨r, hr⟩ : ∃ r, (lapsK (dirR qs) m)[k + 1]? = some r := ⟨_, List.getElem?_eq_getElem hkl⟩
      have hrr : (lapRows (dirR qs) m)[k + 1]? = some (lapRow r) := by unfold lapRows; rw [List.getElem?_map, hr]; rfl
      obtain ⟨go', b, hgo', -, -, -, hgl2, hbl, hBb, hgb, hoc, hcells⟩ := ((unhide HN).below hbwr).at hrr
      obtain rfl : go = go' := (Addr.mk.inj (Option.some.inj hgo')).1
      have hc0 := (hcells 0 (r.1 : Int) rfl).1
      have hr1 : r.1 + 1 ≤ m := lapsK_lt m r (List.mem_iff_getElem?.2 ⟨_, hr⟩)
      rw [Nat.add_comm k 1] at hoc
      rw [show (lapRow r).length = 3 from rfl] at hoc
      have hsn : frcs ((tpK qs m (k + 1)).map qf) = frcs ((tpK qs m k).map qf) ++ [.int .i64 (qAt qs r.1).1.num, .int .i64 (qAt qs r.1).1.den] := by
        rw [tpK_succ hr, frcs2_snoc']
      obtain ⟨k0, k1, _, _⟩ := q_cells (own_below (unhide HA) (hbw1.trans (hbwr.mono hz1w))) (k := r.1) (by omega)
      have HSN := Lib.hid hsn
      clear hcells hsn hr hrr hgo' hkl
      generalize r.1 = q at *
      generalize (qAt qs q).1.num = xn at *
      generalize ((qAt qs q).1.den : Int) = xd at *
      have s2 : (0 : Int) ≤ (q : Int) := by omega
      have s3 : (q : Int) < (m : Int) + 1 := by omega
      have hvB : ∀ j, u.ownBlock = some j → w1.heap.size ≤ j := fun j e => (hown.lt j e).1
      have HO := hide hown
      have HV := hide hvB
      have HB := hide hbwr
      clear hown hvB hbwr
      go_wp2_with (at_builtin; refine wpList_append_lies _ rfl _ _ _ rfl w1.heap.size 23 i0 _ 2 16 Tryz.underlying43 hi0 hz0 hz1 hz2 rfl (by omega) u k _ rfl (World.ownsRow.alloc (unhide HO) _) ⟨wr.heap.size, 0, none⟩ 1 1 [.int .i64 xn, .int .i64 xd] rfl rfl (World.news_of_block (cs := #[.int .i64 xn, .int .i64 xd]) (t := 23) (fr := (0, 0)) (heap_alloc_new wr _)) (by simp [Value.oneCell']) (by omega) (by unfold maxLen; omega) (by omega) (by simp; omega) (wr.heap.size + 1) (by simp) ?_; intro gg cap w4 hown4 hgrow hat hlt4)
      have hb := unhide HB
      rw [← HSN.out] at hown4
      have hby : Below wr.heap.size wr (wr.alloc (.cells #[.int .i64 xn, .int .i64 xd] 23)) := (by repeat (first | with_reducible exact Below.refl _ _ | with_reducible assumption | (with_reducible refine Below.trans ?_ (Below.mono (by assumption) (by first | omega | (simp <;> omega)))) | with_reducible apply Below.drew | with_reducible apply below_drewN | (with_reducible refine Below.alloc ?_ (by first | omega | (simp <;> omega)) _) | (with_reducible refine Below.setCell ?_ (by first | omega | (simp <;> omega)) _)))
      have hbz : Below w1.heap.size w1 w4 := (hb.trans (hby.mono hb.size)).grown hgrow (by have := hby.size; omega) (unhide HV)
      have HO4 := hide hown4
      have HBZ := hide hbz
      clear hown4 hby hgrow hb hbz
      go_wp2_with fail
      go_roundw
      case rel => exact ⟨k + 1, _, by go_num, rfl, by omega, unhide HO4, unhide HBZ⟩
      case measure => (simp [intOf] <;> omega)
    · obtain rfl : k = P := by omega
      have HO := hide hown
      have HB := hide hbwr
      clear hown hbwr
      go_wp2
      go_ret
      exact ⟨_, rfl, (unhide HO).mono hz1w, hbw1.trans ((unhide HB).mono hz1w)⟩

set_option maxRecDepth 100000 in
set_option maxHeartbeats 800000 in
theorem knCentre_map (g m c base : Nat) (qs : List QP) (w : World) (ha : w.ownsRow base 50 4 (.slice (some ⟨g, 0, none⟩) (m + 1) c) (m + 1) (ptcs (qs.map qp))) (hu : umB (qs.map qp) = true) :
    Calls Tryz.prog 23 #[.slice (some ⟨g, 0, none⟩) (m + 1) c] w fun e w' => e = .returned (.agg #[.int .i64 ((cenQ qs).num), .int .i64 ((cenQ qs).den)]) ∧ Below w.heap.size w w' := by
  have hlen : qs.length = m + 1 := by have := own_len ha; rw [List.length_map] at this; exact this
  obtain ⟨hl, h2, ht, hx, _⟩ := um_centre hu
  rw [hlen, Nat.add_sub_cancel] at h2 ht
  have hcon := fun W hW => lpTurns_map g m c base qs W hW hl.toGMap
  rw [h2, ht] at hcon
  have HC := hide hcon; have HA := hide ha
  clear hcon ha hl hx h2 ht hu hlen
  generalize cenQ qs = x at *
  go_enter Tryz.func23, Tryz.ntmps23
  go_wp2_with (go_at_call 40; (with_reducible refine ((unhide HC) _ (own_below (unhide HA) ?pb)).mono ?_); (case pb => exact (by repeat (first | with_reducible exact Below.refl _ _ | with_reducible assumption | (with_reducible refine Below.trans ?_ (Below.mono (by assumption) (by first | omega | (simp <;> omega)))) | with_reducible apply Below.drew | with_reducible apply below_drewN | (with_reducible refine Below.alloc ?_ (by first | omega | (simp <;> omega)) _) | (with_reducible refine Below.setCell ?_ (by first | omega | (simp <;> omega)) _)))); rintro e w1 ⟨v, rfl, hown, hbw1⟩; have hs1 := hbw1.size; (skip; (try ((have kw1w0 := (bnew hbw1) (w.heap.size) ?pf); (case pf => (first | omega | (simp; done) | (simp; omega))); obtain ⟨kcw1w0, kfw1w0, klw1w0⟩ := kw1w0))); obtain ⟨A1, d1, rfl⟩ := own_slice hown; obtain ⟨g1, rfl, hg1, _, f0, f1⟩ := frs_cells hown (show 0 < 1 by omega) (show fAt ([x].map qf) 0 = (x.num, (x.den : Int)) from rfl); clear hown)
  exact bodyPost_ret (v := .agg #[.int .i64 (x.num), .int .i64 (x.den)]) (by simp [results, Tryz.results23, go_sem, *]) rfl ⟨rfl, (by repeat (first | with_reducible exact Below.refl _ _ | with_reducible assumption | (with_reducible refine Below.trans ?_ (Below.mono (by assumption) (by first | omega | (simp <;> omega)))) | with_reducible apply Below.drew | with_reducible apply below_drewN | (with_reducible refine Below.alloc ?_ (by first | omega | (simp <;> omega)) _) | (with_reducible refine Below.setCell ?_ (by first | omega | (simp <;> omega)) _)))⟩

set_option maxRecDepth 100000 in
set_option maxHeartbeats 1600000 in
theorem iOrbitOfCentre_any (A : Option Addr) (n c base : Nat) (ps : List Pt) (m : Int) (w : World) (ha : w.ownsRow base 50 4 (.slice A n c) n (ptcs ps)) (hn : n ≤ 1048576) :
    Calls Tryz.prog 30 #[.slice A n c, .int .i64 m] w fun e w' => GivesR w.heap.size (((ocO ps m).getD []).map qf) (ocO ps m).isSome e w' ∧ Below w.heap.size w w' := by
  have hu := fun W hW => iIsUnimodal_any A n c base ps W hW hn
  have ht := fun W hW => iTurningPoints_any A n c base ps W hW hn
  rcases oc_cases ps m with ⟨hno, ho⟩ | ⟨qs, k, rfl, hy, rfl, hk1, hk2, hl, hx, hF, _, _, ho, _⟩
  · rw [ho]
    have HU := hide hu; have HA := hide ha
    clear ho hu ht ha
    cases hz : umB ps with
    | false =>
      rw [hz] at HU
      clear hno hz
      generalize lmB ps = y at *
      go_enter Tryz.func30, Tryz.ntmps30
      go_wp2_with (go_at_call 50; (with_reducible refine ((unhide HU) _ (unhide HA)).mono ?_); rintro e w1 ⟨rfl, hbw1⟩)
      go_ret2
      exact ⟨⟨none, 0, rfl, World.ownsRow_nil _ _ _ _⟩, (by repeat (first | with_reducible exact Below.refl _ _ | with_reducible assumption | (with_reducible refine Below.trans ?_ (Below.mono (by assumption) (by first | omega | (simp <;> omega)))) | with_reducible apply Below.drew | with_reducible apply below_drewN | (with_reducible refine Below.alloc ?_ (by first | omega | (simp <;> omega)) _) | (with_reducible refine Below.setCell ?_ (by first | omega | (simp <;> omega)) _)))⟩
    | true =>
      rw [hz] at HU
      have hm : ¬ (1 ≤ m ∧ m ≤ 30) := by
        intro h; rw [hz, decide_eq_true h] at hno; cases hno
      clear hno hz
      generalize lmB ps = y at *
      by_cases h1 : m < 1
      · go_enter Tryz.func30, Tryz.ntmps30
        go_wp2_with (go_at_call 50; (with_reducible refine ((unhide HU) _ (unhide HA)).mono ?_); rintro e w1 ⟨rfl, hbw1⟩)
        go_ret2
        exact ⟨⟨none, 0, rfl, World.ownsRow_nil _ _ _ _⟩, (by repeat (first | with_reducible exact Below.refl _ _ | with_reducible assumption | (with_reducible refine Below.trans ?_ (Below.mono (by assumption) (by first | omega | (simp <;> omega)))) | with_reducible apply Below.drew | with_reducible apply below_drewN | (with_reducible refine Below.alloc ?_ (by first | omega | (simp <;> omega)) _) | (with_reducible refine Below.setCell ?_ (by first | omega | (simp <;> omega)) _)))⟩
      · have h2 : m > 30 := by omega
        go_enter Tryz.func30, Tryz.ntmps30
        go_wp2_with (go_at_call 50; (with_reducible refine ((unhide HU) _ (unhide HA)).mono ?_); rintro e w1 ⟨rfl, hbw1⟩)
        go_ret2
        exact ⟨⟨none, 0, rfl, World.ownsRow_nil _ _ _ _⟩, (by repeat (first | with_reducible exact Below.refl _ _ | with_reducible assumption | (with_reducible refine Below.trans ?_ (Below.mono (by assumption) (by first | omega | (simp <;> omega)))) | with_reducible apply Below.drew | with_reducible apply below_drewN | (with_reducible refine Below.alloc ?_ (by first | omega | (simp <;> omega)) _) | (with_reducible refine Below.setCell ?_ (by first | omega | (simp <;> omega)) _)))⟩
  · rw [ho]
    have hot := fun W hW => iOrbitOf_any A n c base (qs.map qp) (cenQ qs).num (cenQ qs).den k W hW hn
    rw [hF, hl.toGMap.mapB] at ht
    rw [hy] at hu
    have HU := hide hu; have HA := hide ha; have HT := hide ht; have HO := hide hot
    clear ho hu ht ha hot hF hy hx hl
    generalize cenQ qs = x at *
    generalize lmB (qs.map qp) = y at *
    generalize (((orbO (qs.map qp) x.num x.den k).getD []).map qf) = L at *
    generalize (orbO (qs.map qp) x.num x.den k).isSome = z at *
    have h1 : ¬ (k : Int) < 1 := by omega
    have h2 : ¬ (k : Int) > 30 := by omega
    go_enter Tryz.func30, Tryz.ntmps30
    go_wp2_with (first
      | (go_at_call 50; (with_reducible refine ((unhide HU) _ (unhide HA)).mono ?_); rintro e w1 ⟨rfl, hbw1⟩; have hs1 := hbw1.size)
      | (go_at_call 51; (with_reducible refine ((unhide HT) _ (own_below (unhide HA) hbw1)).mono ?_); rintro e w2 ⟨⟨A1, d1, rfl, hown⟩, hbw2⟩; have hs2 := hbw2.size; obtain ⟨g1, rfl, hg1, _, f0, f1⟩ := frs_cells hown (show 0 < 1 by omega) (show fAt ([qf x]) 0 = (x.num, (x.den : Int)) from rfl); clear hown)
      | (go_at_call 52; (with_reducible refine ((unhide HO) _ (own_below (unhide HA) ?pb)).mono ?_); (case pb => exact (by repeat (first | with_reducible exact Below.refl _ _ | with_reducible assumption | (with_reducible refine Below.trans ?_ (Below.mono (by assumption) (by first | omega | (simp <;> omega)))) | with_reducible apply Below.drew | with_reducible apply below_drewN | (with_reducible refine Below.alloc ?_ (by first | omega | (simp <;> omega)) _) | (with_reducible refine Below.setCell ?_ (by first | omega | (simp <;> omega)) _)))); rintro e w3 ⟨⟨A2, d2, rfl, hown⟩, hbw3⟩; have hs3 := hbw3.size; have HO3 := hide hown; clear hown))
    go_ret2
    exact ⟨⟨A2, d2, rfl, (unhide HO3).mono (by omega)⟩, (by repeat (first | with_reducible exact Below.refl _ _ | with_reducible assumption | (with_reducible refine Below.trans ?_ (Below.mono (by assumption) (by first | omega | (simp <;> omega)))) | with_reducible apply Below.drew | with_reducible apply below_drewN | (with_reducible refine Below.alloc ?_ (by first | omega | (simp <;> omega)) _) | (with_reducible refine Below.setCell ?_ (by first | omega | (simp <;> omega)) _)))⟩

/-- The fractions behind 1, .. steps. -/
def tvO (ps : List Pt) (m : Int) : Option (List Rat) := (ocO ps m).map fun l => cyL l (1, m.toNat)
theorem TurningValues_len (ps : List Pt) (m : Int) : (((tvO ps m).getD []).map qf).length ≤ 1048576 := by
  rcases oc_cases ps m with ⟨_, ho⟩ | ⟨qs, k, rfl, _, rfl, hk1, hk2, _, _, _, _, _, _, ⟨_, _, ho⟩ | ⟨hlen, _, ho⟩⟩
  · unfold tvO; rw [ho]; simp
  · unfold tvO; rw [ho]; simp
  · unfold tvO; rw [ho]
    simp only [Option.map_some, Option.getD_some, List.length_map, Int.toNat_natCast]
    rw [cyL_len (by omega)]
    omega

set_option maxRecDepth 100000 in
set_option maxHeartbeats 1600000 in
theorem knValues_map (g m c base : Nat) (qs : List QP) (k : Nat) (w : World) (ha : w.ownsRow base 50 4 (.slice (some ⟨g, 0, none⟩) (m + 1) c) (m + 1) (ptcs (qs.map qp))) (hu : umB (qs.map qp) = true) (hk1 : 1 ≤ k) (hk2 : k ≤ 30) :
    Calls Tryz.prog 21 #[.slice (some ⟨g, 0, none⟩) (m + 1) c, .int .i64 k] w fun e w' => ReadsR w.heap.size (((tvO (qs.map qp) k).getD []).map qf) (tvO (qs.map qp) k).isSome e w' ∧ Below w.heap.size w w' := by
  obtain ⟨hl, h2, ht, hx, _⟩ := um_centre hu
  have hcen := fun W hW => knCentre_map g m c base qs W hW hu
  have hrun := fun W hW => orRun_map g (m + 1) c base qs (cenQ qs) k W hW hl.toGMap hx (by omega)
  have hcs : (tvO (qs.map qp) k = none ∧ (run qs k (cenQ qs)).length < k + 1) ∨ (tvO (qs.map qp) k = some (cyL (run qs k (cenQ qs)) (1, k)) ∧ (run qs k (cenQ qs)).length = k + 1) := by
    rcases oc_cases (qs.map qp) k with ⟨h, _⟩ | ⟨qs', k', e1, _, e2, _, _, _, _, _, _, _, _, hh⟩
    · rw [hu, decide_eq_true (show 1 ≤ (k : Int) ∧ (k : Int) ≤ 30 by omega)] at h; cases h
    · obtain rfl : qs = qs' := by have := congrArg dec e1; rwa [dec_qp, dec_qp] at this
      obtain rfl : k = k' := by omega
      rcases hh with ⟨_, h, ho⟩ | ⟨h, _, ho⟩
      · exact .inl ⟨by unfold tvO; rw [ho]; rfl, by omega⟩
      · exact .inr ⟨by unfold tvO; rw [ho]; rfl, h⟩
  have HA := hide ha; have HCE := hide hcen; have HR := hide hrun
  clear ha hcen hrun hl h2 ht hx hu
  rcases hcs with ⟨ho, hw⟩ | ⟨ho, hw⟩
  · rw [ho]
    clear ho
    generalize cenQ qs = x at *
    generalize run qs k x = l at *
    generalize x.num = xn at *
    generalize (x.den : Int) = xd at *
    go_enter Tryz.func21, Tryz.ntmps21
    go_wp2_with (first
      | (go_at_call 23; (with_reducible refine ((unhide HCE) _ (unhide HA)).mono ?_); rintro e w1 ⟨rfl, hbw1⟩; have hs1 := hbw1.size)
      | (go_at_call 39; (with_reducible refine ((unhide HR) _ (own_below (unhide HA) hbw1)).mono ?_); rintro e w2 ⟨gs, d, rfl, hown, hbw2⟩; have hs2 := hbw2.size; clear hown))
    go_ret2
    exact ⟨⟨none, 0, rfl, rsl_none _ _⟩, (by repeat (first | with_reducible exact Below.refl _ _ | with_reducible assumption | (with_reducible refine Below.trans ?_ (Below.mono (by assumption) (by first | omega | (simp <;> omega)))) | with_reducible apply Below.drew | with_reducible apply below_drewN | (with_reducible refine Below.alloc ?_ (by first | omega | (simp <;> omega)) _) | (with_reducible refine Below.setCell ?_ (by first | omega | (simp <;> omega)) _)))⟩
  · rw [ho]
    clear ho
    simp only [Option.getD_some, Option.isSome_some]
    generalize cenQ qs = x at *
    generalize run qs k x = l at *
    have hcl : (cyL l (1, k)).length = k := cyL_len (by omega)
    rw [hw] at HR
    generalize x.num = xn at *
    generalize (x.den : Int) = xd at *
    have HW := Lib.hid hw; have HCL := Lib.hid hcl
    clear hw hcl
    have s1 : (1 : Int) ≤ (k : Int) + 1 := by omega
    have s2 : ¬ (k : Int) + 1 ≤ (k : Int) := by omega
    go_enter Tryz.func21, Tryz.ntmps21
    go_wp2_with (first
      | (go_at_call 23; (with_reducible refine ((unhide HCE) _ (unhide HA)).mono ?_); rintro e w1 ⟨rfl, hbw1⟩; have hs1 := hbw1.size)
      | (go_at_call 39; (with_reducible refine ((unhide HR) _ (own_below (unhide HA) hbw1)).mono ?_); rintro e w2 ⟨gs, d, rfl, hown, hbw2⟩; have hs2 := hbw2.size; have hcap := own_cap hown; have s7 : ((k + 1 : Nat) : Int) ≤ (d : Int) := (by omega); have s7' : (k : Int) + 1 ≤ (d : Int) := (by omega); have s8 : ¬ d = 1 := (by omega); have s9 : (1 : Int) ≤ (d : Int) := (by omega); have HOW := hide hown; clear hown))
    have ho := rsl_part (a := 1) (b := k) (unhide HOW) (show 1 + k ≤ k + 1 by omega)
    go_ret2
    exact ⟨⟨some ⟨gs, 1 * 2, none⟩, d - 1, by simp [HCL.out], by rw [List.length_map, HCL.out]; exact ho.mono (by omega)⟩, (by repeat (first | with_reducible exact Below.refl _ _ | with_reducible assumption | (with_reducible refine Below.trans ?_ (Below.mono (by assumption) (by first | omega | (simp <;> omega)))) | with_reducible apply Below.drew | with_reducible apply below_drewN | (with_reducible refine Below.alloc ?_ (by first | omega | (simp <;> omega)) _) | (with_reducible refine Below.setCell ?_ (by first | omega | (simp <;> omega)) _)))⟩

set_option maxRecDepth 100000 in
theorem knLength_any (m : Int) (w : World) : Calls Tryz.prog 17 #[.int .i64 m] w fun e w' => e = .returned (.bool (decide (1 ≤ m ∧ m ≤ 30))) ∧ w = w' := by
  by_cases h : 1 ≤ m ∧ m ≤ 30
  · rw [decide_eq_true h]
    go_enter Tryz.func17, Tryz.ntmps17
    go_wp2_with (go_at_call 37; refine (l1In_yes h _).mono ?_; rintro e w' ⟨rfl, rfl⟩)
    go_ret
    exact ⟨rfl, rfl⟩
  · rw [decide_eq_false h]
    go_enter Tryz.func17, Tryz.ntmps17
    go_wp2_with (go_at_call 37; refine (l1In_no h _).mono ?_; rintro e w' ⟨rfl, rfl⟩)
    go_ret
    exact ⟨rfl, rfl⟩

end Go.Proofs.YtldmgjeecomddaaGreatDoor

namespace Go.Proofs.YtldmgjeecomddaaGreatDoor
open Go.RowKit Rm

/-- The letter of a comparison with the centre. -/
def knLet (d : Int) : UInt8 := if d < 0 then 76 else if d = 0 then 67 else 82
/-- The first j letters of a kneading sequence. -/
def knK (l : List Rat) (c : Rat) : Nat → List UInt8
  | 0 => []
  | j + 1 => knK l c j ++ [knLet (cq (l.getD (j + 1) 0) c)]
theorem knK_len (l : List Rat) (c : Rat) : ∀ j, (knK l c j).length = j
  | 0 => rfl
  | j + 1 => by rw [knK, List.length_append, knK_len l c j]; rfl
def knT (ps : List Pt) (m : Int) : List UInt8 := match ocO ps m with | some l => knK l (cenQ (dec ps)) m.toNat | none => []
theorem run_hd (qs : List QP) (x : Rat) (n : Nat) : (run qs n x).getD 0 0 = x := by
  obtain ⟨l, hl⟩ := run_ne qs x n
  rw [hl]; rfl

set_option maxRecDepth 100000 in
set_option maxHeartbeats 1600000 in
theorem iKneadingOf_any (A : Option Addr) (n c base : Nat) (ps : List Pt) (m : Int) (w : World) (ha : w.ownsRow base 50 4 (.slice A n c) n (ptcs ps)) (hn : n ≤ 1048576) :
    Calls Tryz.prog 15 #[.slice A n c, .int .i64 m] w fun e w' => e = .returned (.tuple #[.string ⟨(knT ps m).toArray⟩, .bool (ocO ps m).isSome]) ∧ Below w.heap.size w w' := by
  have hc := fun W hW => iOrbitOfCentre_any A n c base ps m W hW hn
  have hno : ocO ps m = none → Calls Tryz.prog 15 #[.slice A n c, .int .i64 m] w fun e w' => e = .returned (.tuple #[.string ⟨(knT ps m).toArray⟩, .bool (ocO ps m).isSome]) ∧ Below w.heap.size w w' := by
    intro h
    rw [h] at hc
    have ht : knT ps m = [] := by unfold knT; rw [h]
    rw [ht, h]
    have HC := hide hc; have HA := hide ha
    clear hc ha h ht
    go_enter Tryz.func15, Tryz.ntmps15
    go_wp2_with (go_at_call 30; (with_reducible refine ((unhide HC) _ (unhide HA)).mono ?_); rintro e w1 ⟨⟨A1, d1, rfl, hown⟩, hbw1⟩)
    go_ret2
    exact ⟨rfl, (by repeat (first | with_reducible exact Below.refl _ _ | with_reducible assumption | (with_reducible refine Below.trans ?_ (Below.mono (by assumption) (by first | omega | (simp <;> omega)))) | with_reducible apply Below.drew | with_reducible apply below_drewN | (with_reducible refine Below.alloc ?_ (by first | omega | (simp <;> omega)) _) | (with_reducible refine Below.setCell ?_ (by first | omega | (simp <;> omega)) _)))⟩
  rcases oc_cases ps m with ⟨_, ho⟩ | ⟨qs, k, rfl, _, rfl, hk1, hk2, _, _, _, _, _, _, ⟨_, _, ho⟩ | ⟨hrl, hO, ho⟩⟩
  · exact hno ho
  · exact hno ho
  · clear hno
    rw [ho] at hc
    have ht : knT (qs.map qp) k = knK (run qs k (cenQ qs)) (cenQ qs) k := by unfold knT; rw [ho, dec_qp, Int.toNat_natCast]
    rw [ht, ho]
    simp only [Option.getD_some, Option.isSome_some] at hc ⊢
    have hun := hO.all
    have hhd := run_hd qs (cenQ qs) k
    obtain ⟨l, hL⟩ : ∃ l, l = run qs k (cenQ qs) := ⟨_, rfl⟩
    rw [← hL] at hrl hc hun hhd ⊢
    have hfx := hO.un.fit
    clear ho hL hO ht
    generalize cenQ qs = x at *
    have hor := fun (i : Nat) (hi : i < k) W => orderOf_q (l.getD (i + 1) 0) x (hun (i + 1) (by omega)).fit hfx W
    have hlm : (l.map qf).length = k + 1 := by rw [List.length_map, hrl]
    have HC := hide hc; have HA := hide ha; have HOR := hide hor; have HLM := Lib.hid hlm; have HHD := Lib.hid hhd
    clear hc ha hor hlm hun hfx hhd
    have s1 : (1 : Int) ≤ (k : Int) + 1 := by omega
    go_enter Tryz.func15, Tryz.ntmps15
    go_wp2_with (go_at_call 30; (with_reducible refine ((unhide HC) _ (unhide HA)).mono ?_); rintro e w1 ⟨⟨A1, d1, rfl, hown⟩, hbw1⟩; have hs1 := hbw1.size; rw [HLM.out] at hown ⊢; obtain ⟨gs, rfl⟩ := own_form0 hown (by omega); have hcap := own_cap hown; have s7 : ((k + 1 : Nat) : Int) ≤ (d1 : Int) := (by omega); have s7' : (k : Int) + 1 ≤ (d1 : Int) := (by omega); have s8 : ¬ d1 = 1 := (by omega); have s9 : (1 : Int) ≤ (d1 : Int) := (by omega); have hrc := rcells_own hown; have c0 := hrc.at0 0 (by omega); have c1 := hrc.at1 0 (by omega); rw [HHD.out] at c0 c1; have hgl := hrc.lt; have HRC := hide hrc; clear hrc hown)
    obtain ⟨wa, hwa⟩ : ∃ W, W = w1.alloc (.cells #[.int .i64 x.num, .int .i64 x.den] 23) := ⟨_, rfl⟩
    have hfb := Lib.fresh_isBuilder 57 5 wa
    have hba : Below w1.heap.size w1 wa := by rw [hwa]; exact (by repeat (first | with_reducible exact Below.refl _ _ | with_reducible assumption | (with_reducible refine Below.trans ?_ (Below.mono (by assumption) (by first | omega | (simp <;> omega)))) | with_reducible apply Below.drew | with_reducible apply below_drewN | (with_reducible refine Below.alloc ?_ (by first | omega | (simp <;> omega)) _) | (with_reducible refine Below.setCell ?_ (by first | omega | (simp <;> omega)) _)))
    have hza : wa.heap.size = w1.heap.size + 1 := by rw [hwa]; simp
    have b0 : wa.cell? ⟨w1.heap.size, 0, none⟩ = some (.int .i64 x.num) := by rw [hwa]; simp [go_sem]
    have b1 : wa.cell? ⟨w1.heap.size, 1, none⟩ = some (.int .i64 x.den) := by rw [hwa]; simp [go_sem]
    have HBA := hide hba; have HFB := hide hfb
    have HRC2 := hide ((unhide HRC).below hba)
    rw [← hwa, ← hza]
    have hxl : w1.heap.size < wa.heap.size := by omega
    have HZA := Lib.hid hza
    clear hwa hba hfb HRC hza
    generalize hX : w1.heap.size = X at *
    go_loopw [26] (fun i wr => ∃ j : Nat, i = .int .i64 j ∧ j ≤ k ∧ Hid (Lib.IsBuilder 57 5 wa.heap.size wa.heap.size (Lib.byteCells (knK l x j)) wr) ∧ Below wa.heap.size wa wr) (fun i _ => k - (intOf i).toNat)
    case atStart => exact ⟨0, rfl, Nat.zero_le _, HFB, (by repeat (first | with_reducible exact Below.refl _ _ | with_reducible assumption | (with_reducible refine Below.trans ?_ (Below.mono (by assumption) (by first | omega | (simp <;> omega)))) | with_reducible apply Below.drew | with_reducible apply below_drewN | (with_reducible refine Below.alloc ?_ (by first | omega | (simp <;> omega)) _) | (with_reducible refine Below.setCell ?_ (by first | omega | (simp <;> omega)) _)))⟩
    case round =>
      obtain ⟨j, rfl, hj, HI, hb⟩ := hrel
      have hzr := hb.size
      by_cases hlt : j < k
      · have hrcr := (unhide HRC2).below hb
        have f0 := hrcr.at0 (j + 1) (by omega)
        have f1 := hrcr.at1 (j + 1) (by omega)
        rw [show (j + 1) * 2 = 2 + j * 2 by omega] at f0 f1
        have t0 := (hb.cell (p := ⟨X, 0, none⟩) hxl).trans b0
        have t1 := (hb.cell (p := ⟨X, 1, none⟩) hxl).trans b1
        have hgw : gs < wr.heap.size := hrcr.lt
        have hxw : X < wr.heap.size := by omega
        have hord := (unhide HOR) j hlt
        have hbd := cq_bd (l.getD (j + 1) 0) x
        have hsn : knK l x (j + 1) = knK l x j ++ [knLet (cq (l.getD (j + 1) 0) x)] := rfl
        have hls := knK_len l x j
        have hap : Lib.byteCells (knK l x (j + 1)) = Lib.byteCells (knK l x j) ++ [.int .u8 ((knLet (cq (l.getD (j + 1) 0) x)).toNat : Int)] := by
          rw [hsn, Lib.byteCells_append]; rfl
        obtain ⟨T, hT⟩ : ∃ T, T = knK l x j := ⟨_, rfl⟩
        obtain ⟨T1, hT1⟩ : ∃ T1, T1 = knK l x (j + 1) := ⟨_, rfl⟩
        rw [← hT, ← hT1] at hap
        rw [← hT] at hls HI
        have HORD := hide hord; have HB := hide hb; have HAP := hide hap; have HLS := Lib.hid hls; have HT1 := Lib.hid hT1
        clear hrcr hord hsn hap hls hb hT hT1
        generalize cq (l.getD (j + 1) 0) x = dd at *
        generalize (l.getD (j + 1) 0).num = yn at *
        generalize ((l.getD (j + 1) 0).den : Int) = yd at *
        generalize x.num = xn at *
        generalize (x.den : Int) = xd at *
        have s20 : (j : Int) < (k : Int) := by omega
        have s21 : (0 : Int) ≤ (j : Int) := by omega
        rcases (by omega : dd = -1 ∨ dd = 0 ∨ dd = 1) with rfl | rfl | rfl
        all_goals
          go_wp2_with (first
            | (go_at_call 32; (with_reducible refine ((unhide HORD) _).mono ?_); rintro e w3 ⟨rfl, hbw3⟩; obtain ⟨hcw3, hfw3⟩ := bcell hbw3; have hzw3 := hbw3.size; (try simp at hzw3); (try ((have kw3wr0 := (bnew hbw3) (wr.heap.size) ?pf); (case pf => (first | omega | (simp; done) | (simp; omega))); obtain ⟨kcw3wr0, kfw3wr0, klw3wr0⟩ := kw3wr0)))
            | (go_at_call 31; refine (Tryz.Builder_WriteByte wa.heap.size wa.heap.size (Lib.byteCells (T)) _ _ (isb_on (unhide HI) ?pb) (by rw [Lib.byteCells_length, HLS.out]; omega) ?pc).mono ?_; (case pb => exact (by repeat (first | with_reducible exact Below.refl _ _ | with_reducible assumption | (with_reducible refine Below.trans ?_ (Below.mono (by assumption) (by first | omega | (simp <;> omega)))) | with_reducible apply Below.drew | with_reducible apply below_drewN | (with_reducible refine Below.alloc ?_ (by first | omega | (simp <;> omega)) _) | (with_reducible refine Below.setCell ?_ (by first | omega | (simp <;> omega)) _)))); (case pc => (first | omega | (simp <;> omega))); rintro e w5 ⟨rfl, hB5, hb5⟩))
          have hy : Below wr.heap.size wr w3 := (by repeat (first | with_reducible exact Below.refl _ _ | with_reducible assumption | (with_reducible refine Below.trans ?_ (Below.mono (by assumption) (by first | omega | (simp <;> omega)))) | with_reducible apply Below.drew | with_reducible apply below_drewN | (with_reducible refine Below.alloc ?_ (by first | omega | (simp <;> omega)) _) | (with_reducible refine Below.setCell ?_ (by first | omega | (simp <;> omega)) _)))
          have hbz := ((unhide HB).trans (hy.mono hzr)).trans hb5
          have hB6 : Lib.BuilderAt 57 5 wa.heap.size wa.heap.size (.pointer (some ⟨wa.heap.size, 0, none⟩)) (Lib.byteCells (T1)) w5 := by rw [unhide HAP]; exact hB5
          have HB6 := hide hB6; have HBZ := hide hbz
          clear hB5 hB6 hb5 hbz hy
          go_wp2_with fail
          go_roundw
          case rel => exact ⟨j + 1, by go_num, by omega, by rw [← HT1.out]; exact hide (.inr (unhide HB6)), unhide HBZ⟩
          case measure => (simp [intOf] <;> omega)
      · obtain rfl : j = k := by omega
        have HB := hide hb
        clear hb
        obtain ⟨T, hT⟩ : ∃ T, T = knK l x j := ⟨_, rfl⟩
        rw [← hT] at HI
        have HT := Lib.hid hT
        clear hT
        go_wp2_with (go_at_call 33; refine (Tryz.Builder_String_any wa.heap.size wa.heap.size T _ (unhide HI) (by omega)).mono ?_; rintro e w6 ⟨rfl, hb6⟩)
        go_ret2
        exact ⟨by rw [← HT.out]; rfl, hbw1.trans (((unhide HBA).trans (((unhide HB).trans hb6).mono (by have := HZA.out; omega))).mono hs1)⟩
end Go.Proofs.YtldmgjeecomddaaGreatDoor

namespace Go.Proofs.YtldmgjeecomddaaGreatDoor
open Go.RowKit Rm

abbrev lcr : ByteArray := ⟨#[76, 67, 82]⟩
theorem lcr_at : ∀ k : Nat, k < 3 → (lcr.extract k (k + 1)).data = #[knLet ((k : Int) - 1)] := by decide

set_option maxRecDepth 100000 in
set_option maxHeartbeats 1600000 in
theorem knWord_map (g m c base : Nat) (qs : List QP) (k : Nat) (w : World) (ha : w.ownsRow base 50 4 (.slice (some ⟨g, 0, none⟩) (m + 1) c) (m + 1) (ptcs (qs.map qp))) (hu : umB (qs.map qp) = true) (hk1 : 1 ≤ k) (hk2 : k ≤ 30) :
    Calls Tryz.prog 9 #[.slice (some ⟨g, 0, none⟩) (m + 1) c, .int .i64 k] w fun e w' => e = .returned (.tuple #[.string ⟨(knT (qs.map qp) k).toArray⟩, .bool (ocO (qs.map qp) k).isSome]) ∧ Below w.heap.size w w' := by
  have hv := fun W hW => knValues_map g m c base qs k W hW hu hk1 hk2
  have hcen := fun W hW => knCentre_map g m c base qs W hW hu
  rcases oc_cases (qs.map qp) k with ⟨h, _⟩ | ⟨qs', k', e1, _, e2, _, _, _, hx, _, _, _, _, hh⟩
  · rw [hu, decide_eq_true (show 1 ≤ (k : Int) ∧ (k : Int) ≤ 30 by omega)] at h; cases h
  · obtain rfl : qs = qs' := by have := congrArg dec e1; rwa [dec_qp, dec_qp] at this
    obtain rfl : k = k' := by omega
    clear e1 e2
    rcases hh with ⟨_, _, ho⟩ | ⟨hrl, hO, ho⟩
    · have ht : knT (qs.map qp) k = [] := by unfold knT; rw [ho]
      have htv : tvO (qs.map qp) k = none := by unfold tvO; rw [ho]; rfl
      rw [ht, ho]
      rw [htv] at hv
      have HV := hide hv; have HA := hide ha
      clear hv ha hcen ho ht htv hx hu
      go_enter Tryz.func9, Tryz.ntmps9
      go_wp2_with (go_at_call 21; (with_reducible refine ((unhide HV) _ (unhide HA)).mono ?_); rintro e w1 ⟨⟨A1, d1, rfl, hown⟩, hbw1⟩)
      go_ret2
      exact ⟨rfl, (by repeat (first | with_reducible exact Below.refl _ _ | with_reducible assumption | (with_reducible refine Below.trans ?_ (Below.mono (by assumption) (by first | omega | (simp <;> omega)))) | with_reducible apply Below.drew | with_reducible apply below_drewN | (with_reducible refine Below.alloc ?_ (by first | omega | (simp <;> omega)) _) | (with_reducible refine Below.setCell ?_ (by first | omega | (simp <;> omega)) _)))⟩
    · have ht : knT (qs.map qp) k = knK (run qs k (cenQ qs)) (cenQ qs) k := by unfold knT; rw [ho, dec_qp, Int.toNat_natCast]
      have htv : tvO (qs.map qp) k = some (cyL (run qs k (cenQ qs)) (1, k)) := by unfold tvO; rw [ho]; rfl
      rw [ht, ho]
      rw [htv] at hv
      simp only [Option.getD_some, Option.isSome_some] at hv ⊢
      have hun := hO.all
      obtain ⟨l, hL⟩ : ∃ l, l = run qs k (cenQ qs) := ⟨_, rfl⟩
      rw [← hL] at hrl hv hun ⊢
      have hfx := hO.un.fit
      clear ho hL hO ht htv hx hu
      generalize cenQ qs = x at *
      have hor := fun (i : Nat) (hi : i < k) W => raCmp_q (l.getD (i + 1) 0) x (hun (i + 1) (by omega)).fit hfx W
      have hcl : (cyL l (1, k)).length = k := cyL_len (by omega)
      have hcg : ∀ i, i < k → fAt ((cyL l (1, k)).map qf) i = ((l.getD (i + 1) 0).num, ((l.getD (i + 1) 0).den : Int)) := fun i hi => by
        rw [qAtR _ _ (by omega), cyL_get hi, Nat.add_comm 1 i]
      have hlm : ((cyL l (1, k)).map qf).length = k := by rw [List.length_map, hcl]
      generalize (cyL l (1, k)).map qf = L at *
      have HV := hide hv; have HA := hide ha; have HOR := hide hor; have HLM := Lib.hid hlm; have HCE := hide hcen; have HCG := hide hcg
      clear hv ha hor hlm hun hfx hcl hcg hcen hrl
      go_enter Tryz.func9, Tryz.ntmps9
      go_wp2_with (go_at_call 21; (with_reducible refine ((unhide HV) _ (unhide HA)).mono ?_); rintro e w1 ⟨⟨A1, d1, rfl, hrs⟩, hbw1⟩; have hs1 := hbw1.size; rw [HLM.out] at hrs ⊢; obtain ⟨_, ⟨h0, _⟩ | ⟨gs, o, rfl, hB, hgl, hcc⟩⟩ := hrs; (omega))
      have HCC := hide hcc; have HA1 := hide (own_below (unhide HA) hbw1); have HB1 := hide hbw1
      clear hcc hbw1
      go_loopw [8, 22] (fun s i wr => ∃ j : Nat, i = .int .i64 j ∧ s = .string ⟨(knK l x j).toArray⟩ ∧ j ≤ k ∧ Below w1.heap.size w1 wr) (fun _ i _ => k - (intOf i).toNat)
      case atStart => exact ⟨0, rfl, rfl, Nat.zero_le _, Below.refl _ _⟩
      case round =>
        obtain ⟨j, rfl, rfl, hj, hb⟩ := hrel
        have hzr := hb.size
        by_cases hlt : j < k
        · obtain ⟨f0, f1⟩ := (unhide HCC) j hlt
          rw [(unhide HCG) j hlt] at f0 f1
          have f0 := (hb.cell (p := ⟨gs, o + j * 2, none⟩) hgl).trans f0
          have f1 := (hb.cell (p := ⟨gs, o + j * 2 + 1, none⟩) hgl).trans f1
          have hgw : gs < wr.heap.size := Nat.lt_of_lt_of_le hgl hzr
          have hord := (unhide HOR) j hlt
          have hbd := cq_bd (l.getD (j + 1) 0) x
          have hsn : knK l x (j + 1) = knK l x j ++ [knLet (cq (l.getD (j + 1) 0) x)] := rfl
          have hls := knK_len l x j
          obtain ⟨kk, hkk, hk3⟩ : ∃ kk : Nat, cq (l.getD (j + 1) 0) x = (kk : Int) - 1 ∧ kk < 3 := ⟨(cq (l.getD (j + 1) 0) x + 1).toNat, by omega, by omega⟩
          rw [hkk] at hsn hord
          have hab := lcr_at kk hk3
          obtain ⟨T, hT⟩ : ∃ T, T = knK l x j := ⟨_, rfl⟩
          obtain ⟨T1, hT1⟩ : ∃ T1, T1 = knK l x (j + 1) := ⟨_, rfl⟩
          rw [← hT, ← hT1] at hsn
          rw [← hT] at hls ⊢
          have hadd : ∀ (W : World), (Op.stringOp .add ⟨T.toArray⟩ (lcr.extract kk (kk + 1))).run Tryz.prog W = .ok (.string ⟨T1.toArray⟩) W := fun W => by
            have e : lcr.extract kk (kk + 1) = ⟨[knLet ((kk : Int) - 1)].toArray⟩ := ByteArray.ext hab
            rw [e, hsn]
            exact run_string_add_lists W T [knLet ((kk : Int) - 1)] (by omega) (by simp)
          have hAr := own_below (unhide HA1) hb
          have HORD := hide hord; have HB := hide hb; have HT1 := Lib.hid hT1; have HAR := hide hAr
          clear hord hb hsn hls hT hT1 hAr hab hkk hbd
          generalize (l.getD (j + 1) 0).num = yn at *
          generalize ((l.getD (j + 1) 0).den : Int) = yd at *
          generalize x.num = xn at *
          generalize (x.den : Int) = xd at *
          have e0 : IntKind.i64.wrap (1 + ((kk : Int) - 1)) = (kk : Int) := by rw [show 1 + ((kk : Int) - 1) = (kk : Int) by omega]; exact IntWalk.i64_in _ (by omega)
          have e1 : IntKind.i64.wrap ((kk : Int) + 1) = (kk : Int) + 1 := IntWalk.i64_in _ (by omega)
          have e2 : ((kk : Int) + 1).toNat = kk + 1 := by omega
          have e3 : (kk : Int) ≤ (kk : Int) + 1 := by omega
          have e4 : (kk : Int) + 1 ≤ 3 := by omega
          have e5 : (0 : Int) ≤ (kk : Int) := by omega
          go_upto_region 8 with fail
          go_cut [11] (fun s11 wx => s11 = .int .i64 (kk : Int) ∧ Below wr.heap.size wr wx)
          case first =>
            go_region_held3 (fun w' => w'.cell? ⟨wr.heap.size, 0, none⟩ = some (.int .i64 yn) ∧ w'.cell? ⟨wr.heap.size, 1, none⟩ = some (.int .i64 yd)) (simp [go_sem, *])
              (first
                | (go_at_call 23; (with_reducible refine ((unhide HCE) _ (own_below (unhide HAR) ?pb)).mono ?_); (case pb => exact (by repeat (first | with_reducible exact Below.refl _ _ | with_reducible assumption | (with_reducible refine Below.trans ?_ (Below.mono (by assumption) (by first | omega | (simp <;> omega)))) | with_reducible apply Below.drew | with_reducible apply below_drewN | (with_reducible refine Below.alloc ?_ (by first | omega | (simp <;> omega)) _) | (with_reducible refine Below.setCell ?_ (by first | omega | (simp <;> omega)) _)))); rintro e w3 ⟨rfl, hbw3⟩; have hz3 := hbw3.size; (try simp at hz3); (skip; (try ((have kw3wr.heap.sizeX0 := (bnew hbw3) (wr.heap.size) ?pf); (case pf => (first | omega | (simp; done) | (simp; omega))); obtain ⟨kcw3wr.heap.sizeX0, kfw3wr.heap.sizeX0, klw3wr.heap.sizeX0⟩ := kw3wr.heap.sizeX0))))
                | (go_at_call 22; (with_reducible refine ((unhide HORD) _).mono ?_); rintro e w4 ⟨rfl, hbw4⟩; obtain ⟨hcw4, hfw4⟩ := bcell hbw4; have hzw4 := hbw4.size; (try simp at hzw4); (try ((have kw4wr.heap.sizeX0 := (bnew hbw4) (wr.heap.size) ?pf); (case pf => (first | omega | (simp; done) | (simp; omega))); obtain ⟨kcw4wr.heap.sizeX0, kfw4wr.heap.sizeX0, klw4wr.heap.sizeX0⟩ := kw4wr.heap.sizeX0))))
            all_goals
              go_wp2_with fail
              go_meet
              exact ⟨by first | rfl | (rw [e0]), (by repeat (first | with_reducible exact Below.refl _ _ | with_reducible assumption | (with_reducible refine Below.trans ?_ (Below.mono (by assumption) (by first | omega | (simp <;> omega)))) | with_reducible apply Below.drew | with_reducible apply below_drewN | (with_reducible refine Below.alloc ?_ (by first | omega | (simp <;> omega)) _) | (with_reducible refine Below.setCell ?_ (by first | omega | (simp <;> omega)) _)))⟩
          case rest =>
            obtain ⟨rfl, hbx⟩ := hcut
            have HBX := hide ((unhide HB).trans (hbx.mono hzr))
            clear hbx
            go_wp2_with fail
            go_roundw
            case rel => exact ⟨j + 1, by go_num, by rw [← HT1.out], by omega, unhide HBX⟩
            case measure => (simp [intOf] <;> omega)
        · obtain rfl : j = k := by omega
          have HB := hide hb
          clear hb
          go_wp2_with fail
          go_ret2
          exact ⟨rfl, (unhide HB1).trans ((unhide HB).mono hs1)⟩

end Go.Proofs.YtldmgjeecomddaaGreatDoor

/-
  Chapter 7: the centre, the orbit of the centre, TurningValues: of both.
-/
import Derived.Test.YtldmgjeecomddaaTa
import Derived.Test.YtldmgjeecomddaaOl
namespace Go.Proofs.Ytldmgjeecomddaa
open Go.RowKit Rm

/-- The centre. -/
def cenQ (qs : List QP) : Rat := (tpK qs (qs.length - 1) 1).getD 0 0
/-- The orbit of the centre. -/
def ocO (ps : List Pt) (m : Int) : Option (List Rat) := match umB ps && decide (1 ≤ m ∧ m ≤ 30) with | true => orbO ps (cenQ (dec ps)).num (cenQ (dec ps)).den m | false => none
theorem um_lm {ps : List Pt} (h : umB ps = true) : lmB ps = true := by unfold umB at h; cases hm : lmB ps <;> simp_all
theorem um_un {qs : List QP} (h : GMap qs) {i : Nat} (hi : i < qs.length) : Un (qAt qs i).1 := (GMap.un h hi).1
theorem um_centre {qs : List QP} (h : umB (qs.map qp) = true) : LMap qs ∧ (lapsK (dirR qs) (qs.length - 1)).length = 2 ∧ tpK qs (qs.length - 1) 1 = [cenQ qs] ∧ Un (cenQ qs) ∧ tpF (qs.map qp) = [qf (cenQ qs)] := by
  obtain ⟨qs0, hq0, hl⟩ := lmB_of (um_lm h)
  obtain rfl : qs = qs0 := by have := congrArg dec hq0; rwa [dec_qp, dec_qp] at this
  have hlo := hl.lo
  rcases um_cases hl (m := qs.length - 1) (by omega) with ⟨_, hu⟩ | ⟨r, s, _, hrs, hu⟩
  · rw [hu] at h; cases h
  · have hs : s ∈ lapsQ qs := by rw [hrs]; simp
    have hok := (hl.lap hs).1
    have h1 := hok.lt
    have h2 := hok.le
    unfold lapsQ at hrs
    have ht : tpK qs (qs.length - 1) 1 = [(qAt qs s.1).1] := by unfold tpK; rw [hrs]; rfl
    have hc : cenQ qs = (qAt qs s.1).1 := by unfold cenQ; rw [ht]; rfl
    refine ⟨hl, by rw [hrs]; rfl, by rw [ht, hc], by rw [hc]; exact um_un hl.toGMap (by omega), ?_⟩
    rw [tpF_map hl.toGMap, hrs, hc, ← List.map_singleton (f := qf), ← ht]
    rfl
theorem oc_no {ps : List Pt} {m : Int} (h : (umB ps && decide (1 ≤ m ∧ m ≤ 30)) = false) : ocO ps m = none := by unfold ocO; rw [h]
theorem oc_yes {qs : List QP} {m : Int} (h : umB (qs.map qp) = true) (hm : 1 ≤ m ∧ m ≤ 30) : ocO (qs.map qp) m = orbO (qs.map qp) (cenQ qs).num (cenQ qs).den m := by unfold ocO; rw [h, decide_eq_true hm, dec_qp]; rfl
theorem oc_cases (ps : List Pt) (m : Int) : ((umB ps && decide (1 ≤ m ∧ m ≤ 30)) = false ∧ ocO ps m = none) ∨
    ∃ (qs : List QP) (k : Nat), ps = qs.map qp ∧ umB (qs.map qp) = true ∧ m = k ∧ 1 ≤ k ∧ k ≤ 30 ∧ LMap qs ∧ Un (cenQ qs) ∧ tpF (qs.map qp) = [qf (cenQ qs)] ∧ tpK qs (qs.length - 1) 1 = [cenQ qs] ∧ (lapsK (dirR qs) (qs.length - 1)).length = 2 ∧
      ocO (qs.map qp) k = orbO (qs.map qp) (cenQ qs).num (cenQ qs).den k ∧
      ((1 ≤ (run qs k (cenQ qs)).length ∧ (run qs k (cenQ qs)).length ≤ k ∧ ocO (qs.map qp) k = none) ∨ ((run qs k (cenQ qs)).length = k + 1 ∧ Orb qs (cenQ qs) k (run qs k (cenQ qs)) ∧ ocO (qs.map qp) k = some (run qs k (cenQ qs)))) := by
  cases h : (umB ps && decide (1 ≤ m ∧ m ≤ 30)) with
  | false => exact .inl ⟨rfl, oc_no h⟩
  | true =>
    have hu : umB ps = true := by cases hu : umB ps <;> simp_all
    have hm : 1 ≤ m ∧ m ≤ 30 := by rw [hu] at h; exact of_decide_eq_true h
    obtain ⟨qs, rfl, _⟩ := lmB_of (um_lm hu)
    obtain ⟨hl, h2, ht, hx, hF⟩ := um_centre hu
    have hk : m = ((m.toNat : Nat) : Int) := by omega
    refine .inr ⟨qs, m.toNat, rfl, hu, hk, by omega, by omega, hl, hx, hF, ht, h2, oc_yes hu (by omega), ?_⟩
    rw [oc_yes hu (by omega)]
    rcases orb_cases (qs.map qp) (cenQ qs).num (cenQ qs).den (m.toNat : Int) with ⟨h1, _, _⟩ | ⟨qs', x, k, e1, hg, e2, e3, _, e4, hk', hr, _, hc⟩
    · rw [ask_map hl.toGMap hx (by omega)] at h1; cases h1
    · obtain rfl : qs = qs' := by have := congrArg dec e1; rwa [dec_qp, dec_qp] at this
      obtain rfl : cenQ qs = x := by
        have a1 := Rat.num_divInt_den (cenQ qs)
        have a2 := Rat.num_divInt_den x
        rw [← e2, ← e3, a1] at a2
        exact a2
      obtain rfl : m.toNat = k := by omega
      rcases hc with ⟨c1, c2, c3⟩ | ⟨c1, c2⟩
      · exact .inl ⟨c1, c2, c3⟩
      · exact .inr ⟨c1.len, c1, c2⟩

set_option maxRecDepth 100000 in
set_option maxHeartbeats 1600000 in
theorem lpTurns_map (g m c base : Nat) (qs : List QP) (w : World) (ha : w.ownsRow base 49 4 (.slice (some ⟨g, 0, none⟩) (m + 1) c) (m + 1) (ptcs (qs.map qp))) (hg : GMap qs) :
    Calls Try.prog 61 #[.slice (some ⟨g, 0, none⟩) (m + 1) c] w fun e w' => ∃ v : Value, e = .returned v ∧ w'.ownsRow w.heap.size 34 2 v ((lapsK (dirR qs) m).length - 1) (frcs ((tpK qs m ((lapsK (dirR qs) m).length - 1)).map qf)) ∧ Below w.heap.size w w' := by
  obtain ⟨i0, hi0, hz0, hz1, hz2⟩ := info_parts iRat
  have hlen : qs.length = m + 1 := by have := own_len ha; rw [List.length_map] at this; exact this
  have hlo := hg.lo
  have hhi := hg.hi
  rw [hlen] at hlo hhi
  have hgl : g < w.heap.size := (ha.lt g rfl).2
  have hcon := fun W hW => imLaps_map g m c base qs W hW hg
  have HC := hide hcon
  clear hcon
  have HA := hide ha; clear ha hlen
  obtain ⟨P, hP⟩ : ∃ P, (lapsK (dirR qs) m).length = P + 1 := by
    obtain ⟨m', rfl⟩ : ∃ m', m = m' + 1 := ⟨m - 1, by omega⟩
    exact ⟨(lapInit (dirR qs) m').length, by simp [lapsK]⟩
  have hPm := lapsK_len (dirR qs) m
  rw [hP] at hPm
  rw [hP, Nat.add_sub_cancel]
  go_enter Try.func61, Try.ntmps61
  go_wp2_with fail
  refine ((unhide HC) _ (unhide HA)).mono ?_
  rintro e w1 ⟨v, bs, rfl, hnest, hbw1⟩
  have hz1w := hbw1.size
  obtain ⟨A1, d1, rfl⟩ := hnest.slice
  have hrl : (lapRows (dirR qs) m).length = P + 1 := by rw [lapRows, List.length_map, hP]
  rw [hrl] at hnest ⊢
  have hcap := hnest.cap
  obtain ⟨go, _, rfl, -⟩ := hnest.at (i := 0) (r := (lapRows (dirR qs) m)[0]) (List.getElem?_eq_getElem (by omega))
  have HN := hide hnest
  have HP := Lib.hid hP
  clear hnest hP hrl
  have a1 : (1 : Int) ≤ (P : Int) + 1 := by omega
  rcases Nat.lt_or_ge d1 2 with hd1 | hd1
  · obtain rfl : P = 0 := by omega
    obtain rfl : d1 = 1 := by omega
    go_wp2_with fail
    go_loopw [3, 10] (fun v i wr => v = .slice none 0 0 ∧ i = .int .i64 0 ∧ wr = w1) (fun _ _ _ => 0)
    case atStart => exact ⟨rfl, rfl, rfl⟩
    case round =>
      obtain ⟨rfl, rfl, rfl⟩ := hrel
      go_wp2
      go_ret
      exact ⟨_, rfl, World.ownsRow_nil _ _ _ _, hbw1⟩
  obtain ⟨D, rfl⟩ : ∃ D, d1 = D + 1 + 1 := ⟨d1 - 2, by omega⟩
  have a2 : (P : Int) + 1 ≤ (D : Int) + 1 + 1 := by omega
  go_wp2_with fail
  go_loopw [3, 10] (fun v i wr => ∃ (k : Nat) (u : Value), i = .int .i64 (k : Int) ∧ u = v ∧ k ≤ P ∧ wr.ownsRow w1.heap.size 34 2 u k (frcs ((tpK qs m k).map qf)) ∧ Below w1.heap.size w1 wr) (fun _ i _ => P - (intOf i).toNat)
  case atStart => exact ⟨0, _, rfl, rfl, by omega, World.ownsRow_nil _ _ _ _, Below.refl _ _⟩
  case round =>
    obtain ⟨k, u, rfl, rfl, hk, hown, hbwr⟩ := hrel
    have hzwr := hbwr.size
    by_cases hlt : k < P
    · have hkl : k + 1 < (lapsK (dirR qs) m).length := by rw [HP.out]; omega
      obtain ⟨r, hr⟩ : ∃ r, (lapsK (dirR qs) m)[k + 1]? = some r := ⟨_, List.getElem?_eq_getElem hkl⟩
      have hrr : (lapRows (dirR qs) m)[k + 1]? = some (lapRow r) := by unfold lapRows; rw [List.getElem?_map, hr]; rfl
      obtain ⟨go', b, hgo', -, -, -, hgl2, hbl, hBb, hgb, hoc, hcells⟩ := ((unhide HN).below hbwr).at hrr
      obtain rfl : go = go' := (Addr.mk.inj (Option.some.inj hgo')).1
      have hc0 := (hcells 0 (r.1 : Int) rfl).1
      have hr1 : r.1 + 1 ≤ m := lapsK_lt m r (List.mem_iff_getElem?.2 ⟨_, hr⟩)
      rw [Nat.add_comm k 1] at hoc
      rw [show (lapRow r).length = 3 from rfl] at hoc
      have hsn : frcs ((tpK qs m (k + 1)).map qf) = frcs ((tpK qs m k).map qf) ++ [.int .i64 (qAt qs r.1).1.num, .int .i64 (qAt qs r.1).1.den] := by
        rw [tpK_succ hr, frcs2_snoc']
      obtain ⟨k0, k1, _, _⟩ := q_cells (own_below (unhide HA) (hbw1.trans (hbwr.mono hz1w))) (k := r.1) (by omega)
      have HSN := Lib.hid hsn
      clear hcells hsn hr hrr hgo' hkl
      generalize r.1 = q at *
      generalize (qAt qs q).1.num = xn at *
      generalize ((qAt qs q).1.den : Int) = xd at *
      have s2 : (0 : Int) ≤ (q : Int) := by omega
      have s3 : (q : Int) < (m : Int) + 1 := by omega
      have hvB : ∀ j, u.ownBlock = some j → w1.heap.size ≤ j := fun j e => (hown.lt j e).1
      have HO := hide hown
      have HV := hide hvB
      have HB := hide hbwr
      clear hown hvB hbwr
      go_wp2_with (at_builtin; refine wpList_append_lies _ rfl _ _ _ rfl w1.heap.size 34 i0 _ 2 16 Try.underlying38 hi0 hz0 hz1 hz2 rfl (by omega) u k _ rfl (World.ownsRow.alloc (unhide HO) _) ⟨wr.heap.size, 0, none⟩ 1 1 [.int .i64 xn, .int .i64 xd] rfl rfl (World.news_of_block (cs := #[.int .i64 xn, .int .i64 xd]) (t := 34) (fr := (0, 0)) (heap_alloc_new wr _)) (by simp [Value.oneCell']) (by omega) (by unfold maxLen; omega) (by omega) (by simp; omega) (wr.heap.size + 1) (by simp) ?_; intro gg cap w4 hown4 hgrow hat hlt4)
      have hb := unhide HB
      rw [← HSN.out] at hown4
      have hby : Below wr.heap.size wr (wr.alloc (.cells #[.int .i64 xn, .int .i64 xd] 34)) := (by repeat (first | with_reducible exact Below.refl _ _ | with_reducible assumption | (with_reducible refine Below.trans ?_ (Below.mono (by assumption) (by first | omega | (simp <;> omega)))) | with_reducible apply Below.drew | with_reducible apply below_drewN | (with_reducible refine Below.alloc ?_ (by first | omega | (simp <;> omega)) _) | (with_reducible refine Below.setCell ?_ (by first | omega | (simp <;> omega)) _)))
      have hbz : Below w1.heap.size w1 w4 := (hb.trans (hby.mono hb.size)).grown hgrow (by have := hby.size; omega) (unhide HV)
      have HO4 := hide hown4
      have HBZ := hide hbz
      clear hown4 hby hgrow hb hbz
      go_wp2_with fail
      go_roundw
      case rel => exact ⟨k + 1, _, by go_num, rfl, by omega, unhide HO4, unhide HBZ⟩
      case measure => (simp [intOf] <;> omega)
    · obtain rfl : k = P := by omega
      have HO := hide hown
      have HB := hide hbwr
      clear hown hbwr
      go_wp2
      go_ret
      exact ⟨_, rfl, (unhide HO).mono hz1w, hbw1.trans ((unhide HB).mono hz1w)⟩

set_option maxRecDepth 100000 in
set_option maxHeartbeats 800000 in
theorem knCentre_map (g m c base : Nat) (qs : List QP) (w : World) (ha : w.ownsRow base 49 4 (.slice (some ⟨g, 0, none⟩) (m + 1) c) (m + 1) (ptcs (qs.map qp))) (hu : umB (qs.map qp) = true) :
    Calls Try.prog 49 #[.slice (some ⟨g, 0, none⟩) (m + 1) c] w fun e w' => e = .returned (.agg #[.int .i64 ((cenQ qs).num), .int .i64 ((cenQ qs).den)]) ∧ Below w.heap.size w w' := by
  have hlen : qs.length = m + 1 := by have := own_len ha; rw [List.length_map] at this; exact this
  obtain ⟨hl, h2, ht, hx, _⟩ := um_centre hu
  rw [hlen, Nat.add_sub_cancel] at h2 ht
  have hcon := fun W hW => lpTurns_map g m c base qs W hW hl.toGMap
  rw [h2, ht] at hcon
  have HC := hide hcon; have HA := hide ha
  clear hcon ha hl hx h2 ht hu hlen
  generalize cenQ qs = x at *
  go_enter Try.func49, Try.ntmps49
  go_wp2_with (go_at_call 61; (with_reducible refine ((unhide HC) _ (own_below (unhide HA) ?pb)).mono ?_); (case pb => exact (by repeat (first | with_reducible exact Below.refl _ _ | with_reducible assumption | (with_reducible refine Below.trans ?_ (Below.mono (by assumption) (by first | omega | (simp <;> omega)))) | with_reducible apply Below.drew | with_reducible apply below_drewN | (with_reducible refine Below.alloc ?_ (by first | omega | (simp <;> omega)) _) | (with_reducible refine Below.setCell ?_ (by first | omega | (simp <;> omega)) _)))); rintro e w1 ⟨v, rfl, hown, hbw1⟩; have hs1 := hbw1.size; (skip; (try ((have kw1w0 := (bnew hbw1) (w.heap.size) ?pf); (case pf => (first | omega | (simp; done) | (simp; omega))); obtain ⟨kcw1w0, kfw1w0, klw1w0⟩ := kw1w0))); obtain ⟨A1, d1, rfl⟩ := own_slice hown; obtain ⟨g1, rfl, hg1, _, f0, f1⟩ := frs_cells hown (show 0 < 1 by omega) (show fAt ([x].map qf) 0 = (x.num, (x.den : Int)) from rfl); clear hown)
  exact bodyPost_ret (v := .agg #[.int .i64 (x.num), .int .i64 (x.den)]) (by simp [results, Try.results49, go_sem, *]) rfl ⟨rfl, (by repeat (first | with_reducible exact Below.refl _ _ | with_reducible assumption | (with_reducible refine Below.trans ?_ (Below.mono (by assumption) (by first | omega | (simp <;> omega)))) | with_reducible apply Below.drew | with_reducible apply below_drewN | (with_reducible refine Below.alloc ?_ (by first | omega | (simp <;> omega)) _) | (with_reducible refine Below.setCell ?_ (by first | omega | (simp <;> omega)) _)))⟩

set_option maxRecDepth 100000 in
set_option maxHeartbeats 1600000 in
theorem iOrbitOfCentre_any (A : Option Addr) (n c base : Nat) (ps : List Pt) (m : Int) (w : World) (ha : w.ownsRow base 49 4 (.slice A n c) n (ptcs ps)) (hn : n ≤ 1048576) :
    Calls Try.prog 31 #[.slice A n c, .int .i64 m] w fun e w' => GivesR w.heap.size (((ocO ps m).getD []).map qf) (ocO ps m).isSome e w' ∧ Below w.heap.size w w' := by
  have hu := fun W hW => iIsUnimodal_any A n c base ps W hW hn
  have ht := fun W hW => iTurningPoints_any A n c base ps W hW hn
  rcases oc_cases ps m with ⟨hno, ho⟩ | ⟨qs, k, rfl, hy, rfl, hk1, hk2, hl, hx, hF, _, _, ho, _⟩
  · rw [ho]
    have HU := hide hu; have HA := hide ha
    clear ho hu ht ha
    cases hz : umB ps with
    | false =>
      rw [hz] at HU
      clear hno hz
      generalize lmB ps = y at *
      go_enter Try.func31, Try.ntmps31
      go_wp2_with (go_at_call 26; (with_reducible refine ((unhide HU) _ (unhide HA)).mono ?_); rintro e w1 ⟨rfl, hbw1⟩)
      go_ret2
      exact ⟨⟨none, 0, rfl, World.ownsRow_nil _ _ _ _⟩, (by repeat (first | with_reducible exact Below.refl _ _ | with_reducible assumption | (with_reducible refine Below.trans ?_ (Below.mono (by assumption) (by first | omega | (simp <;> omega)))) | with_reducible apply Below.drew | with_reducible apply below_drewN | (with_reducible refine Below.alloc ?_ (by first | omega | (simp <;> omega)) _) | (with_reducible refine Below.setCell ?_ (by first | omega | (simp <;> omega)) _)))⟩
    | true =>
      rw [hz] at HU
      have hm : ¬ (1 ≤ m ∧ m ≤ 30) := by
        intro h; rw [hz, decide_eq_true h] at hno; cases hno
      clear hno hz
      generalize lmB ps = y at *
      by_cases h1 : m < 1
      · go_enter Try.func31, Try.ntmps31
        go_wp2_with (go_at_call 26; (with_reducible refine ((unhide HU) _ (unhide HA)).mono ?_); rintro e w1 ⟨rfl, hbw1⟩)
        go_ret2
        exact ⟨⟨none, 0, rfl, World.ownsRow_nil _ _ _ _⟩, (by repeat (first | with_reducible exact Below.refl _ _ | with_reducible assumption | (with_reducible refine Below.trans ?_ (Below.mono (by assumption) (by first | omega | (simp <;> omega)))) | with_reducible apply Below.drew | with_reducible apply below_drewN | (with_reducible refine Below.alloc ?_ (by first | omega | (simp <;> omega)) _) | (with_reducible refine Below.setCell ?_ (by first | omega | (simp <;> omega)) _)))⟩
      · have h2 : m > 30 := by omega
        go_enter Try.func31, Try.ntmps31
        go_wp2_with (go_at_call 26; (with_reducible refine ((unhide HU) _ (unhide HA)).mono ?_); rintro e w1 ⟨rfl, hbw1⟩)
        go_ret2
        exact ⟨⟨none, 0, rfl, World.ownsRow_nil _ _ _ _⟩, (by repeat (first | with_reducible exact Below.refl _ _ | with_reducible assumption | (with_reducible refine Below.trans ?_ (Below.mono (by assumption) (by first | omega | (simp <;> omega)))) | with_reducible apply Below.drew | with_reducible apply below_drewN | (with_reducible refine Below.alloc ?_ (by first | omega | (simp <;> omega)) _) | (with_reducible refine Below.setCell ?_ (by first | omega | (simp <;> omega)) _)))⟩
  · rw [ho]
    have hot := fun W hW => iOrbitOf_any A n c base (qs.map qp) (cenQ qs).num (cenQ qs).den k W hW hn
    rw [hF, hl.toGMap.mapB] at ht
    rw [hy] at hu
    have HU := hide hu; have HA := hide ha; have HT := hide ht; have HO := hide hot
    clear ho hu ht ha hot hF hy hx hl
    generalize cenQ qs = x at *
    generalize lmB (qs.map qp) = y at *
    generalize (((orbO (qs.map qp) x.num x.den k).getD []).map qf) = L at *
    generalize (orbO (qs.map qp) x.num x.den k).isSome = z at *
    have h1 : ¬ (k : Int) < 1 := by omega
    have h2 : ¬ (k : Int) > 30 := by omega
    go_enter Try.func31, Try.ntmps31
    go_wp2_with (first
      | (go_at_call 26; (with_reducible refine ((unhide HU) _ (unhide HA)).mono ?_); rintro e w1 ⟨rfl, hbw1⟩; have hs1 := hbw1.size)
      | (go_at_call 50; (with_reducible refine ((unhide HT) _ (own_below (unhide HA) hbw1)).mono ?_); rintro e w2 ⟨⟨A1, d1, rfl, hown⟩, hbw2⟩; have hs2 := hbw2.size; obtain ⟨g1, rfl, hg1, _, f0, f1⟩ := frs_cells hown (show 0 < 1 by omega) (show fAt ([qf x]) 0 = (x.num, (x.den : Int)) from rfl); clear hown)
      | (go_at_call 51; (with_reducible refine ((unhide HO) _ (own_below (unhide HA) ?pb)).mono ?_); (case pb => exact (by repeat (first | with_reducible exact Below.refl _ _ | with_reducible assumption | (with_reducible refine Below.trans ?_ (Below.mono (by assumption) (by first | omega | (simp <;> omega)))) | with_reducible apply Below.drew | with_reducible apply below_drewN | (with_reducible refine Below.alloc ?_ (by first | omega | (simp <;> omega)) _) | (with_reducible refine Below.setCell ?_ (by first | omega | (simp <;> omega)) _)))); rintro e w3 ⟨⟨A2, d2, rfl, hown⟩, hbw3⟩; have hs3 := hbw3.size; have HO3 := hide hown; clear hown))
    go_ret2
    exact ⟨⟨A2, d2, rfl, (unhide HO3).mono (by omega)⟩, (by repeat (first | with_reducible exact Below.refl _ _ | with_reducible assumption | (with_reducible refine Below.trans ?_ (Below.mono (by assumption) (by first | omega | (simp <;> omega)))) | with_reducible apply Below.drew | with_reducible apply below_drewN | (with_reducible refine Below.alloc ?_ (by first | omega | (simp <;> omega)) _) | (with_reducible refine Below.setCell ?_ (by first | omega | (simp <;> omega)) _)))⟩

/-- The fractions behind 1, .. steps. -/
def tvO (ps : List Pt) (m : Int) : Option (List Rat) := (ocO ps m).map fun l => cyL l (1, m.toNat)
theorem TurningValues_len (ps : List Pt) (m : Int) : (((tvO ps m).getD []).map qf).length ≤ 1048576 := by
  rcases oc_cases ps m with ⟨_, ho⟩ | ⟨qs, k, rfl, _, rfl, hk1, hk2, _, _, _, _, _, _, ⟨_, _, ho⟩ | ⟨hlen, _, ho⟩⟩
  · unfold tvO; rw [ho]; simp
  · unfold tvO; rw [ho]; simp
  · unfold tvO; rw [ho]
    simp only [Option.map_some, Option.getD_some, List.length_map, Int.toNat_natCast]
    rw [cyL_len (by omega)]
    omega

set_option maxRecDepth 100000 in
set_option maxHeartbeats 1600000 in
theorem iTurningValues_any (A : Option Addr) (n c base : Nat) (ps : List Pt) (m : Int) (w : World) (ha : w.ownsRow base 49 4 (.slice A n c) n (ptcs ps)) (hn : n ≤ 1048576) :
    Calls Try.prog 19 #[.slice A n c, .int .i64 m] w fun e w' => GivesR w.heap.size (((tvO ps m).getD []).map qf) (tvO ps m).isSome e w' ∧ Below w.heap.size w w' := by
  have hc := fun W hW => iOrbitOfCentre_any A n c base ps m W hW hn
  have hno : ocO ps m = none → Calls Try.prog 19 #[.slice A n c, .int .i64 m] w fun e w' => GivesR w.heap.size (((tvO ps m).getD []).map qf) (tvO ps m).isSome e w' ∧ Below w.heap.size w w' := by
    intro h
    rw [h] at hc
    unfold tvO
    rw [h]
    have HC := hide hc; have HA := hide ha
    clear hc ha h
    go_enter Try.func19, Try.ntmps19
    go_wp2_with (go_at_call 31; (with_reducible refine ((unhide HC) _ (unhide HA)).mono ?_); rintro e w1 ⟨⟨A1, d1, rfl, hown⟩, hbw1⟩)
    go_ret2
    exact ⟨⟨none, 0, rfl, World.ownsRow_nil _ _ _ _⟩, (by repeat (first | with_reducible exact Below.refl _ _ | with_reducible assumption | (with_reducible refine Below.trans ?_ (Below.mono (by assumption) (by first | omega | (simp <;> omega)))) | with_reducible apply Below.drew | with_reducible apply below_drewN | (with_reducible refine Below.alloc ?_ (by first | omega | (simp <;> omega)) _) | (with_reducible refine Below.setCell ?_ (by first | omega | (simp <;> omega)) _)))⟩
  rcases oc_cases ps m with ⟨_, ho⟩ | ⟨qs, k, rfl, _, rfl, hk1, hk2, _, _, _, _, _, _, ⟨_, _, ho⟩ | ⟨hrl, _, ho⟩⟩
  · exact hno ho
  · exact hno ho
  · clear hno
    rw [ho] at hc
    unfold tvO
    rw [ho]
    simp only [Option.map_some, Option.getD_some, Option.isSome_some, Int.toNat_natCast] at hc ⊢
    clear ho
    obtain ⟨l, hL⟩ : ∃ l, l = run qs k (cenQ qs) := ⟨_, rfl⟩
    rw [← hL] at hrl hc ⊢
    clear hL
    have hcl : (cyL l (1, k)).length = k := cyL_len (by omega)
    have hfr : frcs ((cyL l (1, k)).map qf) = ((frcs (l.map qf)).drop (1 * 2)).take (k * 2) := by
      rw [← frcs_drop, ← frcs_take]
      unfold cyL
      rw [List.map_take, List.map_drop]
    have hnl : (((frcs (l.map qf)).drop (1 * 2)).take (k * 2)).length = k * 2 := by
      rw [← hfr, frcs_len, List.length_map, hcl]
    have hn1 := frcs_one hfr.symm
    have hlm : (l.map qf).length = k + 1 := by rw [List.length_map, hrl]
    have HC := hide hc; have HA := hide ha; have HLEN := Lib.hid hcl; have HFR := Lib.hid hfr; have HNL := Lib.hid hnl; have HN1 := hide hn1; have HLM := Lib.hid hlm
    clear hc ha hcl hfr hnl hn1 hlm hrl
    generalize cyL l (1, k) = cy at *
    have s1 : (1 : Int) ≤ (k : Int) + 1 := by omega
    go_enter Try.func19, Try.ntmps19
    go_wp2_with (go_at_call 31; (with_reducible refine ((unhide HC) _ (unhide HA)).mono ?_); rintro e w1 ⟨⟨A1, d1, rfl, hown⟩, hbw1⟩; have hs1 := hbw1.size; rw [HLM.out] at hown ⊢; obtain ⟨gs, rfl⟩ := own_form0 hown (by omega); have hcap := own_cap hown; have s7 : ((k + 1 : Nat) : Int) ≤ (d1 : Int) := (by omega); have s7' : (k : Int) + 1 ≤ (d1 : Int) := (by omega); have s8 : ¬ d1 = 1 := (by omega); have s9 : (1 : Int) ≤ (d1 : Int) := (by omega); have HOW := hide hown; clear hown)
    refine (clone_any gs (1 * 2) k (d1 - 1) _ w1 (fun W hW => lies_part (own_below (unhide HOW) hW) (show 1 + k ≤ k + 1 by omega)) HNL.out (unhide HN1) (by omega)).mono ?_
    rintro e w3 ⟨A3, c3, rfl, hown3, hbw3⟩
    have hs3 := hbw3.size
    rw [← HFR.out] at hown3
    have HO3 := hide hown3; clear hown3
    go_wp2_with fail
    go_ret2
    exact ⟨⟨A3, c3, by rw [List.length_map, HLEN.out]; rfl, by rw [List.length_map, HLEN.out]; exact (unhide HO3).mono (by omega)⟩, (by repeat (first | with_reducible exact Below.refl _ _ | with_reducible assumption | (with_reducible refine Below.trans ?_ (Below.mono (by assumption) (by first | omega | (simp <;> omega)))) | with_reducible apply Below.drew | with_reducible apply below_drewN | (with_reducible refine Below.alloc ?_ (by first | omega | (simp <;> omega)) _) | (with_reducible refine Below.setCell ?_ (by first | omega | (simp <;> omega)) _)))⟩

set_option maxRecDepth 100000 in
set_option maxHeartbeats 1600000 in
theorem knValues_map (g m c base : Nat) (qs : List QP) (k : Nat) (w : World) (ha : w.ownsRow base 49 4 (.slice (some ⟨g, 0, none⟩) (m + 1) c) (m + 1) (ptcs (qs.map qp))) (hu : umB (qs.map qp) = true) (hk1 : 1 ≤ k) (hk2 : k ≤ 30) :
    Calls Try.prog 39 #[.slice (some ⟨g, 0, none⟩) (m + 1) c, .int .i64 k] w fun e w' => ReadsR w.heap.size (((tvO (qs.map qp) k).getD []).map qf) (tvO (qs.map qp) k).isSome e w' ∧ Below w.heap.size w w' := by
  obtain ⟨hl, h2, ht, hx, _⟩ := um_centre hu
  have hcen := fun W hW => knCentre_map g m c base qs W hW hu
  have hrun := fun W hW => orRun_map g (m + 1) c base qs (cenQ qs) k W hW hl.toGMap hx (by omega)
  have hcs : (tvO (qs.map qp) k = none ∧ (run qs k (cenQ qs)).length < k + 1) ∨ (tvO (qs.map qp) k = some (cyL (run qs k (cenQ qs)) (1, k)) ∧ (run qs k (cenQ qs)).length = k + 1) := by
    rcases oc_cases (qs.map qp) k with ⟨h, _⟩ | ⟨qs', k', e1, _, e2, _, _, _, _, _, _, _, _, hh⟩
    · rw [hu, decide_eq_true (show 1 ≤ (k : Int) ∧ (k : Int) ≤ 30 by omega)] at h; cases h
    · obtain rfl : qs = qs' := by have := congrArg dec e1; rwa [dec_qp, dec_qp] at this
      obtain rfl : k = k' := by omega
      rcases hh with ⟨_, h, ho⟩ | ⟨h, _, ho⟩
      · exact .inl ⟨by unfold tvO; rw [ho]; rfl, by omega⟩
      · exact .inr ⟨by unfold tvO; rw [ho]; rfl, h⟩
  have HA := hide ha; have HCE := hide hcen; have HR := hide hrun
  clear ha hcen hrun hl h2 ht hx hu
  rcases hcs with ⟨ho, hw⟩ | ⟨ho, hw⟩
  · rw [ho]
    clear ho
    generalize cenQ qs = x at *
    generalize run qs k x = l at *
    generalize x.num = xn at *
    generalize (x.den : Int) = xd at *
    go_enter Try.func39, Try.ntmps39
    go_wp2_with (first
      | (go_at_call 49; (with_reducible refine ((unhide HCE) _ (unhide HA)).mono ?_); rintro e w1 ⟨rfl, hbw1⟩; have hs1 := hbw1.size)
      | (go_at_call 57; (with_reducible refine ((unhide HR) _ (own_below (unhide HA) hbw1)).mono ?_); rintro e w2 ⟨gs, d, rfl, hown, hbw2⟩; have hs2 := hbw2.size; clear hown))
    go_ret2
    exact ⟨⟨none, 0, rfl, rsl_none _ _⟩, (by repeat (first | with_reducible exact Below.refl _ _ | with_reducible assumption | (with_reducible refine Below.trans ?_ (Below.mono (by assumption) (by first | omega | (simp <;> omega)))) | with_reducible apply Below.drew | with_reducible apply below_drewN | (with_reducible refine Below.alloc ?_ (by first | omega | (simp <;> omega)) _) | (with_reducible refine Below.setCell ?_ (by first | omega | (simp <;> omega)) _)))⟩
  · rw [ho]
    clear ho
    simp only [Option.getD_some, Option.isSome_some]
    generalize cenQ qs = x at *
    generalize run qs k x = l at *
    have hcl : (cyL l (1, k)).length = k := cyL_len (by omega)
    rw [hw] at HR
    generalize x.num = xn at *
    generalize (x.den : Int) = xd at *
    have HW := Lib.hid hw; have HCL := Lib.hid hcl
    clear hw hcl
    have s1 : (1 : Int) ≤ (k : Int) + 1 := by omega
    have s2 : ¬ (k : Int) + 1 ≤ (k : Int) := by omega
    go_enter Try.func39, Try.ntmps39
    go_wp2_with (first
      | (go_at_call 49; (with_reducible refine ((unhide HCE) _ (unhide HA)).mono ?_); rintro e w1 ⟨rfl, hbw1⟩; have hs1 := hbw1.size)
      | (go_at_call 57; (with_reducible refine ((unhide HR) _ (own_below (unhide HA) hbw1)).mono ?_); rintro e w2 ⟨gs, d, rfl, hown, hbw2⟩; have hs2 := hbw2.size; have hcap := own_cap hown; have s7 : ((k + 1 : Nat) : Int) ≤ (d : Int) := (by omega); have s7' : (k : Int) + 1 ≤ (d : Int) := (by omega); have s8 : ¬ d = 1 := (by omega); have s9 : (1 : Int) ≤ (d : Int) := (by omega); have HOW := hide hown; clear hown))
    have ho := rsl_part (a := 1) (b := k) (unhide HOW) (show 1 + k ≤ k + 1 by omega)
    go_ret2
    exact ⟨⟨some ⟨gs, 1 * 2, none⟩, d - 1, by simp [HCL.out], by rw [List.length_map, HCL.out]; exact ho.mono (by omega)⟩, (by repeat (first | with_reducible exact Below.refl _ _ | with_reducible assumption | (with_reducible refine Below.trans ?_ (Below.mono (by assumption) (by first | omega | (simp <;> omega)))) | with_reducible apply Below.drew | with_reducible apply below_drewN | (with_reducible refine Below.alloc ?_ (by first | omega | (simp <;> omega)) _) | (with_reducible refine Below.setCell ?_ (by first | omega | (simp <;> omega)) _)))⟩

set_option maxRecDepth 100000 in
theorem knLength_any (m : Int) (w : World) : Calls Try.prog 28 #[.int .i64 m] w fun e w' => e = .returned (.bool (decide (1 ≤ m ∧ m ≤ 30))) ∧ w = w' := by
  by_cases h : 1 ≤ m ∧ m ≤ 30
  · rw [decide_eq_true h]
    go_enter Try.func28, Try.ntmps28
    go_wp2_with (go_at_call 47; refine (l1In_yes h _).mono ?_; rintro e w' ⟨rfl, rfl⟩)
    go_ret
    exact ⟨rfl, rfl⟩
  · rw [decide_eq_false h]
    go_enter Try.func28, Try.ntmps28
    go_wp2_with (go_at_call 47; refine (l1In_no h _).mono ?_; rintro e w' ⟨rfl, rfl⟩)
    go_ret
    exact ⟨rfl, rfl⟩

set_option maxRecDepth 100000 in
set_option maxHeartbeats 1600000 in
theorem sTurningValues_any (A : Option Addr) (n c base : Nat) (ps : List Pt) (m : Int) (w : World) (ha : w.ownsRow base 49 4 (.slice A n c) n (ptcs ps)) (hn : n ≤ 1048576) :
    Calls Try.prog 18 #[.slice A n c, .int .i64 m] w fun e w' => ReadsR w.heap.size (((tvO ps m).getD []).map qf) (tvO ps m).isSome e w' ∧ Below w.heap.size w w' := by
  have hla := fun W hW => sknLaps_any A n c base ps W hW hn
  have hle := fun W => knLength_any m W
  rcases oc_cases ps m with ⟨hno, ho⟩ | ⟨qs, k, rfl, hy, rfl, hk1, hk2, hl, _, _, _, _, _, _⟩
  · have ht : tvO ps m = none := by unfold tvO; rw [ho]; rfl
    rw [ht]
    have HLA := hide hla; have HLE := hide hle; have HA := hide ha
    clear ho ht hla hle ha
    cases hz : umB ps with
    | false =>
      rw [hz] at HLA
      clear hno hz
      go_enter Try.func18, Try.ntmps18
      go_wp2_with (go_at_call 27; (with_reducible refine ((unhide HLA) _ (unhide HA)).mono ?_); rintro e w1 ⟨rfl, hbw1⟩)
      go_ret2
      exact ⟨⟨none, 0, rfl, rsl_none _ _⟩, (by repeat (first | with_reducible exact Below.refl _ _ | with_reducible assumption | (with_reducible refine Below.trans ?_ (Below.mono (by assumption) (by first | omega | (simp <;> omega)))) | with_reducible apply Below.drew | with_reducible apply below_drewN | (with_reducible refine Below.alloc ?_ (by first | omega | (simp <;> omega)) _) | (with_reducible refine Below.setCell ?_ (by first | omega | (simp <;> omega)) _)))⟩
    | true =>
      rw [hz] at HLA
      rw [hz, Bool.true_and] at hno
      rw [hno] at HLE
      clear hno hz
      go_enter Try.func18, Try.ntmps18
      go_wp2_with (first
        | (go_at_call 27; (with_reducible refine ((unhide HLA) _ (unhide HA)).mono ?_); rintro e w1 ⟨rfl, hbw1⟩)
        | (go_at_call 28; (with_reducible refine ((unhide HLE) _).mono ?_); rintro e w2 ⟨rfl, rfl⟩))
      go_ret2
      exact ⟨⟨none, 0, rfl, rsl_none _ _⟩, (by repeat (first | with_reducible exact Below.refl _ _ | with_reducible assumption | (with_reducible refine Below.trans ?_ (Below.mono (by assumption) (by first | omega | (simp <;> omega)))) | with_reducible apply Below.drew | with_reducible apply below_drewN | (with_reducible refine Below.alloc ?_ (by first | omega | (simp <;> omega)) _) | (with_reducible refine Below.setCell ?_ (by first | omega | (simp <;> omega)) _)))⟩
  · rw [hy] at hla
    rw [decide_eq_true (show 1 ≤ (k : Int) ∧ (k : Int) ≤ 30 by omega)] at hle
    obtain ⟨g, mm, qs', rfl, rfl, e1, _, _⟩ := own_form ha hl.toGMap.mapB
    obtain rfl : qs = qs' := by have := congrArg dec e1; rwa [dec_qp, dec_qp] at this
    have hv := fun W hW => knValues_map g mm c base qs k W hW hy hk1 hk2
    have HLA := hide hla; have HLE := hide hle; have HA := hide ha; have HV := hide hv
    clear hla hle ha hv e1 hy hl
    generalize (((tvO (qs.map qp) k).getD []).map qf) = L at *
    generalize (tvO (qs.map qp) k).isSome = z at *
    go_enter Try.func18, Try.ntmps18
    go_wp2_with (first
      | (go_at_call 27; (with_reducible refine ((unhide HLA) _ (unhide HA)).mono ?_); rintro e w1 ⟨rfl, hbw1⟩; have hs1 := hbw1.size)
      | (go_at_call 28; (with_reducible refine ((unhide HLE) _).mono ?_); rintro e w2 ⟨rfl, rfl⟩)
      | (go_at_call 39; (with_reducible refine ((unhide HV) _ (own_below (unhide HA) hbw1)).mono ?_); rintro e w3 ⟨⟨A3, d3, rfl, hr⟩, hbw3⟩; have hs3 := hbw3.size; have HR3 := hide hr; clear hr))
    go_ret2
    exact ⟨⟨A3, d3, rfl, (unhide HR3).mono hs1⟩, (by repeat (first | with_reducible exact Below.refl _ _ | with_reducible assumption | (with_reducible refine Below.trans ?_ (Below.mono (by assumption) (by first | omega | (simp <;> omega)))) | with_reducible apply Below.drew | with_reducible apply below_drewN | (with_reducible refine Below.alloc ?_ (by first | omega | (simp <;> omega)) _) | (with_reducible refine Below.setCell ?_ (by first | omega | (simp <;> omega)) _)))⟩
end Go.Proofs.Ytldmgjeecomddaa

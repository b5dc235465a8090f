/-
  Chapter 6: ItineraryOf of both.
-/
import Derived.Test.YtjggjegjhcpjhaaWd
import Derived.Test.YtjggjegjhcpjhaaOa
import Derived.Test.YtjggjegjhcpjhaaGi
namespace Go.Proofs.Ytjggjegjhcpjhaa
open Go.RowKit Rm

/-- The addresses of the first j fractions. -/
def itK (qs : List QP) (l : List Rat) (j : Nat) : List Int := (l.take j).map fun y => (adQ qs y : Int)
theorem itK_len {qs : List QP} {l : List Rat} {j : Nat} (h : j ≤ l.length) : (itK qs l j).length = j := by unfold itK; rw [List.length_map, List.length_take]; omega
theorem itK_sn {qs : List QP} {l : List Rat} {j : Nat} (h : j < l.length) : ints (itK qs l (j + 1)) = ints (itK qs l j) ++ [.int .i64 (adQ qs (l.getD j 0) : Int)] := by
  unfold itK ints
  rw [List.take_succ_eq_append_getElem h, List.map_append, List.map_append]
  simp [h]
theorem itK_all {qs : List QP} {l : List Rat} : itK qs l l.length = l.map fun y => (adQ qs y : Int) := by unfold itK; rw [List.take_length]
def itZ (ps : List Pt) (a b m : Int) : Bool := lmB ps && (decide (1 ≤ m ∧ m ≤ 20) && (orbO ps a b (m - 1)).isSome)
def itL (ps : List Pt) (a b m : Int) : List Int := match itZ ps a b m with | true => ((orbO ps a b (m - 1)).getD []).map fun y => (adQ (dec ps) y : Int) | false => []
theorem itL_no {ps : List Pt} {a b m : Int} (h : itZ ps a b m = false) : itL ps a b m = [] := by unfold itL; simp only [h]
theorem itL_yes {qs : List QP} {a b m : Int} {l : List Rat} (h : itZ (qs.map qp) a b m = true) (ho : orbO (qs.map qp) a b (m - 1) = some l) : itL (qs.map qp) a b m = l.map fun y => (adQ qs y : Int) := by
  unfold itL; simp only [h, ho, dec_qp, Option.getD_some]
theorem ItineraryOf_len (ps : List Pt) (a b m : Int) : (itL ps a b m).length ≤ 1048576 := by
  cases h : itZ ps a b m with
  | false => rw [itL_no h]; simp
  | true =>
    rcases orb_cases ps a b (m - 1) with ⟨_, _, ho⟩ | ⟨qs, x, k, rfl, hg, rfl, rfl, hx, hmk, hk, hr, _, ⟨_, _, ho⟩ | ⟨hO, ho⟩⟩
    · unfold itZ at h; rw [ho] at h; simp at h
    · unfold itZ at h; rw [ho] at h; simp at h
    · rw [itL_yes h ho, List.length_map, hO.len]; omega
theorem fAt_q (l : List Rat) {k : Nat} (h : k < l.length) : fAt (l.map qf) k = ((l.getD k 0).num, ((l.getD k 0).den : Int)) := by simp [fAt, h, qf]

set_option maxRecDepth 100000 in
set_option maxHeartbeats 1600000 in
theorem iItineraryOf_any (A : Option Addr) (n c base : Nat) (ps : List Pt) (a b m : Int) (w : World) (ha : w.ownsRow base 73 4 (.slice A n c) n (ptcs ps)) (hn : n ≤ 1048576) :
    Calls Try.prog 24 #[.slice A n c, .agg #[.int .i64 (a), .int .i64 (b)], .int .i64 m] w fun e w' => GivesI w.heap.size (itL ps a b m) (itZ ps a b m) e w' ∧ Below w.heap.size w w' := by
  obtain ⟨i0, hi0, iz0, iz1, iz2⟩ := info_parts iInt
  have hlw := fun W hW => lapsWith_any A n c base ps W hW hn
  have hor := fun W hW => iOrbitOf_any A n c base ps a b (m - 1) W hW hn
  have HLW := hide hlw; have HA := hide ha; clear hlw
  rcases hm : lmB ps with _ | _
  · have hz : itZ ps a b m = false := by unfold itZ; rw [hm]; rfl
    rw [hz, itL_no hz]
    have HM := Lib.hid hm
    clear hm hz ha hor
    go_enter Try.func24, Try.ntmps24
    go_wp2_with (go_at_call 57; (with_reducible refine ((unhide HLW) _ (own_below (unhide HA) ?pb)).mono ?_); (case pb => exact (by repeat (first | with_reducible exact Below.refl _ _ | with_reducible assumption | (with_reducible refine Below.trans ?_ (Below.mono (by assumption) (by first | omega | (simp <;> omega)))) | with_reducible apply Below.drew | with_reducible apply below_drewN | (with_reducible refine Below.alloc ?_ (by first | omega | (simp <;> omega)) _) | (with_reducible refine Below.setCell ?_ (by first | omega | (simp <;> omega)) _)))); rintro e w1 ⟨h1, _, hbw1⟩; obtain rfl := h1 HM.out; clear h1; (skip; (try ((have kw1w0 := (bnew hbw1) (w.heap.size) ?pf); (case pf => (first | omega | (simp; done) | (simp; omega))); obtain ⟨kcw1w0, kfw1w0, klw1w0⟩ := kw1w0))))
    go_ret2
    exact ⟨givesI_none _ _, (by repeat (first | with_reducible exact Below.refl _ _ | with_reducible assumption | (with_reducible refine Below.trans ?_ (Below.mono (by assumption) (by first | omega | (simp <;> omega)))) | with_reducible apply Below.drew | with_reducible apply below_drewN | (with_reducible refine Below.alloc ?_ (by first | omega | (simp <;> omega)) _) | (with_reducible refine Below.setCell ?_ (by first | omega | (simp <;> omega)) _)))⟩
  · obtain ⟨qs, hq, hl⟩ := lmB_of hm
    have hmb : mapB ps = true := by rw [hq]; exact hl.toGMap.mapB
    obtain ⟨g, mm, qs', hAg, hnm, hq', hg', hlen⟩ := own_form ha hmb
    obtain rfl : qs = qs' := by have := congrArg dec (hq.symm.trans hq'); rwa [dec_qp, dec_qp] at this
    subst hAg hnm hq
    have HQ := Lib.hid hl
    have hnext : ∀ (v1 : Value) (W : World) (B : Nat), W.ownsRow B 123 1 v1 (lapsQ qs).length (lapVals g c (lapsQ qs)) → ∃ A1 c1, v1 = .slice A1 (lapsQ qs).length c1 := fun v1 W B hv => own_slice hv
    have HNV := hide hnext; clear hnext
    by_cases hr : 1 ≤ m ∧ m ≤ 20
    · have e1 : IntKind.i64.wrap (m - 1) = m - 1 := IntWalk.i64_in _ (by omega)
      have e2 : decide (m < 1) = false := decide_eq_false (by omega)
      have e3 : decide (m > 20) = false := decide_eq_false (by omega)
      rcases ho : orbO (qs.map qp) a b (m - 1) with _ | l
      · have hz : itZ (qs.map qp) a b m = false := by unfold itZ; rw [ho]; simp
        rw [hz, itL_no hz]
        rw [ho] at hor
        have HO := hide hor
        clear hm hz ha hor ho hl hq' hmb hg' hlen hr
        simp only [Option.getD_none, List.map_nil, Option.isSome_none] at HO
        go_enter Try.func24, Try.ntmps24
        go_wp2_with (first
          | (go_at_call 57; (with_reducible refine ((unhide HLW) _ (own_below (unhide HA) ?pb)).mono ?_); (case pb => exact (by repeat (first | with_reducible exact Below.refl _ _ | with_reducible assumption | (with_reducible refine Below.trans ?_ (Below.mono (by assumption) (by first | omega | (simp <;> omega)))) | with_reducible apply Below.drew | with_reducible apply below_drewN | (with_reducible refine Below.alloc ?_ (by first | omega | (simp <;> omega)) _) | (with_reducible refine Below.setCell ?_ (by first | omega | (simp <;> omega)) _)))); rintro e w1 ⟨_, h2, hbw1⟩; obtain ⟨v1, rfl, hv1⟩ := h2 g qs rfl rfl HQ.out; clear h2; have hz1 := hbw1.size; (try simp at hz1); (skip; (try ((have kw1w0 := (bnew hbw1) (w.heap.size) ?pf); (case pf => (first | omega | (simp; done) | (simp; omega))); obtain ⟨kcw1w0, kfw1w0, klw1w0⟩ := kw1w0))))
          | (go_at_call 65; (with_reducible refine ((unhide HO) _ (own_below (unhide HA) ?pb)).mono ?_); (case pb => exact (by repeat (first | with_reducible exact Below.refl _ _ | with_reducible assumption | (with_reducible refine Below.trans ?_ (Below.mono (by assumption) (by first | omega | (simp <;> omega)))) | with_reducible apply Below.drew | with_reducible apply below_drewN | (with_reducible refine Below.alloc ?_ (by first | omega | (simp <;> omega)) _) | (with_reducible refine Below.setCell ?_ (by first | omega | (simp <;> omega)) _)))); rintro e w2 ⟨⟨A2, d2, rfl, ho2⟩, hbw2⟩; have hz2' := hbw2.size; (try simp at hz2'); (skip; (try ((have kw2w0 := (bnew hbw2) (w.heap.size) ?pf); (case pf => (first | omega | (simp; done) | (simp; omega))); obtain ⟨kcw2w0, kfw2w0, klw2w0⟩ := kw2w0)))))
        go_ret2
        exact ⟨givesI_none _ _, (by repeat (first | with_reducible exact Below.refl _ _ | with_reducible assumption | (with_reducible refine Below.trans ?_ (Below.mono (by assumption) (by first | omega | (simp <;> omega)))) | with_reducible apply Below.drew | with_reducible apply below_drewN | (with_reducible refine Below.alloc ?_ (by first | omega | (simp <;> omega)) _) | (with_reducible refine Below.setCell ?_ (by first | omega | (simp <;> omega)) _)))⟩
      · have hz : itZ (qs.map qp) a b m = true := by unfold itZ; rw [hm, ho, decide_eq_true hr]; rfl
        have hyes := itL_yes hz ho
        have hun : l.length ≤ 61 ∧ ∀ i, i < l.length → Un (l.getD i 0) := by
          rcases orb_cases (qs.map qp) a b (m - 1) with ⟨_, _, h⟩ | ⟨qs2, x, k, _, hg, rfl, rfl, hx, hmk, hk, hr', _, ⟨_, _, h⟩ | ⟨hO, h⟩⟩
          · rw [ho] at h; cases h
          · rw [ho] at h; cases h
          · rw [ho] at h
            injection h with h
            rw [h]
            have := hO.len
            exact ⟨by omega, fun i hi => hO.all i (by omega)⟩
        obtain ⟨hln, hun⟩ := hun
        have hall := itK_all (qs := qs) (l := l)
        rw [hyes, hz, ← hall]
        rw [ho] at hor
        unfold GivesR at hor
        simp only [Option.getD_some, Option.isSome_some, List.length_map] at hor
        have hP := PCells.own ha
        have HO := hide hor; have HU := hide hun; have HP := hide hP; have HGM := Lib.hid hl.toGMap
        clear hm hz ha hor ho hl hq' hmb hg' hlen hr hyes hall hP hun
        have hlk := itK_len (qs := qs) (l := l) (Nat.le_refl l.length)
        obtain ⟨N, hN⟩ : ∃ N, N = l.length := ⟨_, rfl⟩
        rw [← hN] at HO hlk hln ⊢
        have HLK := Lib.hid hlk
        have HN := Lib.hid hN; clear hN hlk
        go_enter Try.func24, Try.ntmps24
        go_wp2_with (first
          | (go_at_call 57; (with_reducible refine ((unhide HLW) _ (own_below (unhide HA) ?pb)).mono ?_); (case pb => exact (by repeat (first | with_reducible exact Below.refl _ _ | with_reducible assumption | (with_reducible refine Below.trans ?_ (Below.mono (by assumption) (by first | omega | (simp <;> omega)))) | with_reducible apply Below.drew | with_reducible apply below_drewN | (with_reducible refine Below.alloc ?_ (by first | omega | (simp <;> omega)) _) | (with_reducible refine Below.setCell ?_ (by first | omega | (simp <;> omega)) _)))); rintro e w1 ⟨_, h2, hbw1⟩; obtain ⟨v1, rfl, hv1⟩ := h2 g qs rfl rfl HQ.out; clear h2; have hz1 := hbw1.size; (try simp at hz1); (skip; (try ((have kw1w0 := (bnew hbw1) (w.heap.size) ?pf); (case pf => (first | omega | (simp; done) | (simp; omega))); obtain ⟨kcw1w0, kfw1w0, klw1w0⟩ := kw1w0))); obtain ⟨A1, c1, rfl⟩ := (unhide HNV) _ _ _ hv1; have HV1 := hide hv1; clear hv1)
          | (go_at_call 65; (with_reducible refine ((unhide HO) _ (own_below (unhide HA) ?pb)).mono ?_); (case pb => exact (by repeat (first | with_reducible exact Below.refl _ _ | with_reducible assumption | (with_reducible refine Below.trans ?_ (Below.mono (by assumption) (by first | omega | (simp <;> omega)))) | with_reducible apply Below.drew | with_reducible apply below_drewN | (with_reducible refine Below.alloc ?_ (by first | omega | (simp <;> omega)) _) | (with_reducible refine Below.setCell ?_ (by first | omega | (simp <;> omega)) _)))); rintro e w2 ⟨⟨A2, d2, rfl, ho2⟩, hbw2⟩; have hz2' := hbw2.size; (try simp at hz2'); (skip; (try ((have kw2w0 := (bnew hbw2) (w.heap.size) ?pf); (case pf => (first | omega | (simp; done) | (simp; omega))); obtain ⟨kcw2w0, kfw2w0, klw2w0⟩ := kw2w0)))))
        have hbA : Below w.heap.size w w2 := (by repeat (first | with_reducible exact Below.refl _ _ | with_reducible assumption | (with_reducible refine Below.trans ?_ (Below.mono (by assumption) (by first | omega | (simp <;> omega)))) | with_reducible apply Below.drew | with_reducible apply below_drewN | (with_reducible refine Below.alloc ?_ (by first | omega | (simp <;> omega)) _) | (with_reducible refine Below.setCell ?_ (by first | omega | (simp <;> omega)) _)))
        have HV2 := hide (own_below (unhide HV1) hbw2)
        have HP2 := hide ((unhide HP).below hbA)
        have HBA := hide hbA
        have HO2 := hide ho2
        have hzA := hbA.size
        clear ho2 hbA hbw1 hbw2 kcw1w0 kfw1w0 klw1w0 kcw2w0 kfw2w0 klw2w0
        go_loopw [11, 41] (fun v i wr => ∃ (j : Nat) (A4 : Option Addr) (c4 : Nat), i = .int .i64 (j : Int) ∧ v = .slice A4 j c4 ∧ j ≤ N ∧ wr.ownsRow w2.heap.size 3 1 (.slice A4 j c4) j (ints (itK qs l j)) ∧ Below w2.heap.size w2 wr) (fun _ i _ => N - (intOf i).toNat)
        case atStart => exact ⟨0, none, 0, rfl, rfl, by omega, World.ownsRow_nil _ _ _ _, Below.refl _ _⟩
        case round =>
          obtain ⟨j, A4, c4, rfl, rfl, hj, hown, hbwr⟩ := hrel
          have hzwr := hbwr.size
          by_cases hlt : j < N
          · have hjl : j < l.length := by rw [← HN.out]; exact hlt
            obtain ⟨g1, rfl, hg1, _, f0, f1⟩ := frs_cells (own_below (unhide HO2) hbwr) hlt (fAt_q l hjl)
            have hu := (unhide HU) j hjl
            have hfl := fun W hV hPp => firstLap_any A1 (lapsQ qs).length c1 _ g c qs (l.getD j 0) W (own_below (own_below (unhide HV2) hbwr) hV) (((unhide HP2).below hbwr).below hPp) HGM.out hu.fit hu.hi
            have hsn := itK_sn (qs := qs) hjl
            have hvB : ∀ k, (Value.slice A4 j c4).ownBlock = some k → w2.heap.size ≤ k := fun k e => (hown.lt k e).1
            have HFL := hide hfl; have HSN := Lib.hid hsn; have HVB := hide hvB; have HO := hide hown; have HB := hide hbwr
            clear hu hfl hsn hvB hown hbwr
            generalize adQ qs (l.getD j 0) = z at *
            generalize (l.getD j 0).num = yn at *
            generalize ((l.getD j 0).den : Int) = yd at *
            go_wp2_with (first
              | (go_at_call 62; (with_reducible refine ((unhide HFL) _ ?pb ?pb).mono ?_); (case pb => exact (by repeat (first | with_reducible exact Below.refl _ _ | with_reducible assumption | (with_reducible refine Below.trans ?_ (Below.mono (by assumption) (by first | omega | (simp <;> omega)))) | with_reducible apply Below.drew | with_reducible apply below_drewN | (with_reducible refine Below.alloc ?_ (by first | omega | (simp <;> omega)) _) | (with_reducible refine Below.setCell ?_ (by first | omega | (simp <;> omega)) _)))); rintro e w3 ⟨rfl, hbw3⟩; have hz3 := hbw3.size; (try simp at hz3))
              | (at_builtin; refine wpList_append_any rfl _ _ _ rfl w2.heap.size 3 i0 _ 1 8 Try.underlying36 hi0 iz0 iz1 iz2 rfl (by omega) (.slice A4 j c4) j _ rfl (own_below (unhide HO) (show Below wr.heap.size wr _ from (by repeat (first | with_reducible exact Below.refl _ _ | with_reducible assumption | (with_reducible refine Below.trans ?_ (Below.mono (by assumption) (by first | omega | (simp <;> omega)))) | with_reducible apply Below.drew | with_reducible apply below_drewN | (with_reducible refine Below.alloc ?_ (by first | omega | (simp <;> omega)) _) | (with_reducible refine Below.setCell ?_ (by first | omega | (simp <;> omega)) _))))) _ 1 [.int .i64 (z : Int)] rfl (lies_one (by simp [go_sem, *])) rfl (one_cell rfl) (Nat.le_trans (by omega) maxLen_ge) (by omega) (by first | omega | (simp <;> omega)) (j + 1) rfl ?_; intro A5 c5 w5 hown5 hgrow5))
            rw [← HSN.out] at hown5
            have hb := unhide HB
            have hbz : Below w2.heap.size w2 w5 := Below.grown (hb.trans ((show Below wr.heap.size wr _ from (by repeat (first | with_reducible exact Below.refl _ _ | with_reducible assumption | (with_reducible refine Below.trans ?_ (Below.mono (by assumption) (by first | omega | (simp <;> omega)))) | with_reducible apply Below.drew | with_reducible apply below_drewN | (with_reducible refine Below.alloc ?_ (by first | omega | (simp <;> omega)) _) | (with_reducible refine Below.setCell ?_ (by first | omega | (simp <;> omega)) _)))).mono hb.size)) hgrow5 (by first | omega | (simp <;> omega)) (unhide HVB)
            have HO5 := hide hown5; have HBZ := hide hbz
            clear hown5 hbz hgrow5 hb
            go_wp2_with fail
            go_roundw
            case rel => exact ⟨j + 1, A5, c5, by go_num, rfl, by omega, unhide HO5, unhide HBZ⟩
            case measure => (simp [intOf] <;> omega)
          · obtain rfl : j = N := by omega
            have HO := hide hown
            have HB := hide hbwr
            clear hown hbwr
            go_wp2
            go_ret2
            exact ⟨⟨A4, c4, by rw [HLK.out] <;> rfl, by rw [HLK.out]; exact (unhide HO).mono hzA⟩, (unhide HBA).trans ((unhide HB).mono hzA)⟩
    · have hz : itZ (qs.map qp) a b m = false := by unfold itZ; rw [decide_eq_false hr]; simp
      rw [hz, itL_no hz]
      clear hm hz ha hor hl hq' hmb hg' hlen
      by_cases h1 : m < 1
      · go_enter Try.func24, Try.ntmps24
        go_wp2_with (go_at_call 57; (with_reducible refine ((unhide HLW) _ (own_below (unhide HA) ?pb)).mono ?_); (case pb => exact (by repeat (first | with_reducible exact Below.refl _ _ | with_reducible assumption | (with_reducible refine Below.trans ?_ (Below.mono (by assumption) (by first | omega | (simp <;> omega)))) | with_reducible apply Below.drew | with_reducible apply below_drewN | (with_reducible refine Below.alloc ?_ (by first | omega | (simp <;> omega)) _) | (with_reducible refine Below.setCell ?_ (by first | omega | (simp <;> omega)) _)))); rintro e w1 ⟨_, h2, hbw1⟩; obtain ⟨v1, rfl, hv1⟩ := h2 g qs rfl rfl HQ.out; clear h2; have hz1 := hbw1.size; (try simp at hz1); (skip; (try ((have kw1w0 := (bnew hbw1) (w.heap.size) ?pf); (case pf => (first | omega | (simp; done) | (simp; omega))); obtain ⟨kcw1w0, kfw1w0, klw1w0⟩ := kw1w0))))
        go_ret2
        exact ⟨givesI_none _ _, (by repeat (first | with_reducible exact Below.refl _ _ | with_reducible assumption | (with_reducible refine Below.trans ?_ (Below.mono (by assumption) (by first | omega | (simp <;> omega)))) | with_reducible apply Below.drew | with_reducible apply below_drewN | (with_reducible refine Below.alloc ?_ (by first | omega | (simp <;> omega)) _) | (with_reducible refine Below.setCell ?_ (by first | omega | (simp <;> omega)) _)))⟩
      · have h2 : m > 20 := by omega
        clear hr
        go_enter Try.func24, Try.ntmps24
        go_wp2_with (go_at_call 57; (with_reducible refine ((unhide HLW) _ (own_below (unhide HA) ?pb)).mono ?_); (case pb => exact (by repeat (first | with_reducible exact Below.refl _ _ | with_reducible assumption | (with_reducible refine Below.trans ?_ (Below.mono (by assumption) (by first | omega | (simp <;> omega)))) | with_reducible apply Below.drew | with_reducible apply below_drewN | (with_reducible refine Below.alloc ?_ (by first | omega | (simp <;> omega)) _) | (with_reducible refine Below.setCell ?_ (by first | omega | (simp <;> omega)) _)))); rintro e w1 ⟨_, h2, hbw1⟩; obtain ⟨v1, rfl, hv1⟩ := h2 g qs rfl rfl HQ.out; clear h2; have hz1 := hbw1.size; (try simp at hz1); (skip; (try ((have kw1w0 := (bnew hbw1) (w.heap.size) ?pf); (case pf => (first | omega | (simp; done) | (simp; omega))); obtain ⟨kcw1w0, kfw1w0, klw1w0⟩ := kw1w0))))
        go_ret2
        exact ⟨givesI_none _ _, (by repeat (first | with_reducible exact Below.refl _ _ | with_reducible assumption | (with_reducible refine Below.trans ?_ (Below.mono (by assumption) (by first | omega | (simp <;> omega)))) | with_reducible apply Below.drew | with_reducible apply below_drewN | (with_reducible refine Below.alloc ?_ (by first | omega | (simp <;> omega)) _) | (with_reducible refine Below.setCell ?_ (by first | omega | (simp <;> omega)) _)))⟩
end Go.Proofs.Ytjggjegjhcpjhaa

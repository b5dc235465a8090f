/-
  Chapter 6: the laps of a lap map: lapsWithSlopes of the program, woMap of the model; IsLapMap.
-/
import Derived.Test.YthccdooacbablabWm
import Derived.Test.YthccdooacbablabLpa
import Derived.Test.YthccdooacbablabPut
namespace Go.Proofs.Ythccdooacbablab
open Go.RowKit Rm

theorem iLaps : (Try.prog.info? 67).map (fun i => (i.zero, i.size, i.bytes)) = some (some (.slice none 0 0), 1, 24) := by kernel_rfl
theorem lies_one {W : World} {Y c : Nat} {a : Value} (h0 : W.cell? ⟨Y, 0, none⟩ = some a) : Lies W (.slice (some ⟨Y, 0, none⟩) 1 c) 1 [a] := by
  refine .inr ⟨_, _, rfl, fun j u hu => ?_⟩
  rw [add_at]
  match j, hu with
  | 0, hu => simp only [List.getElem?_cons_zero, Option.some.injEq] at hu; subst hu; exact h0
  | j + 1, hu => simp at hu
theorem one_cell {a : Value} (h : a.oneCell' = true) : ∀ u ∈ ([a] : List Value), u.oneCell' = true := fun u hu => by rw [List.mem_singleton.1 hu]; exact h
theorem news_one {W : World} {b : Nat} {a : Value} (h : W.cell? ⟨b, 0, none⟩ = some a) : ∀ j u, ([a] : List Value)[j]? = some u → W.cell? ((⟨b, 0, none⟩ : Addr).add j) = some u := by
  intro j u hu
  rw [add_at]
  match j, hu with
  | 0, hu => simp only [List.getElem?_cons_zero, Option.some.injEq] at hu; subst hu; exact h
  | j + 1, hu => simp at hu
/-- The points of a lap, as a slice of those of the map. -/
def lapVal (g c : Nat) (r : Lap) : Value := .slice (some ⟨g, r.1 * 4, none⟩) (r.2.1 + 1 - r.1) (c - r.1)
def lapVals (g c : Nat) (l : List Lap) : List Value := l.map (lapVal g c)
theorem lapVals_snoc (g c : Nat) (l : List Lap) (r : Lap) : lapVals g c (l ++ [r]) = lapVals g c l ++ [lapVal g c r] := by unfold lapVals; rw [List.map_append]; rfl
theorem take_lap {l : List Lap} {k : Nat} {r : Lap} (h : l[k]? = some r) : l.take (k + 1) = l.take k ++ [r] := by
  rw [List.take_add_one, h]; rfl

set_option maxRecDepth 100000 in
set_option maxHeartbeats 3200000 in
theorem lapsWith_map (g m c base : Nat) (qs : List QP) (w : World) (ha : w.ownsRow base 45 4 (.slice (some ⟨g, 0, none⟩) (m + 1) c) (m + 1) (ptcs (qs.map qp))) (hg : GMap qs) (hm : mapB (qs.map qp) = true) (hn : m + 1 ≤ 1048576) :
    Calls Try.prog 20 #[.slice (some ⟨g, 0, none⟩) (m + 1) c] w fun e w' =>
      (LMap qs → ∃ v : Value, e = .returned (.tuple #[v, .bool true]) ∧ w'.ownsRow w.heap.size 67 1 v (lapsQ qs).length (lapVals g c (lapsQ qs))) ∧
      (¬ LMap qs → e = .returned (.tuple #[.slice none 0 0, .bool false])) ∧ Below w.heap.size w w' := by
  obtain ⟨i0, hi0, hz0, hz1, hz2⟩ := info_parts iLaps
  have hlen : qs.length = m + 1 := by have := own_len ha; rw [List.length_map] at this; exact this
  have hlo := hg.lo
  have hhi := hg.hi
  rw [hlen] at hlo hhi
  have hgl : g < w.heap.size := (ha.lt g rfl).2
  have hcap : m + 1 ≤ c := by
    rcases ha.2 with ⟨hv, h0⟩ | ⟨g, cap, _, hv, _, _, h3, _⟩
    · injection hv with _ h1 h2; omega
    · injection hv with _ h1 h2; omega
  have hcon := iLaps_map g m c base qs w ha hg hm hn
  have hll := lapsQ_len hg
  have hlq : lapsK (dirR qs) m = lapsQ qs := by unfold lapsQ; rw [hlen]; rfl
  have hok : ∀ r ∈ lapsQ qs, LapOK (dirR qs) m r := fun r hr => by rw [← hlq] at hr; exact lapsK_ok _ _ r hr
  have hdr := lapsQ_dirs hg
  have hrows : lapRows (dirR qs) m = (lapsQ qs).map lapRow := by rw [← hlq]; rfl
  rw [hrows] at hcon
  have HC := hide hcon; have HOK := hide hok; have HD := hide hdr
  clear hcon hm hok hdr hlen hlq hrows ha
  obtain ⟨P, hP⟩ : ∃ P, P = (lapsQ qs).length := ⟨_, rfl⟩
  rw [← hP] at hll ⊢
  have HP := Lib.hid hP; clear hP
  go_enter Try.func20, Try.ntmps20
  go_wp2_with fail
  refine (unhide HC).mono ?_
  rintro e w1 ⟨v, bs, rfl, hnest, hbw1⟩
  have hz1w := hbw1.size
  obtain ⟨A1, d1, rfl⟩ := hnest.slice
  have hrl : ((lapsQ qs).map lapRow).length = P := by rw [List.length_map, HP.out]
  rw [hrl] at hnest ⊢
  have HN := hide hnest
  clear hnest hrl
  have HB1 := hide hbw1; clear hbw1
  go_wp2_with fail
  go_loopw [6, 18] (fun v i wr => ∃ (k : Nat) (u : Value), i = .int .i64 (k : Int) ∧ u = v ∧ k ≤ P ∧ Hid (∀ r ∈ (lapsQ qs).take k, r.2.2 ≠ 0) ∧ wr.ownsRow w1.heap.size 67 1 u k (lapVals g c ((lapsQ qs).take k)) ∧ Below w1.heap.size w1 wr) (fun _ i _ => P - (intOf i).toNat)
  case atStart => exact ⟨0, _, rfl, rfl, by omega, hide (fun r h => by simp at h), World.ownsRow_nil _ _ _ _, Below.refl _ _⟩
  case round =>
    obtain ⟨k, u, rfl, rfl, hk, hnz, hown, hbwr⟩ := hrel
    have hzwr := hbwr.size
    by_cases hlt : k < P
    · have hkl : k < (lapsQ qs).length := by rw [← HP.out]; exact hlt
      obtain ⟨r, hr⟩ : ∃ r, (lapsQ qs)[k]? = some r := ⟨_, List.getElem?_eq_getElem hkl⟩
      have hrm : r ∈ lapsQ qs := List.mem_iff_getElem?.2 ⟨_, hr⟩
      have hrr : ((lapsQ qs).map lapRow)[k]? = some (lapRow r) := by rw [List.getElem?_map, hr]; rfl
      obtain ⟨go, b, rfl, -, -, -, hgl2, hbl, hBb, hgb, hoc0, hcells⟩ := (unhide HN).at hrr
      have hc0 := (hbwr.cell (p := ⟨b, 0, none⟩) hbl).trans (hcells 0 (r.1 : Int) rfl).1
      have hc1 := (hbwr.cell (p := ⟨b, 1, none⟩) hbl).trans (hcells 1 (r.2.1 : Int) rfl).1
      have hc2 := (hbwr.cell (p := ⟨b, 2, none⟩) hbl).trans (hcells 2 r.2.2 rfl).1
      rw [show (lapRow r).length = 3 from rfl] at hoc0
      have hoc := (hbwr.cell (p := ⟨go, k, none⟩) hgl2).trans hoc0
      have hbl2 : b < wr.heap.size := by omega
      have hgl3 : go < wr.heap.size := by omega
      have hlo := ((unhide HOK) r hrm).lt
      have hle := ((unhide HOK) r hrm).le
      have hsn := lapVals_snoc g c ((lapsQ qs).take k) r
      rw [← take_lap hr] at hsn
      have hvB : ∀ j, u.ownBlock = some j → w1.heap.size ≤ j := fun j e => (hown.lt j e).1
      have hval : lapVal g c r = .slice (some ⟨g, r.1 * 4, none⟩) (r.2.1 + 1 - r.1) (c - r.1) := rfl
      have hnx : r.2.2 ≠ 0 → ∀ s ∈ (lapsQ qs).take (k + 1), s.2.2 ≠ 0 := fun h s hs => by
        rw [take_lap hr] at hs
        rcases List.mem_append.1 hs with hs | hs
        · exact (unhide hnz) s hs
        · rw [List.mem_singleton.1 hs]; exact h
      have hbad : r.2.2 = 0 → ¬ LMap qs := fun h hl => ((unhide HD).1 hl r hrm) h
      have HSN := Lib.hid hsn; have HNX := hide hnx; have HBAD := hide hbad; have HVAL := Lib.hid hval
      have HO := hide hown; have HV := hide hvB; have HB := hide hbwr
      clear hcells hoc0 hsn hr hrr hkl hnx hbad hown hvB hbwr hval hrm hnz
      generalize lapVal g c r = lv at *
      generalize r.1 = ra at *
      generalize r.2.1 = rb at *
      generalize r.2.2 = rd at *
      by_cases h0 : rd = 0
      · subst h0
        have HNO := Lib.hid ((unhide HBAD) rfl)
        go_wp2_with fail
        go_ret2
        exact ⟨fun h => absurd h HNO.out, fun _ => rfl, (unhide HB1).trans ((unhide HB).mono hz1w)⟩
      · have hs1 : (rd == 0) = false := by simpa using h0
        have hs2 : decide (rd = 0) = false := by simpa using h0
        have t1 : IntKind.i64.wrap ((rb : Int) + 1) = (rb : Int) + 1 := IntWalk.i64_in _ (by omega)
        have t2 : (0 : Int) ≤ (ra : Int) := by omega
        have t3 : (ra : Int) ≤ (rb : Int) + 1 := by omega
        have t4 : (rb : Int) + 1 ≤ (c : Int) := by omega
        have t5 : ((rb : Int) + 1).toNat = rb + 1 := by omega
        have t6 : ¬ c = ra := by omega
        go_upto_region 10 with fail
        go_region_held3 (fun w' => w'.cell? ⟨b, 0, none⟩ = some (.int .i64 (ra : Int)) ∧ w'.cell? ⟨b, 1, none⟩ = some (.int .i64 (rb : Int))) (simp [go_sem, *])
          ((refine step_append_any (by rfl) _ _ _ (by rfl) w1.heap.size 67 i0 _ 1 24 Try.underlying49 hi0 hz0 hz1 hz2 rfl (by omega) u k (lapVals g c ((lapsQ qs).take k)) (by rfl) (World.ownsRow.alloc (own_below (unhide HO) ?p1) _) _ 1 [.slice (some ⟨g, ra * 4, none⟩) (rb + 1 - ra) (c - ra)] (by rfl) (lies_one ?p2) rfl (one_cell rfl) (Nat.le_trans (by omega) maxLen_ge) (by omega) (by first | omega | (simp; omega)) (k + 1) rfl ?_; (case p1 => exact (by repeat (first | with_reducible exact Below.refl _ _ | with_reducible assumption | (with_reducible refine Below.trans ?_ (Below.mono (by assumption) (by first | omega | (simp <;> omega)))) | with_reducible apply Below.drew | with_reducible apply below_drewN | (with_reducible refine Below.alloc ?_ (by first | omega | (simp <;> omega)) _) | (with_reducible refine Below.setCell ?_ (by first | omega | (simp <;> omega)) _)))); (case p2 => simp [go_sem]); intro Ag cap w4 hown4 hgrow; have kw4 := fun o => World.cell?_of_block (a := ⟨b, o, none⟩) (hgrow.block b (by first | omega | (simp; omega)) (fun e => by have hq := (unhide HV) b e.symm; omega))))
        all_goals
          have hb := unhide HB
          have hbz : Below w1.heap.size w1 w4 := Below.grown (show Below w1.heap.size w1 _ from (by repeat (first | with_reducible exact Below.refl _ _ | with_reducible assumption | (with_reducible refine Below.trans ?_ (Below.mono (by assumption) (by first | omega | (simp <;> omega)))) | with_reducible apply Below.drew | with_reducible apply below_drewN | (with_reducible refine Below.alloc ?_ (by first | omega | (simp <;> omega)) _) | (with_reducible refine Below.setCell ?_ (by first | omega | (simp <;> omega)) _)))) hgrow (by first | omega | (simp; omega)) (unhide HV)
          rw [← HVAL.out, ← HSN.out] at hown4
          have HO4 := hide hown4
          have HBZ := hide hbz
          clear hown4 hgrow hb hbz
          go_wp2_with fail
          go_roundw
          case rel => exact ⟨k + 1, _, by go_num, rfl, by omega, hide ((unhide HNX) h0), unhide HO4, unhide HBZ⟩
          case measure => (simp [intOf] <;> omega)
    · obtain rfl : k = P := by omega
      have hall : LMap qs := (unhide HD).2 (fun r hr => (unhide hnz) r (by rw [HP.out, List.take_length]; exact hr))
      have hown' : wr.ownsRow w1.heap.size 67 1 u k (lapVals g c (lapsQ qs)) := by
        have e : (lapsQ qs).take k = lapsQ qs := by rw [HP.out, List.take_length]
        rw [e] at hown
        exact hown
      have HLM := Lib.hid hall
      have HO := hide hown'
      have HB := hide hbwr
      clear hown hown' hbwr hall hnz
      go_wp2
      go_ret2
      exact ⟨fun _ => ⟨_, rfl, (unhide HO).mono hz1w⟩, fun h => absurd HLM.out h, (unhide HB1).trans ((unhide HB).mono hz1w)⟩
end Go.Proofs.Ythccdooacbablab

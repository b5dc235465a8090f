/-
  Chapter 6: CompareWords of the model.
-/
import Derived.Test.YtjggjegjhcpjhaaWz
namespace Go.Proofs.Ytjggjegjhcpjhaa
open Go.RowKit Rm

set_option maxRecDepth 100000 in
set_option maxHeartbeats 1600000 in
theorem woCompare_any (g mm c base g1 n1 c1 g2 c2 : Nat) (qs : List QP) (r s : List Int) (w : World) (ha : w.ownsRow base 73 4 (.slice (some ⟨g, 0, none⟩) (mm + 1) c) (mm + 1) (ptcs (qs.map qp))) (hg : GMap qs)
    (h1 : WCells w g1 n1 r) (h2 : WCells w g2 n1 s) (hn1 : n1 ≤ 1048576) (hcap : n1 ≤ c1) (hrl : r.length = n1) (hr : ∀ k ∈ r, 0 ≤ k ∧ k < (lapsQ qs).length) (hs : ∀ k ∈ s, 0 ≤ k ∧ k < (lapsQ qs).length) (hsl : s.length = n1) :
    Calls Try.prog 70 #[.slice (some ⟨g, 0, none⟩) (mm + 1) c, .slice (some ⟨g1, 0, none⟩) n1 c1, .slice (some ⟨g2, 0, none⟩) n1 c2] w fun e w' => e = .returned (.int .i64 (cwF qs r s n1 0)) ∧ Below w.heap.size w w' := by
  have hll := lapsQ_len hg
  have hsg := fun (k : Nat) (hk : k ≤ n1) (W : World) (hW : Below w.heap.size w W) => woSign_any g mm c base g1 k c1 qs r W (own_below ha hW) hg ((h1.less hk).below hW) (by omega) (by omega) hr
  have HSG := hide hsg; have HW1 := hide h1; have HW2 := hide h2; have HRL := Lib.hid hrl; have HSL := Lib.hid hsl; have HR := hide hr; have HSS := hide hs
  obtain ⟨z, hz⟩ : ∃ z, z = cwF qs r s n1 0 := ⟨_, rfl⟩
  rw [← hz]
  have HZ := Lib.hid hz
  clear hsg h1 h2 hrl hsl hr hs hz ha
  go_enter Try.func70, Try.ntmps70
  go_wp2_with fail
  go_loopw [11] (fun i wr => ∃ k : Nat, i = .int .i64 (k : Int) ∧ k ≤ n1 ∧ Hid (∀ j, j < k → r.getD j 0 = s.getD j 0) ∧ Below w.heap.size w wr) (fun i _ => n1 - (intOf i).toNat)
  case atStart => exact ⟨0, rfl, by omega, hide (fun j h => by omega), Below.refl _ _⟩
  case round =>
    obtain ⟨k, rfl, hk, hpre, hbwr⟩ := hrel
    have hzwr := hbwr.size
    by_cases hlt : k < n1
    · have hw1 := (unhide HW1).below hbwr
      have hw2 := (unhide HW2).below hbwr
      have hd1 := hw1.cel k hlt
      have hd2 := hw2.cel k hlt
      have hgl1 := hw1.lt
      have hgl2 := hw2.lt
      have t1 : (0 : Int) ≤ (k : Int) := by omega
      have t2 : (k : Int) < (n1 : Int) := by omega
      have HB := hide hbwr
      by_cases he : r.getD k 0 = s.getD k 0
      · have hp1 := hide (fun j (hj : j < k + 1) => show r.getD j 0 = s.getD j 0 from by
          rcases Nat.lt_or_ge j k with h1 | h1
          · exact (unhide hpre) j h1
          · obtain rfl : j = k := by omega
            exact he)
        rw [← he] at hd2
        clear he hpre hbwr hw1 hw2
        generalize r.getD k 0 = x at *
        go_wp2_with fail
        have hb := unhide HB
        go_roundw
        case rel => exact ⟨k + 1, by go_num, by omega, hp1, (by repeat (first | with_reducible exact Below.refl _ _ | with_reducible assumption | (with_reducible refine Below.trans ?_ (Below.mono (by assumption) (by first | omega | (simp <;> omega)))) | with_reducible apply Below.drew | with_reducible apply below_drewN | (with_reducible refine Below.alloc ?_ (by first | omega | (simp <;> omega)) _) | (with_reducible refine Below.setCell ?_ (by first | omega | (simp <;> omega)) _)))⟩
        case measure => (simp [intOf] <;> omega)
      · have hcw := cwF_ne (qs := qs) (a := r) (b := s) (k := k) he n1 0 (by omega) (by omega) (fun j _ hj => (unhide hpre) j hj)
        have hsgk := fun W hW => (unhide HSG) k (by omega) W hW
        have hmr : r.getD k 0 ∈ r := by rw [List.getD_eq_getElem?_getD, List.getElem?_eq_getElem (by rw [HRL.out]; exact hlt)]; exact List.getElem_mem _
        have hms : s.getD k 0 ∈ s := by rw [List.getD_eq_getElem?_getD, List.getElem?_eq_getElem (by rw [HSL.out]; exact hlt)]; exact List.getElem_mem _
        have hx := (unhide HR) _ hmr
        have hy := (unhide HSS) _ hms
        have hcmp := fun W => l1Sign_any (r.getD k 0 - s.getD k 0) W
        rw [← cmpI_sign] at hcmp
        have hq1 := sgK_bd (qs := qs) (r := r) k
        have hq2 := cmpI_bd (r.getD k 0) (s.getD k 0)
        rw [Int.mul_comm] at hcw
        have hmw : IntKind.i64.wrap (cmpI (r.getD k 0) (s.getD k 0) * sgK qs r k) = cmpI (r.getD k 0) (s.getD k 0) * sgK qs r k := IntWalk.i64_in _ (by
          have h3 := mul_bd (a := cmpI (r.getD k 0) (s.getD k 0)) (d := sgK qs r k) (A := 1) (D := 1) (by omega) (by omega) (by omega) (by omega)
          omega)
        have hsw : IntKind.i64.wrap (r.getD k 0 - s.getD k 0) = r.getD k 0 - s.getD k 0 := IntWalk.i64_in _ (by omega)
        have hne1 : (r.getD k 0 == s.getD k 0) = false := by simpa using he
        have hne2 : decide (r.getD k 0 = s.getD k 0) = false := by simpa using he
        have HCW := Lib.hid hcw; have HSGK := hide hsgk; have HCMP := hide hcmp
        have t4 : (k : Int) ≤ (c1 : Int) := by omega
        clear hcw hsgk hcmp hw1 hw2 hq1 hq2 hpre hbwr he hx hy hmr hms
        generalize cmpI (r.getD k 0) (s.getD k 0) = cc at *
        generalize sgK qs r k = sg at *
        generalize r.getD k 0 = x at *
        generalize s.getD k 0 = y at *
        go_upto_region 5 with fail
        go_region_held3 (fun w' => w'.cell? ⟨g2, k, none⟩ = some (.int .i64 y)) (simp [go_sem, *])
          (first
            | (go_at_call 67; (with_reducible refine ((unhide HSGK) _ ((unhide HB).trans ?pc)).mono ?_); (case pc => exact (show Below wr.heap.size wr _ from (by repeat (first | with_reducible exact Below.refl _ _ | with_reducible assumption | (with_reducible refine Below.trans ?_ (Below.mono (by assumption) (by first | omega | (simp <;> omega)))) | with_reducible apply Below.drew | with_reducible apply below_drewN | (with_reducible refine Below.alloc ?_ (by first | omega | (simp <;> omega)) _) | (with_reducible refine Below.setCell ?_ (by first | omega | (simp <;> omega)) _)))).mono (unhide HB).size); rintro e w5 ⟨rfl, hbw5⟩; have hz5 := hbw5.size; (try simp at hz5); (skip; (try ((have kw5g1X0 := (bnew hbw5) (g1) ?pf); (case pf => (first | omega | (simp; done) | (simp; omega))); obtain ⟨kcw5g1X0, kfw5g1X0, klw5g1X0⟩ := kw5g1X0)); (try ((have kw5g2X0 := (bnew hbw5) (g2) ?pf); (case pf => (first | omega | (simp; done) | (simp; omega))); obtain ⟨kcw5g2X0, kfw5g2X0, klw5g2X0⟩ := kw5g2X0))))
            | (go_at_call 107; (with_reducible refine ((unhide HCMP) _).mono ?_); rintro e w6 ⟨rfl, rfl⟩))
        all_goals
          go_wp2_with fail
          have hb := unhide HB
          go_ret
          exact ⟨by rw [HZ.out, HCW.out]; rfl, hb.trans ((show Below wr.heap.size wr _ from (by repeat (first | with_reducible exact Below.refl _ _ | with_reducible assumption | (with_reducible refine Below.trans ?_ (Below.mono (by assumption) (by first | omega | (simp <;> omega)))) | with_reducible apply Below.drew | with_reducible apply below_drewN | (with_reducible refine Below.alloc ?_ (by first | omega | (simp <;> omega)) _) | (with_reducible refine Below.setCell ?_ (by first | omega | (simp <;> omega)) _)))).mono hb.size)⟩
    · obtain rfl : k = n1 := by omega
      have hcw : cwF qs r s k 0 = 0 := cwF_eq k 0 fun j _ hj => (unhide hpre) j (by omega)
      obtain rfl : z = 0 := HZ.out.trans hcw
      have HB := hide hbwr
      clear hbwr hpre hcw
      go_wp2_with fail
      go_ret
      exact ⟨rfl, unhide HB⟩

set_option maxRecDepth 100000 in
set_option maxHeartbeats 1600000 in
theorem sCompareWords_any (A : Option Addr) (n c base : Nat) (ps : List Pt) (g1 n1 c1 b1 : Nat) (r : List Int) (g2 n2 c2 b2 : Nat) (s : List Int) (w : World) (ha : w.ownsRow base 73 4 (.slice A n c) n (ptcs ps)) (hn : n ≤ 1048576)
    (h1 : w.ownsRow b1 3 1 (.slice (some ⟨g1, 0, none⟩) n1 c1) n1 (ints r)) (hn1 : n1 ≤ 1048576) (h2 : w.ownsRow b2 3 1 (.slice (some ⟨g2, 0, none⟩) n2 c2) n2 (ints s)) (hn2 : n2 ≤ 1048576) :
    Calls Try.prog 32 #[.slice A n c, .slice (some ⟨g1, 0, none⟩) n1 c1, .slice (some ⟨g2, 0, none⟩) n2 c2] w fun e w' => e = .returned (.tuple #[.int .i64 (cwI ps r s), .bool (cwZ ps r s)]) ∧ Below w.heap.size w w' := by
  have hrl : r.length = n1 := by have := h1.1; rw [ints_len] at this; omega
  have hsl : s.length = n2 := by have := h2.1; rw [ints_len] at this; omega
  have hW1 := WCells.own h1
  have hW2 := WCells.own h2
  have hwg1 := fun W hW hw => woGood_any A n c base ps g1 n1 c1 r W hW hn hw hn1 hrl
  have hwg2 := fun W hW hw => woGood_any A n c base ps g2 n2 c2 s W hW hn hw hn2 hsl
  have hcz0 : cwZ ps r s = (wsB ps [r] && (wsB ps [s] && decide (r.length = s.length))) := by
    unfold cwZ
    rw [wsB_two, wsB_one, wsB_one]
    cases lmB ps <;> simp [Bool.and_assoc]
  have HA := hide ha; have HW1 := hide hW1; have HW2 := hide hW2
  cases hz1 : wsB ps [r] with
  | false =>
    rw [hz1] at hcz0 hwg1
    have hcz : cwZ ps r s = false := hcz0
    rw [cwI_no hcz, hcz]
    have HG1 := hide hwg1
    clear hcz0 hcz hwg1 hwg2 hz1 ha h1 h2 hrl hsl hW1 hW2
    go_enter Try.func32, Try.ntmps32
    go_wp2_with (go_at_call 66; (with_reducible refine ((unhide HG1) _ (unhide HA) (unhide HW1)).mono ?_); rintro e w1 ⟨rfl, hbw1⟩)
    go_ret2
    exact ⟨rfl, (by repeat (first | with_reducible exact Below.refl _ _ | with_reducible assumption | (with_reducible refine Below.trans ?_ (Below.mono (by assumption) (by first | omega | (simp <;> omega)))) | with_reducible apply Below.drew | with_reducible apply below_drewN | (with_reducible refine Below.alloc ?_ (by first | omega | (simp <;> omega)) _) | (with_reducible refine Below.setCell ?_ (by first | omega | (simp <;> omega)) _)))⟩
  | true =>
    rw [hz1, Bool.true_and] at hcz0
    rw [hz1] at hwg1
    have HG1 := hide hwg1
    cases hz2 : wsB ps [s] with
    | false =>
      rw [hz2] at hcz0 hwg2
      have hcz : cwZ ps r s = false := hcz0
      rw [cwI_no hcz, hcz]
      have HG2 := hide hwg2
      clear hcz0 hcz hwg1 hwg2 hz1 hz2 ha h1 h2 hrl hsl hW1 hW2
      go_enter Try.func32, Try.ntmps32
      go_wp2_with (go_at_call 66; first
        | ((with_reducible refine ((unhide HG1) _ (unhide HA) (unhide HW1)).mono ?_); rintro e w1 ⟨rfl, hbw1⟩; have hz1 := hbw1.size)
        | ((with_reducible refine ((unhide HG2) _ (own_below (unhide HA) hbw1) ((unhide HW2).below hbw1)).mono ?_); rintro e w2 ⟨rfl, hbw2⟩))
      go_ret2
      exact ⟨rfl, (by repeat (first | with_reducible exact Below.refl _ _ | with_reducible assumption | (with_reducible refine Below.trans ?_ (Below.mono (by assumption) (by first | omega | (simp <;> omega)))) | with_reducible apply Below.drew | with_reducible apply below_drewN | (with_reducible refine Below.alloc ?_ (by first | omega | (simp <;> omega)) _) | (with_reducible refine Below.setCell ?_ (by first | omega | (simp <;> omega)) _)))⟩
    | true =>
      rw [hz2, Bool.true_and] at hcz0
      rw [hz2] at hwg2
      have HG2 := hide hwg2
      by_cases hll : n1 = n2
      · subst hll
        have hcz : cwZ ps r s = true := by rw [hcz0]; exact decide_eq_true (by omega)
        have hz' := hz1
        have hz'' := hz2
        rw [wsB_one, Bool.and_eq_true] at hz' hz''
        obtain ⟨qs, hq, hl⟩ := lmB_of hz'.1
        have hmb : mapB ps = true := by rw [hq]; exact hl.toGMap.mapB
        obtain ⟨g, mm, qs', hAg, hnm, hq', hg', hlen⟩ := own_form ha hmb
        obtain rfl : qs = qs' := by have := congrArg dec (hq.symm.trans hq'); rwa [dec_qp, dec_qp] at this
        subst hAg hnm hq
        have hwr := wdB_yes.1 hz'.2
        have hws := wdB_yes.1 hz''.2
        rw [dec_qp] at hwr hws
        rw [cwI_yes hcz, hcz, hrl]
        have hcap : n1 ≤ c1 := by
          rcases h1.2 with ⟨hv, h0⟩ | ⟨g, cap, _, hv, _, _, h3, _⟩
          · injection hv with _ h1 h2; omega
          · injection hv with _ h1 h2; omega
        have hwc := fun W hW hw1 hw2 => woCompare_any g mm c base g1 n1 c1 g2 c2 qs r s W hW hg' hw1 hw2 hn1 hcap hrl hwr.2 hws.2 hsl
        have HWC := hide hwc
        clear hcz0 hcz hwg1 hwg2 hz1 hz2 ha h1 h2 hrl hsl hW1 hW2 hz' hz'' hmb hq' hg' hlen hwr hws hl hwc
        generalize cwF qs r s n1 0 = u at *
        go_enter Try.func32, Try.ntmps32
        go_wp2_with (first
          | (go_at_call 66; first
            | ((with_reducible refine ((unhide HG1) _ (unhide HA) (unhide HW1)).mono ?_); rintro e w1 ⟨rfl, hbw1⟩; have hz1 := hbw1.size)
            | ((with_reducible refine ((unhide HG2) _ (own_below (unhide HA) hbw1) ((unhide HW2).below hbw1)).mono ?_); rintro e w2 ⟨rfl, hbw2⟩; have hz2 := hbw2.size))
          | (go_at_call 70; (with_reducible refine ((unhide HWC) _ (own_below (own_below (unhide HA) hbw1) hbw2) (((unhide HW1).below hbw1).below hbw2) (((unhide HW2).below hbw1).below hbw2)).mono ?_); rintro e w3 ⟨rfl, hbw3⟩))
        go_ret2
        exact ⟨rfl, (by repeat (first | with_reducible exact Below.refl _ _ | with_reducible assumption | (with_reducible refine Below.trans ?_ (Below.mono (by assumption) (by first | omega | (simp <;> omega)))) | with_reducible apply Below.drew | with_reducible apply below_drewN | (with_reducible refine Below.alloc ?_ (by first | omega | (simp <;> omega)) _) | (with_reducible refine Below.setCell ?_ (by first | omega | (simp <;> omega)) _)))⟩
      · have hcz : cwZ ps r s = false := by rw [hcz0]; exact decide_eq_false (by omega)
        rw [cwI_no hcz, hcz]
        have d1 : ¬ (n1 : Int) = (n2 : Int) := by omega
        clear hcz0 hcz hwg1 hwg2 hz1 hz2 ha h1 h2 hrl hsl hW1 hW2 hll
        go_enter Try.func32, Try.ntmps32
        go_wp2_with (go_at_call 66; first
          | ((with_reducible refine ((unhide HG1) _ (unhide HA) (unhide HW1)).mono ?_); rintro e w1 ⟨rfl, hbw1⟩; have hz1 := hbw1.size)
          | ((with_reducible refine ((unhide HG2) _ (own_below (unhide HA) hbw1) ((unhide HW2).below hbw1)).mono ?_); rintro e w2 ⟨rfl, hbw2⟩))
        go_ret2
        exact ⟨rfl, (by repeat (first | with_reducible exact Below.refl _ _ | with_reducible assumption | (with_reducible refine Below.trans ?_ (Below.mono (by assumption) (by first | omega | (simp <;> omega)))) | with_reducible apply Below.drew | with_reducible apply below_drewN | (with_reducible refine Below.alloc ?_ (by first | omega | (simp <;> omega)) _) | (with_reducible refine Below.setCell ?_ (by first | omega | (simp <;> omega)) _)))⟩
end Go.Proofs.Ytjggjegjhcpjhaa

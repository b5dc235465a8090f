/-
  Chapter 6: woMap of the model; lapsWithSlopes at any argument; IsLapMap of both.
-/
import Derived.Test.YthccdooacbablabWa
namespace Go.Proofs.Ythccdooacbablab
open Go.RowKit Rm

theorem lmB_bad {qs : List QP} (hg : GMap qs) {k : Nat} (hk : k + 1 < qs.length) (h : dirR qs k = 0) : lmB (qs.map qp) = false := by
  cases hz : lmB (qs.map qp) with
  | false => rfl
  | true => exact absurd h (((lmB_yes hg).1 hz).dirs k hk)

set_option maxRecDepth 100000 in
set_option maxHeartbeats 1600000 in
theorem woMap_any (A : Option Addr) (n c base : Nat) (ps : List Pt) (w : World) (ha : w.ownsRow base 45 4 (.slice A n c) n (ptcs ps)) (hn : n ≤ 1048576) :
    Calls Try.prog 14 #[.slice A n c] w fun e w' => e = .returned (.bool (lmB ps)) ∧ Below w.heap.size w w' := by
  have hmap := imGood_any A n c base ps w ha hn
  rcases hm : mapB ps with _ | _
  · rw [hm] at hmap
    rw [lmB_no hm]
    have HM := hide hmap; clear hmap hm ha
    go_enter Try.func14, Try.ntmps14
    go_wp2_with (go_at_call 25; (with_reducible refine (unhide HM).mono ?_); rintro e w1 ⟨rfl, hbw1⟩)
    go_ret
    exact ⟨rfl, hbw1⟩
  · obtain ⟨g, m, qs, rfl, rfl, rfl, hg, hlen⟩ := own_form ha hm
    rw [hm] at hmap
    obtain ⟨z, hz⟩ : ∃ z, z = lmB (qs.map qp) := ⟨_, rfl⟩
    rw [← hz]
    have hhi := hg.hi
    rw [hlen] at hhi
    have HZ := Lib.hid hz; have HM := hide hmap; have HA := hide ha; have HL := Lib.hid hlen
    clear hz hmap hm ha hlen
    go_enter Try.func14, Try.ntmps14
    go_wp2_with (go_at_call 25; (with_reducible refine (unhide HM).mono ?_); rintro e w1 ⟨rfl, hbw1⟩)
    refine (imSlopes_map g (m + 1) c base qs w1 (own_below (unhide HA) hbw1) hg).mono ?_
    rintro e w2 ⟨v1, rfl, ho1, hbw2⟩
    rw [Nat.add_sub_cancel] at ho1
    obtain ⟨A1, c1, rfl⟩ := own_slice ho1
    have HS1 := hide ho1
    have hbA := hbw1.trans (hbw2.mono hbw1.size)
    have HBA := hide hbA
    have hzA := hbA.size
    clear ho1 hbw1 hbw2 hbA
    go_wp2_with fail
    go_loopw [11] (fun i wr => ∃ k : Nat, i = .int .i64 (k : Int) ∧ k ≤ m ∧ Hid (∀ j, j < k → dirR qs j ≠ 0) ∧ Below w2.heap.size w2 wr) (fun i _ => m - (intOf i).toNat)
    case atStart => exact ⟨0, rfl, by omega, hide (fun j h => by omega), Below.refl _ _⟩
    case round =>
      obtain ⟨k, rfl, hk, hnz, hbwr⟩ := hrel
      have hzwr := hbwr.size
      by_cases hlt : k < m
      · have hk1 : k + 1 < qs.length := by rw [HL.out]; omega
        have hfa : fAt ((slopesK qs m).map qf) k = ((slopeR (qAt qs k) (qAt qs (k + 1))).num, ((slopeR (qAt qs k) (qAt qs (k + 1))).den : Int)) := by
          unfold fAt slopesK
          simp [hlt, qf]
        obtain ⟨g1, rfl, hg1, _, f0, f1⟩ := frs_cells (own_below (unhide HS1) hbwr) hlt hfa
        have hsg : (slopeR (qAt qs k) (qAt qs (k + 1))).num.sign = dirR qs k := slope_sign (hg.inc k hk1)
        have hnx : dirR qs k ≠ 0 → ∀ j, j < k + 1 → dirR qs j ≠ 0 := fun h j hj => by
          rcases Nat.lt_or_ge j k with h1 | h1
          · exact (unhide hnz) j h1
          · obtain rfl : j = k := by omega
            exact h
        have hbad : dirR qs k = 0 → z = false := fun h => by rw [HZ.out]; exact lmB_bad hg hk1 h
        have HSG := Lib.hid hsg; have HNX := hide hnx; have HBAD := hide hbad; have HB := hide hbwr
        clear hfa hsg hnx hbad hbwr hnz
        generalize (slopeR (qAt qs k) (qAt qs (k + 1))).num = sx at *
        generalize ((slopeR (qAt qs k) (qAt qs (k + 1))).den : Int) = sy at *
        by_cases h0 : sx = 0
        · have hd0 : dirR qs k = 0 := by rw [← HSG.out, h0]; rfl
          obtain rfl := (unhide HBAD) hd0
          subst h0
          clear hd0
          go_wp2_with fail
          have hb := unhide HB
          have hbA := unhide HBA
          go_ret
          exact ⟨rfl, (by repeat (first | with_reducible exact Below.refl _ _ | with_reducible assumption | (with_reducible refine Below.trans ?_ (Below.mono (by assumption) (by first | omega | (simp <;> omega)))) | with_reducible apply Below.drew | with_reducible apply below_drewN | (with_reducible refine Below.alloc ?_ (by first | omega | (simp <;> omega)) _) | (with_reducible refine Below.setCell ?_ (by first | omega | (simp <;> omega)) _)))⟩
        · have hd0 : dirR qs k ≠ 0 := by rw [← HSG.out]; exact fun h => h0 (Int.sign_eq_zero_iff_zero.1 h)
          have HN1 := hide ((unhide HNX) hd0)
          have hs1 : (sx == 0) = false := by simpa using h0
          have hs2 : decide (sx = 0) = false := by simpa using h0
          clear hd0
          go_wp2_with fail
          have hb := unhide HB
          go_roundw
          case rel => exact ⟨k + 1, by go_num, by omega, HN1, (by repeat (first | with_reducible exact Below.refl _ _ | with_reducible assumption | (with_reducible refine Below.trans ?_ (Below.mono (by assumption) (by first | omega | (simp <;> omega)))) | with_reducible apply Below.drew | with_reducible apply below_drewN | (with_reducible refine Below.alloc ?_ (by first | omega | (simp <;> omega)) _) | (with_reducible refine Below.setCell ?_ (by first | omega | (simp <;> omega)) _)))⟩
          case measure => (simp [intOf] <;> omega)
      · obtain rfl : k = m := by omega
        obtain rfl : z = true := by
          rw [HZ.out]
          exact (lmB_yes hg).2 ⟨hg, fun j hj => (unhide hnz) j (by have := HL.out; omega)⟩
        have HB := hide hbwr
        clear hbwr
        go_wp2_with fail
        have hb := unhide HB
        have hbA := unhide HBA
        go_ret
        exact ⟨rfl, (by repeat (first | with_reducible exact Below.refl _ _ | with_reducible assumption | (with_reducible refine Below.trans ?_ (Below.mono (by assumption) (by first | omega | (simp <;> omega)))) | with_reducible apply Below.drew | with_reducible apply below_drewN | (with_reducible refine Below.alloc ?_ (by first | omega | (simp <;> omega)) _) | (with_reducible refine Below.setCell ?_ (by first | omega | (simp <;> omega)) _)))⟩

theorem lapsWith_any (A : Option Addr) (n c base : Nat) (ps : List Pt) (w : World) (ha : w.ownsRow base 45 4 (.slice A n c) n (ptcs ps)) (hn : n ≤ 1048576) :
    Calls Try.prog 20 #[.slice A n c] w fun e w' =>
      (lmB ps = false → e = .returned (.tuple #[.slice none 0 0, .bool false])) ∧
      (∀ (g : Nat) (qs : List QP), A = some ⟨g, 0, none⟩ → ps = qs.map qp → LMap qs → ∃ v : Value, e = .returned (.tuple #[v, .bool true]) ∧ w'.ownsRow w.heap.size 67 1 v (lapsQ qs).length (lapVals g c (lapsQ qs))) ∧
      Below w.heap.size w w' := by
  rcases hm : mapB ps with _ | _
  · have hl := iLapsOf_any A n c base ps w ha hn
    rw [hm, lapF_no hm] at hl
    have HM := hide hl; clear hl
    obtain ⟨Z, hZ⟩ : ∃ Z : Prop, Z = (lmB ps = false) := ⟨_, rfl⟩
    obtain ⟨Y, hY⟩ : ∃ Y : Nat → List QP → Prop, Y = fun g qs => A = some ⟨g, 0, none⟩ → ps = qs.map qp → ¬ LMap qs := ⟨_, rfl⟩
    have hno : ∀ qs : List QP, ps = qs.map qp → ¬ LMap qs := fun qs h hq => by
      subst h
      rw [hq.toGMap.mapB] at hm
      cases hm
    have HNO := hide hno
    clear hno hm ha hZ hY Z Y
    refine Calls.mono (R := fun e w' => e = .returned (.tuple #[.slice none 0 0, .bool false]) ∧ Below w.heap.size w w') ?_ fun e w' h => ⟨fun _ => h.1, fun g qs _ h2 h3 => absurd h3 ((unhide HNO) qs h2), h.2⟩
    go_enter Try.func20, Try.ntmps20
    go_wp2_with (go_at_call 31; (with_reducible refine (unhide HM).mono ?_); rintro e w1 ⟨⟨A1, d1, b1, rfl, hn1⟩, hbw1⟩)
    go_ret2
    exact ⟨rfl, hbw1⟩
  · obtain ⟨g, m, qs, rfl, rfl, rfl, hg, hlen⟩ := own_form ha hm
    refine (lapsWith_map g m c base qs w ha hg hm hn).mono ?_
    rintro e w' ⟨h1, h2, h3⟩
    refine ⟨fun hz => h2 fun hl => by rw [hl.lmB] at hz; (cases hz), fun g' qs' e1 e2 hl => ?_, h3⟩
    obtain rfl : g = g' := by injection e1 with e1; exact (Addr.mk.inj e1).1
    obtain rfl : qs = qs' := by have := congrArg dec e2; rwa [dec_qp, dec_qp] at this
    exact h1 hl

end Go.Proofs.Ythccdooacbablab

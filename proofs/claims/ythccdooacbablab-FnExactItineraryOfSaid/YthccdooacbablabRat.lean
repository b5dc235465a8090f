/-
  Chapter 1: contracts of the functions on fractions, of the program and of the model: each answers what the arithmetic says, and makes at most new memory.
-/
import Derived.Test.YthccdooacbablabRows
import Derived.Test.YthccdooacbablabMath
import Derived.Test.YthccdooacbablabKit
import Derived.WalkKit
import Derived.WalkSpells
import Derived.WalkLawsBesides
import Derived.Lib.Hide
import Derived.BigQuiet
import Derived.Deep.RegionHeld3
import Derived.RegionTactic
import Derived.ChangeAlike
namespace Go.Proofs.Ythccdooacbablab
open Go.RowKit Rm

set_option maxHeartbeats 400000 in
theorem raCommon_any (a b : Int) (w : World) (ha : 0 ≤ a) (ha' : a ≤ 9223372036854775807) (hb : 0 ≤ b) (hb' : b ≤ 9223372036854775807) :
    Calls Try.prog 41 #[.int .i64 a, .int .i64 b] w fun e w' => e = .returned (.int .i64 (G a b)) ∧ w = w' := by
  go_enter Try.func41, Try.ntmps41
  go_wp2
  go_loop [0, 1] (fun x y => ∃ p q : Int, x = .int .i64 p ∧ y = .int .i64 q ∧ 0 ≤ p ∧ p ≤ 9223372036854775807 ∧ 0 ≤ q ∧ q ≤ 9223372036854775807 ∧ G p q = G a b) (fun _ y => (intOf y).toNat)
  case atStart => exact ⟨a, b, rfl, rfl, ha, ha', hb, hb', rfl⟩
  case round =>
    obtain ⟨p, q, rfl, rfl, h1, h2, h3, h4, h5⟩ := hrel
    have H5 := Lib.hid h5
    clear h5 
    by_cases hq : 0 < q
    · go_wp2
      go_round
      case rel => exact ⟨q, p % q, rfl, rfl, h3, h4, Int.emod_nonneg _ (by omega), by have := Int.emod_lt_of_pos p hq; omega, by rw [← H5.out, G_comm, G_emod, G_comm]⟩
      case measure => 
        have := Int.emod_lt_of_pos p hq
        have := Int.emod_nonneg p (b := q) (by omega)
        simp [intOf]; omega
    · go_wp2
      obtain rfl : q = 0 := by omega
      go_ret
      exact ⟨by rw [← H5.out, G_zero_right h1]; rfl, rfl⟩

set_option maxHeartbeats 400000 in
theorem commonDivisor_any (a b : Int) (w : World) (ha : -9223372036854775807 ≤ a) (ha' : a ≤ 9223372036854775807) (hb : 1 ≤ b) (hb' : b ≤ 9223372036854775807) :
    Calls Try.prog 62 #[.int .i64 a, .int .i64 b] w fun e w' => e = .returned (.int .i64 (G a b)) ∧ w = w' := by
  by_cases hn : a < 0
  all_goals
    go_enter Try.func62, Try.ntmps62
    go_wp2
    go_loop [0, 1] (fun x y => ∃ p q : Int, x = .int .i64 p ∧ y = .int .i64 q ∧ 0 ≤ p ∧ p ≤ 9223372036854775807 ∧ 0 ≤ q ∧ q ≤ 9223372036854775807 ∧ G p q = G a b) (fun x _ => (intOf x).toNat)
    case atStart => exact ⟨_, b, rfl, rfl, by omega, by omega, by omega, hb', by first | rw [G_neg_left] | rfl⟩
    case round =>
      obtain ⟨p, q, rfl, rfl, h1, h2, h3, h4, h5⟩ := hrel
      have H5 := Lib.hid h5
      clear h5 
      by_cases hq : 0 < p
      · have hp0 : (p != 0) = true := by rw [bne_iff_ne]; omega
        go_wp2
        go_round
        case rel => exact ⟨q % p, p, rfl, rfl, Int.emod_nonneg _ (by omega), by have := Int.emod_lt_of_pos q hq; omega, h1, h2, by rw [← H5.out, G_emod]⟩
        case measure => 
          have := Int.emod_lt_of_pos q hq
          have := Int.emod_nonneg q (b := p) (by omega)
          simp [intOf]; omega
      · obtain rfl : p = 0 := by omega
        go_wp2
        go_ret
        exact ⟨by rw [← H5.out, G_zero_left h3]; rfl, rfl⟩


set_option maxHeartbeats 400000 in
theorem l1In_any (n lo hi : Int) (w : World) :
    Calls Try.prog 16 #[.int .i64 n, .int .i64 lo, .int .i64 hi] w fun e w' => e = .returned (.bool (inB lo hi n)) ∧ w = w' := by
  by_cases h1 : lo ≤ n
  · have h2 : inB lo hi n = decide (n ≤ hi) := by simp [inB, h1]
    rw [h2]; clear h2
    go_enter Try.func16, Try.ntmps16
    go_wp2
    go_ret
    exact ⟨rfl, rfl⟩
  · have h2 : inB lo hi n = false := by simp [inB, h1]
    rw [h2]; clear h2
    go_enter Try.func16, Try.ntmps16
    go_wp2
    go_ret
    exact ⟨rfl, rfl⟩
theorem l1In_yes {n lo hi : Int} (h : lo ≤ n ∧ n ≤ hi) (w : World) :
    Calls Try.prog 16 #[.int .i64 n, .int .i64 lo, .int .i64 hi] w fun e w' => e = .returned (.bool true) ∧ w = w' := by
  have := l1In_any n lo hi w; rwa [inB_yes h] at this
theorem l1In_no {n lo hi : Int} (h : ¬ (lo ≤ n ∧ n ≤ hi)) (w : World) :
    Calls Try.prog 16 #[.int .i64 n, .int .i64 lo, .int .i64 hi] w fun e w' => e = .returned (.bool false) ∧ w = w' := by
  have := l1In_any n lo hi w; rwa [inB_no h] at this

set_option maxHeartbeats 400000 in
theorem l1Most_any (a b : Int) (w : World) :
    Calls Try.prog 51 #[.int .i64 a, .int .i64 b] w fun e w' => e = .returned (.int .i64 (max a b)) ∧ w = w' := by
  by_cases h1 : b < a
  · rw [show max a b = a by omega]
    go_enter Try.func51, Try.ntmps51
    go_wp2
    go_ret
    exact ⟨rfl, rfl⟩
  · rw [show max a b = b by omega]
    go_enter Try.func51, Try.ntmps51
    go_wp2
    go_ret
    exact ⟨rfl, rfl⟩
set_option maxHeartbeats 400000 in
theorem l1Abs_any (n : Int) (w : World) (h : -9223372036854775807 ≤ n) (h' : n ≤ 9223372036854775807) :
    Calls Try.prog 42 #[.int .i64 n] w fun e w' => e = .returned (.int .i64 (sg n n)) ∧ w = w' := by
  rw [show sg n n = max n (-n) by unfold sg; split <;> omega]
  go_enter Try.func42, Try.ntmps42
  go_wp2_with (go_at_call 51; refine (l1Most_any _ _ _).mono ?_; rintro e w' ⟨rfl, rfl⟩)
  go_ret
  exact ⟨rfl, rfl⟩
set_option maxHeartbeats 400000 in
theorem isRat_any (n d : Int) (w : World) :
    Calls Try.prog 59 #[.agg #[.int .i64 n, .int .i64 d]] w fun e w' => e = .returned (.bool (good n d)) ∧ Below w.heap.size w w' := by
  by_cases h1 : 1 ≤ d ∧ d ≤ 1000000000 ∧ -1000000000 ≤ n ∧ n ≤ 1000000000
  · rw [good_in h1]
    obtain ⟨h1, h2, h3, h4⟩ := h1
    go_enter Try.func59, Try.ntmps59
    go_wp2_with (go_at_call 62; refine (commonDivisor_any _ _ _ (by omega) (by omega) (by omega) (by omega)).mono ?_; rintro e w' ⟨rfl, rfl⟩)
    go_ret
    exact ⟨rfl, (Below.refl _ _).alloc (Nat.le_refl _) _⟩
  · rw [good_false h1]
    go_enter Try.func59, Try.ntmps59
    go_wp2_with fail
    all_goals
      go_ret
      exact ⟨rfl, (Below.refl _ _).alloc (Nat.le_refl _) _⟩

set_option maxHeartbeats 400000 in
theorem raGood_any (n d : Int) (w : World) :
    Calls Try.prog 27 #[.agg #[.int .i64 n, .int .i64 d]] w fun e w' => e = .returned (.bool (good n d)) ∧ Below w.heap.size w w' := by
  have hB : ∀ k, Below w.heap.size w ((w.alloc (.cells #[.int .i64 n, .int .i64 d] 31)).drewN k) := fun k => below_drewN ((Below.refl _ _).alloc (Nat.le_refl _) _) k
  have HB := Lib.hid hB; clear hB
  by_cases h1 : 1 ≤ d ∧ d ≤ 1000000000
  · obtain ⟨h1, h2⟩ := h1
    by_cases h3 : -1000000000 ≤ n ∧ n ≤ 1000000000
    · rw [good_in ⟨h1, h2, h3.1, h3.2⟩]
      obtain ⟨h3, h4⟩ := h3
      have hs : 0 ≤ sg n n ∧ sg n n ≤ 1000000000 := by unfold sg; split <;> omega
      have hG : G (sg n n) d = G n d := by unfold sg; split; rw [G_neg_left]; rfl
      have HG := Lib.hid hG; clear hG
      obtain ⟨hs1, hs2⟩ := hs
      go_enter Try.func27, Try.ntmps27
      go_wp2_with fail
      go_quiet ((first | (go_at_call 16; exact quiet_left (l1In_yes (by omega) _)) | (go_at_call 42; exact quiet_left (l1Abs_any _ _ (by omega) (by omega))) | (go_at_call 41; exact quiet_left (raCommon_any _ _ _ (by omega) (by omega) (by omega) (by omega)))))
      go_wp2
      go_ret
      exact ⟨by rw [HG.out]; rfl, HB.out _⟩
    · rw [good_false (by omega)]
      go_enter Try.func27, Try.ntmps27
      go_wp2_with fail
      go_quiet ((first | (go_at_call 16; first | exact quiet_left (l1In_yes (by omega) _) | exact quiet_left (l1In_no (by omega) _))))
      go_wp2
      go_ret
      exact ⟨rfl, HB.out _⟩
  · rw [good_false (by omega)]
    go_enter Try.func27, Try.ntmps27
    go_wp2_with fail
    go_quiet ((go_at_call 16; exact quiet_left (l1In_no (by omega) _)))
    go_wp2
    go_ret
    exact ⟨rfl, HB.out _⟩


theorem ret_rat {k : IntKind} {a b c d : Int} {x y : Bool} (h1 : a = b) (h2 : c = d) (h3 : x = y) : Ending.returned (.tuple #[.agg #[.int k a, .int k c], .bool x]) = .returned (.tuple #[.agg #[.int k b, .int k d], .bool y]) := by rw [h1, h2, h3]


set_option maxHeartbeats 400000 in
theorem reduceRat_neg (n d : Int) (w : World) (h1 : -9223372036854775807 ≤ n) (h2 : n ≤ 9223372036854775807) (h3 : -9223372036854775807 ≤ d) (h4 : d < 0) :
    Calls Try.prog 72 #[.int .i64 n, .int .i64 d] w fun e w' => e = .returned (.tuple #[.agg #[.int .i64 (rN n d), .int .i64 (rD n d)], .bool (mok n d)]) ∧ Below w.heap.size w w' := by
  have hg := G_pos (a := -n) (b := -d) (by omega)
  have hg' := G_le_right (a := -n) (b := -d) (by omega)
  have hN : wrap64 (-(n.tdiv (G (-n) (-d)))) = mN n d := by
    rw [G_neg_left, G_neg_right, ← Int.neg_tdiv, ← sg_neg h4, tdiv_N]
    exact IntWalk.wrap64_in _ (by have := mN_bound (n := n) (d := d) (by omega) 9223372036854775807 (by omega) (by omega); omega)
  have hD : wrap64 (-(d.tdiv (G (-n) (-d)))) = mD n d := by
    rw [G_neg_left, G_neg_right, ← Int.neg_tdiv, ← sg_neg h4, tdiv_D]
    exact IntWalk.wrap64_in _ (by have := mD_bound (n := n) (d := d) (by omega) 9223372036854775807 (by omega) (by omega); omega)
  have HN := Lib.hid hN; have HD := Lib.hid hD; clear hN hD
  cases hk : mok n d with
  | true =>
    have hkt := mok_true hk
    have hrN : rN n d = mN n d := by simp [rN, hk]
    have hrD : rD n d = mD n d := by simp [rD, hk]
    rw [hrN, hrD]; clear hrN hrD hk
    generalize mN n d = x at *
    generalize mD n d = y at *
    obtain ⟨k1, k2, k3⟩ := hkt
    go_enter Try.func72, Try.ntmps72
    go_wp2_with (go_at_call 62; refine (commonDivisor_any _ _ _ (by omega) (by omega) (by omega) (by omega)).mono ?_; rintro e w' ⟨rfl, rfl⟩)
    go_region
    simp only [HN.out, HD.out]
    go_wp2
    exact bodyPost_ret (v := .tuple #[.agg #[.int .i64 x, .int .i64 y], .bool true]) (by simp [results, Try.results72, go_sem]) rfl ⟨rfl, (by repeat (first | with_reducible exact Below.refl _ _ | with_reducible assumption | (with_reducible refine Below.trans ?_ (Below.mono (by assumption) (by first | omega | (simp <;> omega)))) | with_reducible apply Below.drew | with_reducible apply below_drewN | (with_reducible refine Below.alloc ?_ (by first | omega | (simp <;> omega)) _) | (with_reducible refine Below.setCell ?_ (by first | omega | (simp <;> omega)) _)))⟩
  | false =>
    have hkt := mok_false hk (by omega)
    have hrN : rN n d = 0 := by simp [rN, hk]
    have hrD : rD n d = 0 := by simp [rD, hk]
    rw [hrN, hrD]; clear hrN hrD hk
    generalize mN n d = x at *
    generalize mD n d = y at *
    go_enter Try.func72, Try.ntmps72
    go_wp2_with (go_at_call 62; refine (commonDivisor_any _ _ _ (by omega) (by omega) (by omega) (by omega)).mono ?_; rintro e w' ⟨rfl, rfl⟩)
    go_region
    simp only [HN.out, HD.out]
    go_wp2
    all_goals exact bodyPost_ret (v := .tuple #[.agg #[.int .i64 0, .int .i64 0], .bool false]) (by simp [results, Try.results72, go_sem]) rfl ⟨rfl, (by repeat (first | with_reducible exact Below.refl _ _ | with_reducible assumption | (with_reducible refine Below.trans ?_ (Below.mono (by assumption) (by first | omega | (simp <;> omega)))) | with_reducible apply Below.drew | with_reducible apply below_drewN | (with_reducible refine Below.alloc ?_ (by first | omega | (simp <;> omega)) _) | (with_reducible refine Below.setCell ?_ (by first | omega | (simp <;> omega)) _)))⟩

set_option maxHeartbeats 400000 in
theorem reduceRat_pos (n d : Int) (w : World) (h1 : -9223372036854775807 ≤ n) (h2 : n ≤ 9223372036854775807) (h3 : 0 < d) (h4 : d ≤ 9223372036854775807) :
    Calls Try.prog 72 #[.int .i64 n, .int .i64 d] w fun e w' => e = .returned (.tuple #[.agg #[.int .i64 (rN n d), .int .i64 (rD n d)], .bool (mok n d)]) ∧ Below w.heap.size w w' := by
  have hg := G_pos (a := n) (b := d) (by omega)
  have hg' := G_le_right (a := n) (b := d) (by omega)
  have hN : n.tdiv (G n d) = mN n d := by have e' := tdiv_N (n := n) (d := d); rwa [sg_nonneg (by omega)] at e'
  have hD : d / G n d = mD n d := by unfold mD; rw [sg_nonneg (by omega)]
  have HN := Lib.hid hN; have HD := Lib.hid hD; clear hN hD
  cases hk : mok n d with
  | true =>
    have hkt := mok_true hk
    have hrN : rN n d = mN n d := by simp [rN, hk]
    have hrD : rD n d = mD n d := by simp [rD, hk]
    rw [hrN, hrD]; clear hrN hrD hk
    generalize mN n d = x at *
    generalize mD n d = y at *
    obtain ⟨k1, k2, k3⟩ := hkt
    go_enter Try.func72, Try.ntmps72
    go_wp2_with (go_at_call 62; refine (commonDivisor_any _ _ _ (by omega) (by omega) (by omega) (by omega)).mono ?_; rintro e w' ⟨rfl, rfl⟩)
    go_region
    simp only [HN.out, HD.out]
    go_wp2
    exact bodyPost_ret (v := .tuple #[.agg #[.int .i64 x, .int .i64 y], .bool true]) (by simp [results, Try.results72, go_sem]) rfl ⟨rfl, (by repeat (first | with_reducible exact Below.refl _ _ | with_reducible assumption | (with_reducible refine Below.trans ?_ (Below.mono (by assumption) (by first | omega | (simp <;> omega)))) | with_reducible apply Below.drew | with_reducible apply below_drewN | (with_reducible refine Below.alloc ?_ (by first | omega | (simp <;> omega)) _) | (with_reducible refine Below.setCell ?_ (by first | omega | (simp <;> omega)) _)))⟩
  | false =>
    have hkt := mok_false hk (by omega)
    have hrN : rN n d = 0 := by simp [rN, hk]
    have hrD : rD n d = 0 := by simp [rD, hk]
    rw [hrN, hrD]; clear hrN hrD hk
    generalize mN n d = x at *
    generalize mD n d = y at *
    go_enter Try.func72, Try.ntmps72
    go_wp2_with (go_at_call 62; refine (commonDivisor_any _ _ _ (by omega) (by omega) (by omega) (by omega)).mono ?_; rintro e w' ⟨rfl, rfl⟩)
    go_region
    simp only [HN.out, HD.out]
    go_wp2
    all_goals exact bodyPost_ret (v := .tuple #[.agg #[.int .i64 0, .int .i64 0], .bool false]) (by simp [results, Try.results72, go_sem]) rfl ⟨rfl, (by repeat (first | with_reducible exact Below.refl _ _ | with_reducible assumption | (with_reducible refine Below.trans ?_ (Below.mono (by assumption) (by first | omega | (simp <;> omega)))) | with_reducible apply Below.drew | with_reducible apply below_drewN | (with_reducible refine Below.alloc ?_ (by first | omega | (simp <;> omega)) _) | (with_reducible refine Below.setCell ?_ (by first | omega | (simp <;> omega)) _)))⟩

theorem reduceRat_any (n d : Int) (w : World) (h1 : -9223372036854775807 ≤ n) (h2 : n ≤ 9223372036854775807) (h3 : -9223372036854775807 ≤ d) (h4 : d ≤ 9223372036854775807) (h0 : d ≠ 0) :
    Calls Try.prog 72 #[.int .i64 n, .int .i64 d] w fun e w' => e = .returned (.tuple #[.agg #[.int .i64 (rN n d), .int .i64 (rD n d)], .bool (mok n d)]) ∧ Below w.heap.size w w' := by
  by_cases hd : d < 0
  · exact reduceRat_neg n d w h1 h2 h3 hd
  · exact reduceRat_pos n d w h1 h2 (by omega) h4


end Go.Proofs.Ythccdooacbablab

/-
  The laws' copies, with any room left and marks from any number on.
-/
import Derived.Test.YthccdooacbablaaLawS
import Derived.Test.YthccdooacbablaaSima
import Derived.Test.YthccdooacbablaaRr
namespace Go.Proofs.Ythccdooacbablaa
open Go.RowKit Rm

set_option maxHeartbeats 400000 in
theorem szPointS_left (A : Option Addr) (n c : Nat) (left : Int) (hn : n ≤ maxLen) (h0 : 0 ≤ left) (h1 : left ≤ 1048576) (w : World) :
    Calls Try.prog 12 #[.slice A n c, .int .i64 left] w fun e w' => e = .returned (.int .i64 (if (n : Int) ≤ left then left - (n : Int) else -1)) ∧ w = w' := by
  unfold maxLen at hn
  by_cases h : (n : Int) ≤ left
  · rw [if_pos h]
    go_enter Try.func12, Try.ntmps12
    go_wp2
    go_ret
    exact ⟨rfl, rfl⟩
  · rw [if_neg h]
    go_enter Try.func12, Try.ntmps12
    go_wp2
    go_ret
    exact ⟨rfl, rfl⟩
set_option maxRecDepth 100000 in
set_option maxHeartbeats 400000 in
theorem markPointS_from (A : Option Addr) (n c base : Nat) (xs : List Value) (q : Int) (w : World) (ha : w.ownsRow base 62 4 (.slice A n c) n xs) (hn : n ≤ 1048576) (q0 : 0 ≤ q) (q1 : q ≤ 100000000) :
    Calls Try.prog 25 #[.slice A n c, .int .i64 q] w fun e w' => e = .returned (.int .i64 (q + 4 * (n : Int))) ∧ w.grownBy w' (Value.slice A n c).ownBlock := by
  have HA := hide ha
  clear ha
  go_enter Try.func25, Try.ntmps25
  go_wp2
  go_loopw [1, 5] (fun v i wr => ∃ (k : Nat) (ys : List Value), i = .int .i64 k ∧ v = .int .i64 (q + 4 * (k : Int)) ∧ k ≤ n ∧ wr.ownsRow base 62 4 (.slice A n c) n ys ∧ w.grownBy wr (Value.slice A n c).ownBlock) (fun _ i _ => n - (intOf i).toNat)
  case atStart => exact ⟨0, xs, rfl, congrArg (Value.int .i64) (by omega), Nat.zero_le _, unhide HA, World.grownBy.refl _ _⟩
  case round =>
    obtain ⟨k, ys, rfl, rfl, hk, hown, hgr⟩ := hrel
    have hlen := hown.1
    by_cases hlt : k < n
    · obtain ⟨g, cap, hv, _, hgl⟩ := hown.form (by omega)
      have hA : A = some ⟨g, 0, none⟩ ∧ c = cap := by injection hv with h1 _ h2; exact ⟨h1, h2⟩
      obtain ⟨rfl, rfl⟩ := hA
      have hc0 := hown.cellAt (k * 4) (by omega)
      have hc1 := hown.cellAt (k * 4 + 1) (by omega)
      have hc2 := hown.cellAt (k * 4 + 2) (by omega)
      have hc3 := hown.cellAt (k * 4 + 3) (by omega)
      rw [List.getElem?_eq_getElem (by omega)] at hc0 hc1 hc2 hc3
      have hff := fun j => hown.frozenAt j
      have HO := hide (own_set4 hown (k * 4) (.int .i64 (q + 4 * (k : Int))) (.int .i64 (q + 4 * (k : Int) + 1)) (.int .i64 (q + 4 * (k : Int) + 1 + 1)) (.int .i64 (q + 4 * (k : Int) + 1 + 1 + 1)))
      have HG := hide (grown_set (grown_set (grown_set (grown_set hgr (k * 4) (.int .i64 (q + 4 * (k : Int)))) (k * 4 + 1) (.int .i64 (q + 4 * (k : Int) + 1))) (k * 4 + 2) (.int .i64 (q + 4 * (k : Int) + 1 + 1))) (k * 4 + 3) (.int .i64 (q + 4 * (k : Int) + 1 + 1 + 1)))
      clear hown hgr hv HA
      go_wp2
      clear hc0 hc1 hc2 hc3 hff
      go_roundw
      case rel => exact ⟨k + 1, _, by go_num, congrArg (Value.int .i64) (by omega), by omega, unhide HO, unhide HG⟩
      case measure => simp [intOf]; omega
    · obtain rfl : k = n := by omega
      have HB := hide hgr
      clear hown hgr
      go_wp2
      go_ret
      exact ⟨rfl, unhide HB⟩
end Go.Proofs.Ythccdooacbablaa

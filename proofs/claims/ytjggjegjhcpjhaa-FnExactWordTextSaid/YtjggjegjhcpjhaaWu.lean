/-
  Chapter 6: WordText of the model.
-/
import Derived.Test.YtjggjegjhcpjhaaWt
import Derived.Lib.SmallJoins
namespace Go.Proofs.Ytjggjegjhcpjhaa
open Go.RowKit Rm

abbrev abc : ByteArray := ⟨#[97, 98, 99, 100, 101, 102, 103, 104, 105, 106, 107, 108, 109, 110, 111, 112, 113, 114, 115, 116, 117, 118, 119, 120, 121, 122]⟩
theorem abc_at : ∀ k : Nat, k < 26 → (abc.extract k (k + 1)).data = #[letT (k : Int)] := by decide

set_option maxRecDepth 100000 in
set_option maxHeartbeats 1600000 in
theorem woText_any (g n c : Nat) (r : List Int) (w : World) (hw : WCells w g n r) (hrl : r.length = n) (h20 : n ≤ 20) (hr : ∀ j, j < n → 0 ≤ r.getD j 0 ∧ r.getD j 0 ≤ 25) :
    Calls Try.prog 84 #[.slice (some ⟨g, 0, none⟩) n c] w fun e w' => e = .returned (.string ⟨(wtK r n).toArray⟩) ∧ Below w.heap.size w w' := by
  have HW := hide hw; have HRL := Lib.hid hrl; have HR := hide hr
  clear hw hrl hr
  go_enter Try.func84, Try.ntmps84
  go_wp2_with fail
  go_loopw [3, 8] (fun s i wr => ∃ k : Nat, i = .int .i64 k ∧ s = .string ⟨(wtK r k).toArray⟩ ∧ k ≤ n ∧ Below w.heap.size w wr) (fun _ i _ => n - (intOf i).toNat)
  case atStart => exact ⟨0, rfl, rfl, Nat.zero_le _, Below.refl _ _⟩
  case round =>
    obtain ⟨k, rfl, rfl, hk, hb⟩ := hrel
    have hzr := hb.size
    by_cases hlt : k < n
    · have hc := ((unhide HW).below hb).cel k hlt
      have hgw := ((unhide HW).below hb).lt
      have hkr : k < r.length := by rw [HRL.out]; exact hlt
      have hsn := wtK_sn hkr
      have hls := wtK_len (r := r) (j := k) (by omega)
      obtain ⟨hx0, hx1⟩ := (unhide HR) k hlt
      obtain ⟨kk, hkk⟩ : ∃ kk : Nat, r.getD k 0 = (kk : Int) := ⟨(r.getD k 0).toNat, by omega⟩
      rw [hkk] at hc hsn hx0 hx1
      have hab := abc_at kk (by omega)
      have hadd : ∀ (W : World), (Op.stringOp .add ⟨(wtK r k).toArray⟩ (abc.extract kk (kk + 1))).run Try.prog W = .ok (.string ⟨(wtK r (k + 1)).toArray⟩) W := fun W => by
        have e : abc.extract kk (kk + 1) = ⟨[letT (kk : Int)].toArray⟩ := ByteArray.ext hab
        rw [e, hsn]
        exact run_string_add_lists W (wtK r k) [letT (kk : Int)] (by omega) (by simp)
      have HSN := Lib.hid hsn; have HB := hide hb
      clear hsn hb hab hls hkr hkk
      have e1 : IntKind.i64.wrap ((kk : Int) + 1) = (kk : Int) + 1 := IntWalk.i64_in _ (by omega)
      have e2 : ((kk : Int) + 1).toNat = kk + 1 := by omega
      have e3 : (kk : Int) ≤ (kk : Int) + 1 := by omega
      have e4 : (kk : Int) + 1 ≤ 26 := by omega
      go_wp2_with fail
      go_roundw
      case rel => exact ⟨k + 1, by go_num, rfl, by omega, unhide HB⟩
      case measure => (simp [intOf] <;> omega)
    · obtain rfl : k = n := by omega
      have HB := hide hb
      clear hb
      go_wp2_with fail
      go_ret
      exact ⟨rfl, unhide HB⟩

set_option maxRecDepth 100000 in
set_option maxHeartbeats 800000 in
theorem sWordText_any (g n c base : Nat) (r : List Int) (w : World) (ha : w.ownsRow base 3 1 (.slice (some ⟨g, 0, none⟩) n c) n (ints r)) (hn : n ≤ 1048576) :
    Calls Try.prog 46 #[.slice (some ⟨g, 0, none⟩) n c] w fun e w' => e = .returned (.tuple #[.string ⟨(wtT r).toArray⟩, .bool (wtZ r)]) ∧ Below w.heap.size w w' := by
  have hrl : r.length = n := by have := ha.1; rw [ints_len] at this; omega
  have hw := WCells.own ha
  by_cases h20 : n ≤ 20
  · have d0 : decide ((n : Int) > 20) = false := decide_eq_false (by omega)
    have hal := l1All_any g n c r 0 25 w hw hn hrl
    have hwz : wtZ r = allIn 0 25 r := by unfold wtZ; rw [hrl, decide_eq_true h20, Bool.true_and]
    cases hz : allIn 0 25 r with
    | false =>
      rw [hz] at hal hwz
      rw [wtT_no hwz, hwz]
      have HAL := hide hal
      clear hal hwz hz ha hw hrl
      go_enter Try.func46, Try.ntmps46
      go_wp2_with (go_at_call 83; (with_reducible refine (unhide HAL).mono ?_); rintro e w1 ⟨rfl, hbw1⟩)
      go_ret2
      exact ⟨rfl, hbw1⟩
    | true =>
      rw [hz] at hal hwz
      rw [wtT_yes hwz, hwz, hrl]
      have hall : ∀ j, j < n → 0 ≤ r.getD j 0 ∧ r.getD j 0 ≤ 25 := fun j hj => by
        unfold allIn at hz
        rw [List.all_eq_true] at hz
        have := hz (r.getD j 0) (by rw [List.getD_eq_getElem?_getD, List.getElem?_eq_getElem (by omega)]; exact List.getElem_mem _)
        exact of_decide_eq_true this
      have htx := fun W hW => woText_any g n c r W hW hrl h20 hall
      have HAL := hide hal; have HTX := hide htx; have HW := hide hw
      clear hal hwz hz ha hw hrl hall htx
      generalize wtK r n = t at *
      go_enter Try.func46, Try.ntmps46
      go_wp2_with (first
        | (go_at_call 83; (with_reducible refine (unhide HAL).mono ?_); rintro e w1 ⟨rfl, hbw1⟩)
        | (go_at_call 84; (with_reducible refine ((unhide HTX) _ ((unhide HW).below hbw1)).mono ?_); rintro e w2 ⟨rfl, hbw2⟩))
      go_ret2
      exact ⟨rfl, hbw1.trans (hbw2.mono hbw1.size)⟩
  · have hz : wtZ r = false := wtZ_long (by rw [hrl]; exact h20)
    rw [hz, wtT_no hz]
    have d0 : decide ((n : Int) > 20) = true := decide_eq_true (by omega)
    clear hz ha hw hrl
    go_enter Try.func46, Try.ntmps46
    go_wp2_with fail
    go_ret2
    exact ⟨rfl, Below.refl _ _⟩
end Go.Proofs.Ytjggjegjhcpjhaa

/-
  Chapter 1: contracts of ParseRat and what it calls, of the program and of the model.
-/
import Derived.Test.YtmkejopkmdcfeabDoorText
import Derived.LoopTactic
import Derived.Laws.RangeAny
namespace Go.Proofs.YtmkejopkmdcfeabDoor
open Go.RowKit Rm

/-! ### readDigits -/
/-- The number that decimal digits show, up to 1000000000. -/
def rd (acc : Int) : List UInt8 → Option Int
  | [] => some acc
  | c :: r => if 48 ≤ (c.toNat : Int) ∧ (c.toNat : Int) ≤ 57 then (if 10 * acc + ((c.toNat : Int) - 48) ≤ 1000000000 then rd (10 * acc + ((c.toNat : Int) - 48)) r else none) else none
def rdN (l : List UInt8) : Int := (rd 0 l).getD 0
def rdOk (l : List UInt8) : Bool := (rd 0 l).isSome
theorem rd_bd : ∀ (l : List UInt8) (acc : Int), 0 ≤ acc → acc ≤ 1000000000 → 0 ≤ (rd acc l).getD 0 ∧ (rd acc l).getD 0 ≤ 1000000000 := by
  intro l
  induction l with
  | nil => intro acc h1 h2; simp [rd, h1, h2]
  | cons c r ih =>
    intro acc h1 h2
    simp only [rd]
    split
    · split
      · exact ih _ (by omega) (by omega)
      · simp
    · simp
theorem iter_below (w : World) (s : ByteArray) (pos : Nat) : Below w.heap.size w (w.iter s pos) := (Below.refl _ _).alloc (Nat.le_refl _) _
theorem drop_cons (s : ByteArray) (k : Nat) (h : k < s.size) : s.data.toList.drop k = s[k] :: s.data.toList.drop (k + 1) := by
  rw [List.drop_eq_getElem_cons (by simpa using h)]; rfl
theorem ret_int {k : IntKind} {a b : Int} (h : a = b) : Ending.returned (.int k a) = .returned (.int k b) := by rw [h]
theorem ret_ib {k : IntKind} {a b : Int} {x y : Bool} (h1 : a = b) (h2 : x = y) : Ending.returned (.tuple #[.int k a, .bool x]) = .returned (.tuple #[.int k b, .bool y]) := by rw [h1, h2]

set_option maxRecDepth 100000 in
set_option maxHeartbeats 400000 in
theorem readDigits_any (s : ByteArray) (w : World) (hs : s.size ≤ 9223372036854775807) :
    Calls Tryd.prog 19 #[.string s] w fun e w' => e = .returned (.tuple #[.int .i64 (rdN s.data.toList), .bool (rdOk s.data.toList)]) ∧ Below w.heap.size w w' := by
  go_enter Tryd.func19, Tryd.ntmps19
  go_wp2
  go_loopw [4] (fun n w' => ∃ (pos : Nat) (acc : Int), w' = w.iter s pos ∧ n = .int .i64 acc ∧ pos ≤ s.size ∧ 0 ≤ acc ∧ acc ≤ 1000000000 ∧ rd acc (s.data.toList.drop pos) = rd 0 s.data.toList) (fun _ w' => s.size - w'.iterPos w.heap.size)
  case atStart => exact ⟨0, 0, rfl, rfl, by omega, by omega, by omega, by simp⟩
  case round =>
    obtain ⟨pos, acc, rfl, rfl, hp, ha0, ha1, hrd⟩ := hrel
    have HRD := Lib.hid hrd; clear hrd
    by_cases hlt : pos < s.size
    · have hdc := drop_cons s pos hlt
      have HE : Hid (rd acc (s[pos] :: s.data.toList.drop (pos + 1)) = rd 0 s.data.toList) := by rw [← hdc]; exact HRD.out
      clear HRD hdc
      by_cases hasc : (s[pos]'hlt).toNat < 128
      · have hnx : ∀ ty, (Instr.next (.pointer (some ⟨w.heap.size, 0, none⟩)) true ty).run Tryd.prog (w.iter s pos) = _ := fun ty => run_next_ascii w s pos ty hlt hasc
        generalize (s[pos]'hlt) = c at *
        by_cases hdig : 48 ≤ (c.toNat : Int) ∧ (c.toNat : Int) ≤ 57
        · obtain ⟨hd1, hd2⟩ := hdig
          by_cases hbig : 10 * acc + ((c.toNat : Int) - 48) ≤ 1000000000
          · go_wp2
            go_roundw
            case rel => exact ⟨pos + 1, _, rfl, rfl, by omega, by omega, hbig, by rw [← HE.out, rd, if_pos ⟨hd1, hd2⟩, if_pos hbig]⟩
            case measure => simp; omega
          · go_wp2
            go_ret2
            have e := HE.out
            rw [rd, if_pos ⟨hd1, hd2⟩, if_neg (by omega)] at e
            exact ⟨ret_ib (by unfold rdN; rw [← e]; rfl) (by unfold rdOk; rw [← e]; rfl), iter_below _ _ _⟩
        · go_wp2
          all_goals
            go_ret2
            have e := HE.out
            rw [rd, if_neg (by omega)] at e
            exact ⟨ret_ib (by unfold rdN; rw [← e]; rfl) (by unfold rdOk; rw [← e]; rfl), iter_below _ _ _⟩
      · have hnx : ∀ ty, (Instr.next (.pointer (some ⟨w.heap.size, 0, none⟩)) true ty).run Tryd.prog (w.iter s pos) = _ := fun ty => run_next_any w s pos ty hlt
        obtain ⟨h8, _⟩ := decode_high s pos hlt (by omega)
        have h9 := decode_le s pos
        generalize (Utf8.decode s pos).1 = rr at *
        generalize (Utf8.decode s pos).2 = ww at *
        have h10 : 57 < (rr : Int) := by omega
        have h11 : 48 ≤ (rr : Int) := by omega
        have e : rdN s.data.toList = 0 ∧ rdOk s.data.toList = false := by
          have e := HE.out
          rw [rd, if_neg (by omega)] at e
          exact ⟨by unfold rdN; rw [← e]; rfl, by unfold rdOk; rw [← e]; rfl⟩
        have E1 := Lib.hid e.1; have E2 := Lib.hid e.2
        clear e HE hasc
        go_wp2
        go_ret2
        exact ⟨ret_ib E1.out.symm E2.out.symm, iter_below _ _ _⟩
    · have hnx : ∀ ty, (Instr.next (.pointer (some ⟨w.heap.size, 0, none⟩)) true ty).run Tryd.prog (w.iter s pos) = _ := fun ty => run_next_end w s pos ty hlt
      go_wp2
      go_ret2
      have hd : s.data.toList.drop pos = [] := List.drop_eq_nil_of_le (by simpa using hlt)
      have e := HRD.out
      rw [hd] at e
      exact ⟨ret_ib (by unfold rdN; rw [← e]; rfl) (by unfold rdOk; rw [← e]; rfl), iter_below _ _ _⟩

/-! ### raRead -/
def rr (acc : Int) : List UInt8 → Option Int
  | [] => some acc
  | c :: r => if 48 ≤ (c.toNat : Int) ∧ (c.toNat : Int) ≤ 57 then rr (10 * acc + ((c.toNat : Int) - 48)) r else none
/-- The number that a canonical decimal of at most ten digits shows, or -1. -/
def rrN (l : List UInt8) : Int := if (1 ≤ l.length ∧ l.length ≤ 10) ∧ ¬ (l.head? = some 48 ∧ 1 < l.length) then (rr 0 l).getD (-1) else -1
theorem rr_bd : ∀ (l : List UInt8) (acc : Int) (k : Nat), 0 ≤ acc → acc < ((10 ^ k : Nat) : Int) → k + l.length ≤ 10 → -1 ≤ (rr acc l).getD (-1) ∧ (rr acc l).getD (-1) ≤ 9999999999 := by
  intro l
  induction l with
  | nil =>
    intro acc k h1 h2 h3
    have : 10 ^ k ≤ 10 ^ 10 := Nat.pow_le_pow_right (by omega) (by simpa using h3)
    simp [rr]; omega
  | cons c r ih =>
    intro acc k h1 h2 h3
    simp only [rr]
    split
    · refine ih _ (k + 1) (by omega) ?_ (by simp at h3; omega)
      rw [Nat.pow_succ]; omega
    · simp
theorem rrN_bd (l : List UInt8) : -1 ≤ rrN l ∧ rrN l ≤ 9999999999 := by
  unfold rrN
  split
  · rename_i h
    exact rr_bd l 0 0 (by omega) (by simp) (by omega)
  · omega

set_option maxRecDepth 100000 in
set_option maxHeartbeats 400000 in
theorem raRead_any (s : ByteArray) (w : World) (hs : s.size ≤ 9223372036854775807) :
    Calls Tryd.prog 25 #[.string s] w fun e w' => e = .returned (.int .i64 (rrN s.data.toList)) ∧ w = w' := by
  have hlen : s.data.toList.length = s.size := by simp
  by_cases hr : 1 ≤ s.size ∧ s.size ≤ 10
  · obtain ⟨hr1, hr2⟩ := hr
    have h0 : 0 < s.size := by omega
    have hhd : s.data.toList.head? = some (s[0]'h0) := by
      have := drop_cons s 0 h0
      rw [List.drop_zero] at this
      rw [this]; rfl
    have hz1 : ((s[0]'h0).toNat : Int) = 48 → s.data.toList.head? = some 48 := by
      intro e; rw [hhd]; congr 1; exact UInt8.toNat_inj.1 (by have : (48 : UInt8).toNat = 48 := rfl; omega)
    by_cases hz : ((s[0]'h0).toNat : Int) = 48 ∧ 1 < s.size
    · have e : rrN s.data.toList = -1 := by unfold rrN; rw [if_neg (by intro hh; exact hh.2 ⟨hz1 hz.1, by rw [hlen]; exact hz.2⟩)]
      rw [e]
      obtain ⟨hz2, hz3⟩ := hz
      have hz4 : (((s[0]'h0).toNat : Int) == 48) = true := by simpa using hz2
      clear e hz1 hhd hlen hz2
      go_enter Tryd.func25, Tryd.ntmps25
      go_wp2_with (go_at_call 28; refine (l1In_yes (by omega) _).mono ?_; rintro e w' ⟨rfl, rfl⟩)
      go_ret
      exact ⟨rfl, rfl⟩
    · have e : rrN s.data.toList = (rr 0 s.data.toList).getD (-1) := by
        unfold rrN
        have hn : ¬ (s.data.toList.head? = some 48 ∧ 1 < s.data.toList.length) := by
          intro hh
          have h48 : s[0]'h0 = 48 := by have := hh.1; rw [hhd] at this; exact Option.some.inj this
          exact hz ⟨by rw [h48]; rfl, by have := hh.2; rwa [hlen] at this⟩
        rw [if_pos ⟨by rw [hlen]; omega, hn⟩]
      have hcase : ((((s[0]'h0).toNat : Int) == 48) = true ∧ ¬ 1 < s.size) ∨ (((s[0]'h0).toNat : Int) == 48) = false := by
        by_cases hz5 : ((s[0]'h0).toNat : Int) = 48
        · exact .inl ⟨by simpa using hz5, fun h1 => hz ⟨hz5, h1⟩⟩
        · exact .inr (by simpa using hz5)
      have E := Lib.hid e
      clear e hz1 hhd hlen hz
      rcases hcase with ⟨hz6, hz7⟩ | hz6
      all_goals
        go_enter Tryd.func25, Tryd.ntmps25
        go_wp2_with (go_at_call 28; refine (l1In_yes (by omega) _).mono ?_; rintro e w' ⟨rfl, rfl⟩)
        go_loop [3, 4] (fun n i => ∃ (k : Nat) (acc : Int), i = .int .i64 k ∧ n = .int .i64 acc ∧ k ≤ s.size ∧ 0 ≤ acc ∧ acc < ((10 ^ k : Nat) : Int) ∧ rr acc (s.data.toList.drop k) = rr 0 s.data.toList) (fun _ i => s.size - (intOf i).toNat)
        case atStart => exact ⟨0, 0, rfl, rfl, by omega, by omega, by simp, by simp⟩
        case round =>
          obtain ⟨k, acc, rfl, rfl, hk, ha0, ha1, hrr⟩ := hrel
          have HRR := Lib.hid hrr; clear hrr
          by_cases hlt : k < s.size
          · have hdc := drop_cons s k hlt
            have HE : Hid (rr acc (s[k] :: s.data.toList.drop (k + 1)) = rr 0 s.data.toList) := by rw [← hdc]; exact HRR.out
            clear HRR hdc
            have hpk : 10 ^ k ≤ 10 ^ 9 := Nat.pow_le_pow_right (by omega) (by omega)
            have hap : acc < 1000000000 := by omega
            have HA := Lib.hid ha1
            clear ha1 hpk
            by_cases hdig : 48 ≤ ((s[k]'hlt).toNat : Int) ∧ ((s[k]'hlt).toNat : Int) ≤ 57
            · obtain ⟨hd1, hd2⟩ := hdig
              go_wp2
              go_round
              case rel => exact ⟨k + 1, _, by go_num, rfl, by omega, by omega, by rw [Nat.pow_succ]; have := HA.out; omega, by rw [← HE.out, rr, if_pos ⟨hd1, hd2⟩]⟩
              case measure => simp [intOf]; omega
            · go_wp2
              all_goals
                go_ret
                have e := HE.out
                rw [rr, if_neg (by omega)] at e
                exact ⟨ret_int (by rw [E.out, ← e]; rfl), rfl⟩
          · go_wp2
            go_ret
            have hd : s.data.toList.drop k = [] := List.drop_eq_nil_of_le (by simpa using hlt)
            have e := HRR.out
            rw [hd] at e
            exact ⟨ret_int (by rw [E.out, ← e]; rfl), rfl⟩
  · have e : rrN s.data.toList = -1 := by unfold rrN; rw [if_neg (by rw [hlen]; omega)]
    rw [e]; clear e hlen
    go_enter Tryd.func25, Tryd.ntmps25
    go_wp2_with (go_at_call 28; refine (l1In_no (by omega) _).mono ?_; rintro e w' ⟨rfl, rfl⟩)
    go_ret
    exact ⟨rfl, rfl⟩
end Go.Proofs.YtmkejopkmdcfeabDoor

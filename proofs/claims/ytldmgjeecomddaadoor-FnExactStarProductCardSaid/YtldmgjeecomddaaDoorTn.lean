/-
  Chapter 7: StarProduct of both.
-/
import Derived.Test.YtldmgjeecomddaaDoorTm
import Derived.Test.YtldmgjeecomddaaDoorTk
import Derived.Test.YtldmgjeecomddaaDoorTh
namespace Go.Proofs.YtldmgjeecomddaaDoor
open Go.RowKit Rm

/-- A letter behind the word. -/
def spC (odd : Bool) (c : UInt8) : UInt8 := match odd with | true => swB c | false => c
/-- The product with the first j letters. -/
def spK (l : List UInt8) (odd : Bool) (t : List UInt8) : Nat → List UInt8
  | 0 => []
  | j + 1 => spK l odd t j ++ (l ++ [spC odd (t.getD j 0)])
theorem spK_len (l : List UInt8) (odd : Bool) (t : List UInt8) : ∀ j, (spK l odd t j).length = j * (l.length + 1)
  | 0 => by simp [spK]
  | j + 1 => by rw [spK, List.length_append, spK_len l odd t j, List.length_append, Nat.succ_mul]; simp
def spO (s : ByteArray) : Bool := decide (s.data.toList.count 82 % 2 = 1)
def spZ (s t : ByteArray) : Bool := gdB sLR s && (decide (s.size ≤ 9) && (gdB sLCR t && decide (t.size ≤ 3)))
def spT (s t : ByteArray) : List UInt8 := match spZ s t with | true => spK s.data.toList (spO s) t.data.toList t.size | false => []
theorem sp_no {s t : ByteArray} (h : spZ s t = false) : spT s t = [] := by unfold spT; rw [h]
theorem sp_yes {s t : ByteArray} (h : spZ s t = true) : spT s t = spK s.data.toList (spO s) t.data.toList t.size := by unfold spT; rw [h]
theorem ix_has (c : UInt8) : ∀ l : List UInt8, decide (0 ≤ Lib.indexByte l c) = l.contains c
  | [] => rfl
  | b :: l => by
    have ih := ix_has c l
    unfold Lib.indexByte
    by_cases h : b = c
    · subst h; simp
    · have h1 : (b == c) = false := beq_eq_false_iff_ne.2 h
      have h2 : (c == b) = false := beq_eq_false_iff_ne.2 (Ne.symm h)
      rw [List.contains_cons, h2, Bool.false_or, ← ih, h1]
      simp only [Bool.false_eq_true, if_false]
      by_cases h3 : Lib.indexByte l c = -1
      · rw [h3]; rfl
      · rw [if_neg (by simpa using h3)]
        by_cases h4 : 0 ≤ Lib.indexByte l c
        · rw [decide_eq_true h4, decide_eq_true (by omega)]
        · have h5 : ∀ l : List UInt8, -1 ≤ Lib.indexByte l c := by
            intro l
            induction l with
            | nil => show -1 ≤ (-1 : Int); omega
            | cons b l ih2 => unfold Lib.indexByte; split; omega; split <;> omega
          have := h5 l
          omega
theorem lr_lcr (s : ByteArray) : gdB sLR s = (gdB sLCR s && !(s.data.toList.contains 67)) := by
  unfold gdB inB
  have key : ∀ l : List UInt8, (l.all fun b => sLR.data.toList.contains b) = ((l.all fun b => sLCR.data.toList.contains b) && !(l.contains 67)) := by
    intro l
    induction l with
    | nil => rfl
    | cons b l ih =>
      have hb : sLR.data.toList.contains b = (sLCR.data.toList.contains b && !((67 : UInt8) == b)) := by
        by_cases h1 : b = 76
        · subst h1; rfl
        · by_cases h2 : b = 82
          · subst h2; rfl
          · by_cases h3 : b = 67
            · subst h3; rfl
            · have e1 : sLR.data.toList.contains b = false := by simp [h1, h2]
              have e2 : sLCR.data.toList.contains b = false := by simp [h1, h2, h3]
              rw [e1, e2]; rfl
      have hc : (b :: l).contains 67 = ((67 : UInt8) == b || l.contains 67) := List.contains_cons ..
      rw [List.all_cons, List.all_cons, ih, hb, hc]
      cases sLCR.data.toList.contains b <;> cases ((67 : UInt8) == b) <;> cases (l.all fun b => sLCR.data.toList.contains b) <;> cases l.contains 67 <;> rfl
  rw [key]
  cases (s.data.toList.all fun b => sLCR.data.toList.contains b) <;> cases s.data.toList.contains 67 <;> cases decide (1 ≤ s.size ∧ s.size ≤ 30) <;> rfl
theorem odd_succ (l : List UInt8) {k : Nat} (hk : k < l.length) : decide ((l.take (k + 1)).count 82 % 2 = 1) = (decide ((l.take k).count 82 % 2 = 1) != (l.getD k 0 == 82)) := by
  rw [take_count hk]
  by_cases h : l.getD k 0 = 82
  · rw [if_pos h, h]
    by_cases h2 : (l.take k).count 82 % 2 = 1
    · rw [decide_eq_true h2, decide_eq_false (by omega)]; rfl
    · rw [decide_eq_false h2, decide_eq_true (by omega)]; rfl
  · rw [if_neg h, Nat.add_zero, beq_eq_false_iff_ne.2 h]
    cases decide ((l.take k).count 82 % 2 = 1) <;> rfl
theorem as_list (s : ByteArray) : s = ⟨s.data.toList.toArray⟩ := by cases s; simp
theorem one_at (t : ByteArray) {k : Nat} (hk : k < t.size) : t.extract k (k + 1) = ⟨#[t[k]]⟩ := by
  have e : t.extract k (k + 1) = ⟨((t.data.toList.drop k).take 1).toArray⟩ := by
    have h := Lib.extract_mk t.data.toList k (k + 1)
    rw [← as_list t, Nat.add_sub_cancel_left] at h
    exact h
  rw [e, List.drop_eq_getElem_cons (by rw [sz_list]; exact hk)]
  rfl

set_option maxRecDepth 100000 in
set_option maxHeartbeats 1600000 in
theorem sStar_good (s t : ByteArray) (w : World) (h1 : gdB sLR s = true) (h9 : s.size ≤ 9) (h2 : gdB sLCR t = true) (h3 : t.size ≤ 3) :
    Calls Tryd.prog 20 #[.string s, .string t] w fun e w' => e = .returned (.tuple #[.string ⟨(spK s.data.toList (spO s) t.data.toList t.size).toArray⟩, .bool true]) ∧ Below w.heap.size w w' := by
  have hgs := fun W => knGood_any sLR s W (by decide) (by omega)
  have hgt := fun W => knGood_any sLCR t W (by decide) (by omega)
  rw [h1] at hgs
  rw [h2] at hgt
  have hll := sz_list s
  have HGS := hide hgs; have HGT := hide hgt; have HLL := Lib.hid hll
  clear hgs hgt h1 h2 hll
  have e9 : ¬ (s.size : Int) > 9 := by omega
  have e3 : ¬ (t.size : Int) > 3 := by omega
  obtain ⟨Z, hZ⟩ : ∃ Z, Z = spK s.data.toList (spO s) t.data.toList t.size := ⟨_, rfl⟩
  rw [← hZ]
  have HZ := Lib.hid hZ
  clear hZ
  go_enter Tryd.func20, Tryd.ntmps20
  go_wp2_with (first
    | (go_at_call 24; have _t := hbw1; clear _t; (with_reducible refine ((unhide HGT) _).mono ?_); rintro e w2 ⟨rfl, hbw2⟩; obtain ⟨hcw2, hfw2⟩ := bcell hbw2; have hzw2 := hbw2.size; (try simp at hzw2))
    | (go_at_call 24; (with_reducible refine ((unhide HGS) _).mono ?_); rintro e w1 ⟨rfl, hbw1⟩; obtain ⟨hcw1, hfw1⟩ := bcell hbw1; have hzw1 := hbw1.size; (try simp at hzw1)))
  have hbA : Below w.heap.size w w2 := (by repeat (first | with_reducible exact Below.refl _ _ | with_reducible assumption | (with_reducible refine Below.trans ?_ (Below.mono (by assumption) (by first | omega | (simp <;> omega)))) | with_reducible apply Below.drew | with_reducible apply below_drewN | (with_reducible refine Below.alloc ?_ (by first | omega | (simp <;> omega)) _) | (with_reducible refine Below.setCell ?_ (by first | omega | (simp <;> omega)) _)))
  have HBA := hide hbA
  have hzA := hbA.size
  clear hbA hbw1 hbw2 hcw1 hfw1 hcw2 hfw2
  go_loopw [6, 7] (fun o i wr => ∃ k : Nat, i = .int .i64 k ∧ k ≤ s.size ∧ o = .bool (decide ((s.data.toList.take k).count 82 % 2 = 1)) ∧ Below w2.heap.size w2 wr) (fun _ i _ => s.size - (intOf i).toNat)
  case atStart => exact ⟨0, rfl, Nat.zero_le _, by simp, Below.refl _ _⟩
  case round =>
    obtain ⟨k, rfl, hk, rfl, hb⟩ := hrel
    have hzr := hb.size
    have HB := hide hb
    clear hb
    by_cases hlt : k < s.size
    · have hod := odd_succ s.data.toList (k := k) (by rw [HLL.out]; exact hlt)
      rw [getD_at s hlt] at hod
      by_cases h82 : s[k] = 82
      · have f1 : (((s[k]'hlt).toNat : Int) = 82) := by rw [h82]; rfl
        rw [h82] at hod
        have HOD := Lib.hid hod
        clear hod h82
        cases hz : decide ((s.data.toList.take k).count 82 % 2 = 1)
        all_goals
          rw [hz] at HOD
          clear hz
          go_wp2_with fail
          have hb := unhide HB
          go_roundw
          case rel => exact ⟨k + 1, by go_num, by omega, by rw [HOD.out]; rfl, hb⟩
          case measure => (simp [intOf] <;> omega)
      · have f1 : ¬ (((s[k]'hlt).toNat : Int) = 82) := fun h => h82 (UInt8.toNat_inj.1 (by have : (82 : UInt8).toNat = 82 := rfl; omega))
        have f2 : ((((s[k]'hlt).toNat : Int)) == 82) = false := beq_eq_false_iff_ne.2 f1
        rw [beq_eq_false_iff_ne.2 h82] at hod
        have HOD := Lib.hid hod
        clear hod h82
        cases hz : decide ((s.data.toList.take k).count 82 % 2 = 1)
        all_goals
          rw [hz] at HOD
          clear hz
          go_wp2_with fail
          have hb := unhide HB
          go_roundw
          case rel => exact ⟨k + 1, by go_num, by omega, by rw [HOD.out]; rfl, hb⟩
          case measure => (simp [intOf] <;> omega)
    · obtain rfl : k = s.size := by omega
      rw [List.take_of_length_le (by rw [HLL.out]; exact Nat.le_refl _), show decide (s.data.toList.count 82 % 2 = 1) = spO s from rfl]
      obtain ⟨wo, rfl⟩ : ∃ x, x = wr := ⟨wr, rfl⟩
      generalize spO s = odd at *
      go_wp2_with fail
      go_loopw [8, 9] (fun o i wi => ∃ k : Nat, i = .int .i64 k ∧ k ≤ t.size ∧ o = .string ⟨(spK s.data.toList odd t.data.toList k).toArray⟩ ∧ Below wo.heap.size wo wi) (fun _ i _ => t.size - (intOf i).toNat)
      case atStart => exact ⟨0, rfl, Nat.zero_le _, rfl, Below.refl _ _⟩
      case round =>
        obtain ⟨j, rfl, hj, rfl, hbi⟩ := hrel
        have HBI := hide hbi
        have hzi := hbi.size
        clear hbi
        by_cases hlj : j < t.size
        · have hex := one_at t hlj
          have hsn : spK s.data.toList odd t.data.toList (j + 1) = spK s.data.toList odd t.data.toList j ++ (s.data.toList ++ [spC odd (t[j]'hlj)]) := by rw [spK, getD_at t hlj]
          have hsl := spK_len s.data.toList odd t.data.toList j
          obtain ⟨T, hT⟩ : ∃ T, T = spK s.data.toList odd t.data.toList j := ⟨_, rfl⟩
          rw [← hT] at hsn hsl ⊢
          have hsz : T.length ≤ 30 := by
            rw [hsl, HLL.out]
            have : j * (s.size + 1) ≤ 3 * 10 := Nat.mul_le_mul (by omega) (by omega)
            omega
          have ha1 : ∀ (W : World) (d : UInt8), (Op.stringOp .add s ⟨#[d]⟩).run Tryd.prog W = .ok (.string ⟨(s.data.toList ++ [d]).toArray⟩) W := fun W d => by
            have h := run_string_add_lists (P := Tryd.prog) W s.data.toList [d] (by rw [HLL.out]; omega) (by simp)
            rw [← as_list s] at h
            exact h
          have ha2 : ∀ (W : World) (d : UInt8), (Op.stringOp .add ⟨T.toArray⟩ ⟨(s.data.toList ++ [d]).toArray⟩).run Tryd.prog W = .ok (.string ⟨(T ++ (s.data.toList ++ [d])).toArray⟩) W := fun W d => run_string_add_lists W T _ (by omega) (by rw [List.length_append, HLL.out]; simp; omega)
          have hsw := fun W => knSwap_any (t[j]'hlj) W
          have HSN := Lib.hid hsn; have HSW := hide hsw
          have v1 : IntKind.i64.wrap ((j : Int) + 1) = (j : Int) + 1 := IntWalk.i64_in _ (by omega)
          have v2 : ((j : Int) + 1).toNat = j + 1 := by omega
          have v3 : (j : Int) ≤ (j : Int) + 1 := by omega
          have v4 : (j : Int) + 1 ≤ (t.size : Int) := by omega
          clear hsn hsl hsw hT
          cases odd
          all_goals
            go_wp2_with (go_at_call 37; (with_reducible refine ((unhide HSW) _).mono ?_); rintro e w' ⟨rfl, rfl⟩)
            have hbi := unhide HBI
            go_roundw
            case rel => exact ⟨j + 1, by go_num, by omega, by rw [HSN.out]; rfl, (by repeat (first | with_reducible exact Below.refl _ _ | with_reducible assumption | (with_reducible refine Below.trans ?_ (Below.mono (by assumption) (by first | omega | (simp <;> omega)))) | with_reducible apply Below.drew | with_reducible apply below_drewN | (with_reducible refine Below.alloc ?_ (by first | omega | (simp <;> omega)) _) | (with_reducible refine Below.setCell ?_ (by first | omega | (simp <;> omega)) _)))⟩
            case measure => (simp [intOf] <;> omega)
        · obtain rfl : j = t.size := by omega
          rw [← HZ.out]
          go_wp2_with fail
          go_ret2
          exact ⟨rfl, (unhide HBA).trans (((unhide HB).trans ((unhide HBI).mono hzr)).mono hzA)⟩

set_option maxRecDepth 100000 in
set_option maxHeartbeats 800000 in
theorem sStarProduct_any (s t : ByteArray) (w : World) (hs : s.size ≤ 1048576) (ht : t.size ≤ 1048576) :
    Calls Tryd.prog 20 #[.string s, .string t] w fun e w' => e = .returned (.tuple #[.string ⟨(spT s t).toArray⟩, .bool (spZ s t)]) ∧ Below w.heap.size w w' := by
  have hgs := fun W => knGood_any sLR s W (by decide) hs
  have hgt := fun W => knGood_any sLCR t W (by decide) ht
  rcases h1 : gdB sLR s with _ | _
  · have hz : spZ s t = false := by unfold spZ; rw [h1]; rfl
    rw [sp_no hz, hz]
    rw [h1] at hgs
    have HS := hide hgs
    clear hgs hgt h1 hz
    go_enter Tryd.func20, Tryd.ntmps20
    go_wp2_with (go_at_call 24; (with_reducible refine ((unhide HS) _).mono ?_); rintro e w1 ⟨rfl, hbw1⟩; obtain ⟨hcw1, hfw1⟩ := bcell hbw1; have hzw1 := hbw1.size; (try simp at hzw1))
    go_ret2
    exact ⟨rfl, (by repeat (first | with_reducible exact Below.refl _ _ | with_reducible assumption | (with_reducible refine Below.trans ?_ (Below.mono (by assumption) (by first | omega | (simp <;> omega)))) | with_reducible apply Below.drew | with_reducible apply below_drewN | (with_reducible refine Below.alloc ?_ (by first | omega | (simp <;> omega)) _) | (with_reducible refine Below.setCell ?_ (by first | omega | (simp <;> omega)) _)))⟩
  · rw [h1] at hgs
    by_cases h9 : s.size ≤ 9
    · rcases h2 : gdB sLCR t with _ | _
      · have hz : spZ s t = false := by unfold spZ; rw [h1, h2, Bool.false_and, Bool.and_false, Bool.and_false]
        rw [sp_no hz, hz]
        rw [h2] at hgt
        have HS := hide hgs; have HT := hide hgt
        have e9 : ¬ (s.size : Int) > 9 := by omega
        clear hgs hgt h1 h2 hz
        go_enter Tryd.func20, Tryd.ntmps20
        go_wp2_with (first
          | (go_at_call 24; have _t := hbw1; clear _t; (with_reducible refine ((unhide HT) _).mono ?_); rintro e w2 ⟨rfl, hbw2⟩; obtain ⟨hcw2, hfw2⟩ := bcell hbw2; have hzw2 := hbw2.size; (try simp at hzw2))
          | (go_at_call 24; (with_reducible refine ((unhide HS) _).mono ?_); rintro e w1 ⟨rfl, hbw1⟩; obtain ⟨hcw1, hfw1⟩ := bcell hbw1; have hzw1 := hbw1.size; (try simp at hzw1)))
        go_ret2
        exact ⟨rfl, (by repeat (first | with_reducible exact Below.refl _ _ | with_reducible assumption | (with_reducible refine Below.trans ?_ (Below.mono (by assumption) (by first | omega | (simp <;> omega)))) | with_reducible apply Below.drew | with_reducible apply below_drewN | (with_reducible refine Below.alloc ?_ (by first | omega | (simp <;> omega)) _) | (with_reducible refine Below.setCell ?_ (by first | omega | (simp <;> omega)) _)))⟩
      · by_cases h3 : t.size ≤ 3
        · have hz : spZ s t = true := by unfold spZ; rw [h1, h2, decide_eq_true h9, decide_eq_true h3]; rfl
          rw [sp_yes hz, hz]
          exact sStar_good s t w h1 h9 h2 h3
        · have hz : spZ s t = false := by unfold spZ; rw [h1, h2, decide_eq_true h9, decide_eq_false h3]; rfl
          rw [sp_no hz, hz]
          rw [h2] at hgt
          have HS := hide hgs; have HT := hide hgt
          have e9 : ¬ (s.size : Int) > 9 := by omega
          have e3 : (t.size : Int) > 3 := by omega
          clear hgs hgt h1 h2 hz
          go_enter Tryd.func20, Tryd.ntmps20
          go_wp2_with (first
            | (go_at_call 24; have _t := hbw1; clear _t; (with_reducible refine ((unhide HT) _).mono ?_); rintro e w2 ⟨rfl, hbw2⟩; obtain ⟨hcw2, hfw2⟩ := bcell hbw2; have hzw2 := hbw2.size; (try simp at hzw2))
            | (go_at_call 24; (with_reducible refine ((unhide HS) _).mono ?_); rintro e w1 ⟨rfl, hbw1⟩; obtain ⟨hcw1, hfw1⟩ := bcell hbw1; have hzw1 := hbw1.size; (try simp at hzw1)))
          go_ret2
          exact ⟨rfl, (by repeat (first | with_reducible exact Below.refl _ _ | with_reducible assumption | (with_reducible refine Below.trans ?_ (Below.mono (by assumption) (by first | omega | (simp <;> omega)))) | with_reducible apply Below.drew | with_reducible apply below_drewN | (with_reducible refine Below.alloc ?_ (by first | omega | (simp <;> omega)) _) | (with_reducible refine Below.setCell ?_ (by first | omega | (simp <;> omega)) _)))⟩
    · have hz : spZ s t = false := by unfold spZ; rw [decide_eq_false h9, Bool.false_and, Bool.and_false]
      rw [sp_no hz, hz]
      have HS := hide hgs
      have e9 : (s.size : Int) > 9 := by omega
      clear hgs hgt h1 hz
      go_enter Tryd.func20, Tryd.ntmps20
      go_wp2_with (go_at_call 24; (with_reducible refine ((unhide HS) _).mono ?_); rintro e w1 ⟨rfl, hbw1⟩; obtain ⟨hcw1, hfw1⟩ := bcell hbw1; have hzw1 := hbw1.size; (try simp at hzw1))
      go_ret2
      exact ⟨rfl, (by repeat (first | with_reducible exact Below.refl _ _ | with_reducible assumption | (with_reducible refine Below.trans ?_ (Below.mono (by assumption) (by first | omega | (simp <;> omega)))) | with_reducible apply Below.drew | with_reducible apply below_drewN | (with_reducible refine Below.alloc ?_ (by first | omega | (simp <;> omega)) _) | (with_reducible refine Below.setCell ?_ (by first | omega | (simp <;> omega)) _)))⟩

set_option maxRecDepth 100000 in
set_option maxHeartbeats 1600000 in
theorem iStar_good (s t : ByteArray) (w : World) (h1 : gdB sLCR s = true) (h67 : s.data.toList.contains 67 = false) (h9 : s.size ≤ 9) (h2 : gdB sLCR t = true) (h3 : t.size ≤ 3) :
    Calls Tryd.prog 21 #[.string s, .string t] w fun e w' => e = .returned (.tuple #[.string ⟨(spK s.data.toList (spO s) t.data.toList t.size).toArray⟩, .bool true]) ∧ Below w.heap.size w w' := by
  have hgs := fun W => iIsKneadingWord_any s W (by omega)
  have hgt := fun W => iIsKneadingWord_any t W (by omega)
  rw [h1] at hgs
  rw [h2] at hgt
  have hct : ∀ W, Calls Tryd.prog 38 #[.string s, .string ⟨#[67]⟩] W fun e w' => e = .returned (.bool false) ∧ w' = W := fun W => by
    have h := Tryd.strings_Contains_one s 67 W
    rw [ix_has, h67] at h
    exact h
  have htr := fun W => turnsRound_any s W
  have hll := sz_list s
  have HGS := hide hgs; have HGT := hide hgt; have HCT := hide hct; have HTR := hide htr; have HLL := Lib.hid hll
  have HTG := hide (fun (k : Nat) (hk : k < t.size) => gd_at h2 hk)
  clear hgs hgt h1 h2 hct htr hll h67
  have e9 : ¬ (s.size : Int) > 9 := by omega
  have e3 : ¬ (t.size : Int) > 3 := by omega
  obtain ⟨Z, hZ⟩ : ∃ Z, Z = spK s.data.toList (spO s) t.data.toList t.size := ⟨_, rfl⟩
  rw [← hZ]
  have HZ := Lib.hid hZ
  clear hZ
  rw [show decide (s.data.toList.count 82 % 2 = 1) = spO s from rfl] at HTR
  generalize spO s = odd at *
  go_enter Tryd.func21, Tryd.ntmps21
  go_wp2_with (first
    | (go_at_call 10; have _t := hbw1; clear _t; (with_reducible refine ((unhide HGT) _).mono ?_); rintro e w2 ⟨rfl, hbw2⟩; obtain ⟨hcw2, hfw2⟩ := bcell hbw2; have hzw2 := hbw2.size; (try simp at hzw2))
    | (go_at_call 10; (with_reducible refine ((unhide HGS) _).mono ?_); rintro e w1 ⟨rfl, hbw1⟩; obtain ⟨hcw1, hfw1⟩ := bcell hbw1; have hzw1 := hbw1.size; (try simp at hzw1))
    | (go_at_call 38; (with_reducible refine ((unhide HCT) _).mono ?_); rintro e w4 ⟨rfl, rfl⟩))
  have hbA : Below w.heap.size w w4 := (by repeat (first | with_reducible exact Below.refl _ _ | with_reducible assumption | (with_reducible refine Below.trans ?_ (Below.mono (by assumption) (by first | omega | (simp <;> omega)))) | with_reducible apply Below.drew | with_reducible apply below_drewN | (with_reducible refine Below.alloc ?_ (by first | omega | (simp <;> omega)) _) | (with_reducible refine Below.setCell ?_ (by first | omega | (simp <;> omega)) _)))
  have HBA := hide hbA
  have hzA := hbA.size
  clear hbA hbw1 hbw2 hcw1 hfw1 hcw2 hfw2
  have hfb := hide (Lib.fresh_isBuilder 52 5 w4)
  go_loopw [33] (fun i wr => ∃ j : Nat, i = .int .i64 j ∧ j ≤ t.size ∧ Hid (Lib.IsBuilder 52 5 w4.heap.size w4.heap.size (Lib.byteCells (spK s.data.toList odd t.data.toList j)) wr) ∧ Below w4.heap.size w4 wr) (fun i _ => t.size - (intOf i).toNat)
  case atStart => exact ⟨0, rfl, Nat.zero_le _, hfb, (by repeat (first | with_reducible exact Below.refl _ _ | with_reducible assumption | (with_reducible refine Below.trans ?_ (Below.mono (by assumption) (by first | omega | (simp <;> omega)))) | with_reducible apply Below.drew | with_reducible apply below_drewN | (with_reducible refine Below.alloc ?_ (by first | omega | (simp <;> omega)) _) | (with_reducible refine Below.setCell ?_ (by first | omega | (simp <;> omega)) _)))⟩
  case round =>
    obtain ⟨j, rfl, hj, HI, hb⟩ := hrel
    have hzr := hb.size
    have HB := hide hb
    clear hfb hb
    by_cases hlj : j < t.size
    · have hsn : spK s.data.toList odd t.data.toList (j + 1) = spK s.data.toList odd t.data.toList j ++ (s.data.toList ++ [spC odd (t[j]'hlj)]) := by rw [spK, getD_at t hlj]
      have hsl := spK_len s.data.toList odd t.data.toList j
      obtain ⟨T, hT⟩ : ∃ T, T = spK s.data.toList odd t.data.toList j := ⟨_, rfl⟩
      rw [← hT] at hsn hsl HI
      have hsz : T.length ≤ 30 := by
        rw [hsl, HLL.out]
        have : j * (s.size + 1) ≤ 3 * 10 := Nat.mul_le_mul (by omega) (by omega)
        omega
      have hlb : (Lib.byteCells T).length ≤ 30 := by rw [Lib.byteCells_length]; exact hsz
      have hlb2 : (Lib.byteCells T ++ Lib.strCells s).length ≤ 60 := by
        have e : Lib.strCells s = Lib.byteCells s.data.toList := by
          have h : Lib.strCells ⟨s.data.toList.toArray⟩ = Lib.byteCells s.data.toList := rfl
          rw [← as_list s] at h
          exact h
        rw [List.length_append, e, Lib.byteCells_length, Lib.byteCells_length, HLL.out]; omega
      have hap : Lib.byteCells (spK s.data.toList odd t.data.toList (j + 1)) = (Lib.byteCells T ++ Lib.strCells s) ++ [.int .u8 ((spC odd (t[j]'hlj)).toNat : Int)] := by
        have e : Lib.strCells s = Lib.byteCells s.data.toList := by
          have h : Lib.strCells ⟨s.data.toList.toArray⟩ = Lib.byteCells s.data.toList := rfl
          rw [← as_list s] at h
          exact h
        rw [hsn, Lib.byteCells_append, Lib.byteCells_append, e, List.append_assoc]; rfl
      have hexc := fun W => exchanged_any (t[j]'hlj) W
      have HAP := hide hap; have HEX := hide hexc; have HLB := hide hlb; have HLB2 := hide hlb2
      clear hsn hsl hT hap hexc hlb hlb2
      cases odd
      all_goals
        go_wp2_with (first
          | (go_at_call 29; (with_reducible refine ((unhide HTR) _).mono ?_); rintro e w' ⟨rfl, rfl⟩)
          | (go_at_call 39; (with_reducible refine ((unhide HEX) _).mono ?_); rintro e w' ⟨rfl, rfl⟩)
          | (go_at_call 40; refine (Tryd.Builder_WriteString w4.heap.size w4.heap.size (Lib.byteCells T) s _ (unhide HI) (by have := unhide HLB; omega) ?pc).mono ?_; (case pc => omega); rintro e w5 ⟨rfl, hB5, hb5⟩; have hz5 := hb5.size)
          | (go_at_call 41; refine (Tryd.Builder_WriteByte w4.heap.size w4.heap.size (Lib.byteCells T ++ Lib.strCells s) _ _ (.inr hB5) (by have := unhide HLB2; omega) ?pd).mono ?_; (case pd => omega); rintro e w6 ⟨rfl, hB6, hb6⟩; have hz6 := hb6.size))
        have hbz := ((unhide HB).trans hb5).trans hb6
        have HB6 := hide hB6; have HBZ := hide hbz
        clear hB5 hB6 hb5 hb6 hbz
        go_wp2_with fail
        go_roundw
        case rel => exact ⟨j + 1, by go_num, by omega, hide (.inr (by rw [unhide HAP]; exact unhide HB6)), unhide HBZ⟩
        case measure => (simp [intOf] <;> omega)
    · obtain rfl : j = t.size := by omega
      rw [← HZ.out] at HI
      go_wp2_with (go_at_call 42; refine (Tryd.Builder_String_any w4.heap.size w4.heap.size Z _ (unhide HI) (by omega)).mono ?_; rintro e w6 ⟨rfl, hb6⟩)
      go_ret2
      exact ⟨rfl, (unhide HBA).trans (((unhide HB).trans hb6).mono hzA)⟩

set_option maxRecDepth 100000 in
set_option maxHeartbeats 1600000 in
theorem iStarProduct_any (s t : ByteArray) (w : World) (hs : s.size ≤ 1048576) (ht : t.size ≤ 1048576) :
    Calls Tryd.prog 21 #[.string s, .string t] w fun e w' => e = .returned (.tuple #[.string ⟨(spT s t).toArray⟩, .bool (spZ s t)]) ∧ Below w.heap.size w w' := by
  have hgs := fun W => iIsKneadingWord_any s W hs
  have hgt := fun W => iIsKneadingWord_any t W ht
  have hlr := lr_lcr s
  rcases h1 : gdB sLCR s with _ | _
  · have hz : spZ s t = false := by unfold spZ; rw [hlr, h1]; rfl
    rw [sp_no hz, hz]
    rw [h1] at hgs
    have HS := hide hgs
    clear hgs hgt h1 hz hlr
    go_enter Tryd.func21, Tryd.ntmps21
    go_wp2_with (go_at_call 10; (with_reducible refine ((unhide HS) _).mono ?_); rintro e w1 ⟨rfl, hbw1⟩; obtain ⟨hcw1, hfw1⟩ := bcell hbw1; have hzw1 := hbw1.size; (try simp at hzw1))
    go_ret2
    exact ⟨rfl, (by repeat (first | with_reducible exact Below.refl _ _ | with_reducible assumption | (with_reducible refine Below.trans ?_ (Below.mono (by assumption) (by first | omega | (simp <;> omega)))) | with_reducible apply Below.drew | with_reducible apply below_drewN | (with_reducible refine Below.alloc ?_ (by first | omega | (simp <;> omega)) _) | (with_reducible refine Below.setCell ?_ (by first | omega | (simp <;> omega)) _)))⟩
  · rw [h1] at hgs
    rcases h2 : gdB sLCR t with _ | _
    · have hz : spZ s t = false := by unfold spZ; rw [h2, Bool.false_and, Bool.and_false, Bool.and_false]
      rw [sp_no hz, hz]
      rw [h2] at hgt
      have HS := hide hgs; have HT := hide hgt
      clear hgs hgt h1 h2 hz hlr
      go_enter Tryd.func21, Tryd.ntmps21
      go_wp2_with (first
        | (go_at_call 10; have _t := hbw1; clear _t; (with_reducible refine ((unhide HT) _).mono ?_); rintro e w2 ⟨rfl, hbw2⟩; obtain ⟨hcw2, hfw2⟩ := bcell hbw2; have hzw2 := hbw2.size; (try simp at hzw2))
        | (go_at_call 10; (with_reducible refine ((unhide HS) _).mono ?_); rintro e w1 ⟨rfl, hbw1⟩; obtain ⟨hcw1, hfw1⟩ := bcell hbw1; have hzw1 := hbw1.size; (try simp at hzw1)))
      go_ret2
      exact ⟨rfl, (by repeat (first | with_reducible exact Below.refl _ _ | with_reducible assumption | (with_reducible refine Below.trans ?_ (Below.mono (by assumption) (by first | omega | (simp <;> omega)))) | with_reducible apply Below.drew | with_reducible apply below_drewN | (with_reducible refine Below.alloc ?_ (by first | omega | (simp <;> omega)) _) | (with_reducible refine Below.setCell ?_ (by first | omega | (simp <;> omega)) _)))⟩
    · rw [h2] at hgt
      by_cases h9 : s.size ≤ 9
      · by_cases h3 : t.size ≤ 3
        · cases h67 : s.data.toList.contains 67 with
          | false =>
            have hz : spZ s t = true := by unfold spZ; rw [hlr, h1, h2, h67, decide_eq_true h9, decide_eq_true h3]; rfl
            rw [sp_yes hz, hz]
            exact iStar_good s t w h1 h67 h9 h2 h3
          | true =>
            have hz : spZ s t = false := by unfold spZ; rw [hlr, h67, Bool.not_true, Bool.and_false, Bool.false_and]
            rw [sp_no hz, hz]
            have hct : ∀ W, Calls Tryd.prog 38 #[.string s, .string ⟨#[67]⟩] W fun e w' => e = .returned (.bool true) ∧ w' = W := fun W => by
              have h := Tryd.strings_Contains_one s 67 W
              rw [ix_has, h67] at h
              exact h
            have HS := hide hgs; have HT := hide hgt; have HCT := hide hct
            have e9 : ¬ (s.size : Int) > 9 := by omega
            have e3 : ¬ (t.size : Int) > 3 := by omega
            clear hgs hgt h1 h2 hz hlr hct h67
            go_enter Tryd.func21, Tryd.ntmps21
            go_wp2_with (first
              | (go_at_call 10; have _t := hbw1; clear _t; (with_reducible refine ((unhide HT) _).mono ?_); rintro e w2 ⟨rfl, hbw2⟩; obtain ⟨hcw2, hfw2⟩ := bcell hbw2; have hzw2 := hbw2.size; (try simp at hzw2))
              | (go_at_call 10; (with_reducible refine ((unhide HS) _).mono ?_); rintro e w1 ⟨rfl, hbw1⟩; obtain ⟨hcw1, hfw1⟩ := bcell hbw1; have hzw1 := hbw1.size; (try simp at hzw1))
              | (go_at_call 38; (with_reducible refine ((unhide HCT) _).mono ?_); rintro e w4 ⟨rfl, rfl⟩))
            go_ret2
            exact ⟨rfl, (by repeat (first | with_reducible exact Below.refl _ _ | with_reducible assumption | (with_reducible refine Below.trans ?_ (Below.mono (by assumption) (by first | omega | (simp <;> omega)))) | with_reducible apply Below.drew | with_reducible apply below_drewN | (with_reducible refine Below.alloc ?_ (by first | omega | (simp <;> omega)) _) | (with_reducible refine Below.setCell ?_ (by first | omega | (simp <;> omega)) _)))⟩
        · have hz : spZ s t = false := by unfold spZ; rw [decide_eq_false h3, Bool.and_false, Bool.and_false, Bool.and_false]
          rw [sp_no hz, hz]
          have HS := hide hgs; have HT := hide hgt
          have e9 : ¬ (s.size : Int) > 9 := by omega
          have e3 : (t.size : Int) > 3 := by omega
          clear hgs hgt h1 h2 hz hlr
          go_enter Tryd.func21, Tryd.ntmps21
          go_wp2_with (first
            | (go_at_call 10; have _t := hbw1; clear _t; (with_reducible refine ((unhide HT) _).mono ?_); rintro e w2 ⟨rfl, hbw2⟩; obtain ⟨hcw2, hfw2⟩ := bcell hbw2; have hzw2 := hbw2.size; (try simp at hzw2))
            | (go_at_call 10; (with_reducible refine ((unhide HS) _).mono ?_); rintro e w1 ⟨rfl, hbw1⟩; obtain ⟨hcw1, hfw1⟩ := bcell hbw1; have hzw1 := hbw1.size; (try simp at hzw1)))
          go_ret2
          exact ⟨rfl, (by repeat (first | with_reducible exact Below.refl _ _ | with_reducible assumption | (with_reducible refine Below.trans ?_ (Below.mono (by assumption) (by first | omega | (simp <;> omega)))) | with_reducible apply Below.drew | with_reducible apply below_drewN | (with_reducible refine Below.alloc ?_ (by first | omega | (simp <;> omega)) _) | (with_reducible refine Below.setCell ?_ (by first | omega | (simp <;> omega)) _)))⟩
      · have hz : spZ s t = false := by unfold spZ; rw [decide_eq_false h9, Bool.false_and, Bool.and_false]
        rw [sp_no hz, hz]
        have HS := hide hgs; have HT := hide hgt
        have e9 : (s.size : Int) > 9 := by omega
        clear hgs hgt h1 h2 hz hlr
        go_enter Tryd.func21, Tryd.ntmps21
        go_wp2_with (first
          | (go_at_call 10; have _t := hbw1; clear _t; (with_reducible refine ((unhide HT) _).mono ?_); rintro e w2 ⟨rfl, hbw2⟩; obtain ⟨hcw2, hfw2⟩ := bcell hbw2; have hzw2 := hbw2.size; (try simp at hzw2))
          | (go_at_call 10; (with_reducible refine ((unhide HS) _).mono ?_); rintro e w1 ⟨rfl, hbw1⟩; obtain ⟨hcw1, hfw1⟩ := bcell hbw1; have hzw1 := hbw1.size; (try simp at hzw1)))
        go_ret2
        exact ⟨rfl, (by repeat (first | with_reducible exact Below.refl _ _ | with_reducible assumption | (with_reducible refine Below.trans ?_ (Below.mono (by assumption) (by first | omega | (simp <;> omega)))) | with_reducible apply Below.drew | with_reducible apply below_drewN | (with_reducible refine Below.alloc ?_ (by first | omega | (simp <;> omega)) _) | (with_reducible refine Below.setCell ?_ (by first | omega | (simp <;> omega)) _)))⟩
end Go.Proofs.YtldmgjeecomddaaDoor

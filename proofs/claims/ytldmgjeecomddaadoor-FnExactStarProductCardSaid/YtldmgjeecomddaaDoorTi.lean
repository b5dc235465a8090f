/-
  Chapter 7: the order of words; CompareKneading of the model.
-/
import Derived.Test.YtldmgjeecomddaaDoorTg
namespace Go.Proofs.YtldmgjeecomddaaDoor
open Go.RowKit Rm

def rkB (c : UInt8) : Int := if c = 76 then 0 else if c = 67 then 1 else 2
theorem rk_bd (c : UInt8) : 0 ≤ rkB c ∧ rkB c ≤ 2 := by unfold rkB; split; omega; split <;> omega
def sgR (n : Nat) : Int := if n % 2 = 1 then -1 else 1
theorem sgR_succ (n : Nat) : sgR (n + 1) = -sgR n := by unfold sgR; split <;> split <;> omega
theorem sgR_bd (n : Nat) : sgR n = 1 ∨ sgR n = -1 := by unfold sgR; split <;> simp
/-- The order from place i on, n places left. -/
def ckF (a b : List UInt8) : Nat → Nat → Int
  | 0, _ => 0
  | n + 1, i => if a.getD i 0 = b.getD i 0 then ckF a b n (i + 1) else sgR ((a.take i).count 82) * (rkB (a.getD i 0) - rkB (b.getD i 0)).sign
theorem ckF_eq {a b : List UInt8} : ∀ (n i : Nat), (∀ j, i ≤ j → j < i + n → a.getD j 0 = b.getD j 0) → ckF a b n i = 0
  | 0, _, _ => rfl
  | n + 1, i, h => by
    rw [ckF, if_pos (h i (Nat.le_refl _) (by omega))]
    exact ckF_eq n (i + 1) fun j h1 h2 => h j (by omega) (by omega)
theorem ckF_ne {a b : List UInt8} {k : Nat} (hne : a.getD k 0 ≠ b.getD k 0) : ∀ (n i : Nat), i ≤ k → k < i + n → (∀ j, i ≤ j → j < k → a.getD j 0 = b.getD j 0) → ckF a b n i = sgR ((a.take k).count 82) * (rkB (a.getD k 0) - rkB (b.getD k 0)).sign
  | 0, i, h1, h2, _ => by omega
  | n + 1, i, h1, h2, h => by
    rw [ckF]
    by_cases e : i = k
    · subst e; rw [if_neg hne]
    · rw [if_pos (h i (Nat.le_refl _) (by omega))]
      exact ckF_ne hne n (i + 1) (by omega) (by omega) fun j h3 h4 => h j (by omega) h4
theorem take_count {a : List UInt8} {k : Nat} (hk : k < a.length) : (a.take (k + 1)).count 82 = (a.take k).count 82 + (if a.getD k 0 = 82 then 1 else 0) := by
  rw [List.take_add_one, List.getElem?_eq_getElem hk, List.count_append, List.getD_eq_getElem?_getD, List.getElem?_eq_getElem hk]
  simp [List.count_singleton]
theorem gd_size' {t s : ByteArray} (h : gdB t s = true) : 1 ≤ s.size ∧ s.size ≤ 30 := by
  unfold gdB at h
  rw [Bool.and_eq_true] at h
  exact of_decide_eq_true h.2
theorem getD_at (s : ByteArray) {k : Nat} (hk : k < s.size) : s.data.toList.getD k 0 = s[k] := by
  rw [List.getD_eq_getElem?_getD, at_list s hk]; rfl
def ckZ (s t : ByteArray) : Bool := gdB sLCR s && (gdB sLCR t && decide (s.size = t.size))
def ckI (s t : ByteArray) : Int := match ckZ s t with | true => ckF s.data.toList t.data.toList s.size 0 | false => 0

set_option maxHeartbeats 400000 in
theorem sgn_any (n : Int) (w : World) :
    Calls Tryd.prog 53 #[.int .i64 n] w fun e w' => e = .returned (.int .i64 n.sign) ∧ w = w' := by
  rcases Int.lt_trichotomy n 0 with hd | hd | hd
  · rw [Int.sign_eq_neg_one_of_neg hd]
    go_enter Tryd.func53, Tryd.ntmps53
    go_wp2
    go_ret
    exact ⟨rfl, rfl⟩
  · subst hd
    go_enter Tryd.func53, Tryd.ntmps53
    go_wp2
    go_ret
    exact ⟨rfl, rfl⟩
  · rw [Int.sign_eq_one_of_pos hd]
    go_enter Tryd.func53, Tryd.ntmps53
    go_wp2
    go_ret
    exact ⟨rfl, rfl⟩
set_option maxRecDepth 100000 in
theorem knRank_any (c : UInt8) (w : World) : Calls Tryd.prog 52 #[.int .u8 (c.toNat : Int)] w fun e w' => e = .returned (.int .i64 (rkB c)) ∧ w = w' := by
  by_cases h1 : c = 76
  · subst h1
    go_enter Tryd.func52, Tryd.ntmps52
    go_wp2_with fail
    go_ret
    exact ⟨rfl, rfl⟩
  · by_cases h2 : c = 67
    · subst h2
      go_enter Tryd.func52, Tryd.ntmps52
      go_wp2_with fail
      go_ret
      exact ⟨rfl, rfl⟩
    · have hb : rkB c = 2 := by unfold rkB; rw [if_neg h1, if_neg h2]
      rw [hb]
      have e1 : ¬ (c.toNat : Int) = 76 := fun h => h1 (UInt8.toNat_inj.1 (by have : (76 : UInt8).toNat = 76 := rfl; omega))
      have e2 : ¬ (c.toNat : Int) = 67 := fun h => h2 (UInt8.toNat_inj.1 (by have : (67 : UInt8).toNat = 67 := rfl; omega))
      have f1 : ((c.toNat : Int) == 76) = false := beq_eq_false_iff_ne.2 e1
      have f2 : ((c.toNat : Int) == 67) = false := beq_eq_false_iff_ne.2 e2
      clear hb h1 h2
      generalize (c.toNat : Int) = x at *
      go_enter Tryd.func52, Tryd.ntmps52
      go_wp2_with fail
      go_ret
      exact ⟨rfl, rfl⟩

set_option maxRecDepth 100000 in
set_option maxHeartbeats 1600000 in
theorem knCompare_any (s t : ByteArray) (w : World) (hs : s.size ≤ 1000) (hst : s.size ≤ t.size) :
    Calls Tryd.prog 26 #[.string s, .string t] w fun e w' => e = .returned (.int .i64 (ckF s.data.toList t.data.toList s.size 0)) ∧ Below w.heap.size w w' := by
  have hrk := fun (c : UInt8) W => knRank_any c W
  have HRK := hide hrk
  clear hrk
  obtain ⟨z, hz⟩ : ∃ z, z = ckF s.data.toList t.data.toList s.size 0 := ⟨_, rfl⟩
  rw [← hz]
  have HZ := Lib.hid hz
  clear hz
  go_enter Tryd.func26, Tryd.ntmps26
  go_wp2_with fail
  go_loopw [5, 6] (fun g i wr => ∃ k : Nat, i = .int .i64 k ∧ k ≤ s.size ∧ g = .int .i64 (sgR ((s.data.toList.take k).count 82)) ∧ Hid (∀ j, j < k → s.data.toList.getD j 0 = t.data.toList.getD j 0) ∧ Below w.heap.size w wr) (fun _ i _ => s.size - (intOf i).toNat)
  case atStart => exact ⟨0, rfl, Nat.zero_le _, by simp [sgR], hide (fun j h => by omega), Below.refl _ _⟩
  case round =>
    obtain ⟨k, rfl, hk, rfl, hpre, hb⟩ := hrel
    have hzr := hb.size
    have HB := hide hb
    clear hb
    by_cases hlt : k < s.size
    · have hlt2 : k < t.size := by omega
      have hx := getD_at s hlt
      have hy := getD_at t hlt2
      have htc := take_count (a := s.data.toList) (k := k) (by rw [sz_list]; exact hlt)
      have hsg := sgR_bd ((s.data.toList.take k).count 82)
      rw [hx] at htc
      by_cases he : s[k] = t[k]
      · have hp1 := hide (fun j (hj : j < k + 1) => show s.data.toList.getD j 0 = t.data.toList.getD j 0 from by
          rcases Nat.lt_or_ge j k with h1 | h1
          · exact (unhide hpre) j h1
          · obtain rfl : j = k := by omega
            rw [hx, hy, he])
        have e1 : (((s[k]'hlt).toNat : Int) = ((t[k]'hlt2).toNat : Int)) := by rw [he]
        clear hpre hx hy he
        by_cases h82 : s[k] = 82
        · rw [if_pos h82] at htc
          have hs1 := congrArg sgR htc
          rw [sgR_succ] at hs1
          have f1 : (((s[k]'hlt).toNat : Int) = 82) := by rw [h82]; rfl
          have HS1 := Lib.hid hs1
          clear hs1 htc h82
          generalize sgR ((s.data.toList.take k).count 82) = sg at *
          have w1 : IntKind.i64.wrap (-sg) = -sg := IntWalk.i64_in _ (by omega)
          go_wp2_with fail
          go_quiet (fail)
          go_wp2_with fail
          have hb := unhide HB
          go_roundw
          case rel => exact ⟨k + 1, by go_num, by omega, by rw [HS1.out], hp1, (by repeat (first | with_reducible exact Below.refl _ _ | with_reducible assumption | (with_reducible refine Below.trans ?_ (Below.mono (by assumption) (by first | omega | (simp <;> omega)))) | with_reducible apply Below.drew | with_reducible apply below_drewN | (with_reducible refine Below.alloc ?_ (by first | omega | (simp <;> omega)) _) | (with_reducible refine Below.setCell ?_ (by first | omega | (simp <;> omega)) _)))⟩
          case measure => (simp [intOf] <;> omega)
        · rw [if_neg h82, Nat.add_zero] at htc
          have f1 : ¬ (((s[k]'hlt).toNat : Int) = 82) := fun h => h82 (UInt8.toNat_inj.1 (by have : (82 : UInt8).toNat = 82 := rfl; omega))
          have f2 : ((((s[k]'hlt).toNat : Int)) == 82) = false := beq_eq_false_iff_ne.2 f1
          have hs1 := congrArg sgR htc
          have HS1 := Lib.hid hs1
          clear hs1 htc h82
          rw [e1] at f1 f2
          generalize sgR ((s.data.toList.take k).count 82) = sg at *
          go_wp2_with fail
          go_quiet (fail)
          go_wp2_with fail
          have hb := unhide HB
          go_roundw
          case rel => exact ⟨k + 1, by go_num, by omega, by rw [HS1.out], hp1, (by repeat (first | with_reducible exact Below.refl _ _ | with_reducible assumption | (with_reducible refine Below.trans ?_ (Below.mono (by assumption) (by first | omega | (simp <;> omega)))) | with_reducible apply Below.drew | with_reducible apply below_drewN | (with_reducible refine Below.alloc ?_ (by first | omega | (simp <;> omega)) _) | (with_reducible refine Below.setCell ?_ (by first | omega | (simp <;> omega)) _)))⟩
          case measure => (simp [intOf] <;> omega)
      · have hne : s.data.toList.getD k 0 ≠ t.data.toList.getD k 0 := by rw [hx, hy]; exact he
        have hcw := ckF_ne hne s.size 0 (by omega) (by omega) (fun j _ hj => (unhide hpre) j hj)
        rw [hx, hy] at hcw
        rw [← HZ.out] at hcw
        have e1 : ¬ (((s[k]'hlt).toNat : Int) = ((t[k]'hlt2).toNat : Int)) := fun h => he (UInt8.toNat_inj.1 (by omega))
        have e2 : ((((s[k]'hlt).toNat : Int)) == ((t[k]'hlt2).toNat : Int)) = false := beq_eq_false_iff_ne.2 e1
        have ha := (unhide HRK) (s[k]'hlt)
        have hb' := (unhide HRK) (t[k]'hlt2)
        have hr1 := rk_bd (s[k]'hlt)
        have hr2 := rk_bd (t[k]'hlt2)
        have w1 : IntKind.i64.wrap (rkB (s[k]'hlt) - rkB (t[k]'hlt2)) = rkB (s[k]'hlt) - rkB (t[k]'hlt2) := IntWalk.i64_in _ (by omega)
        have hsn : (rkB (s[k]'hlt) - rkB (t[k]'hlt2)).sign = 1 ∨ (rkB (s[k]'hlt) - rkB (t[k]'hlt2)).sign = 0 ∨ (rkB (s[k]'hlt) - rkB (t[k]'hlt2)).sign = -1 := by
          rcases Int.lt_trichotomy (rkB (s[k]'hlt) - rkB (t[k]'hlt2)) 0 with hd | hd | hd
          · exact .inr (.inr (Int.sign_eq_neg_one_of_neg hd))
          · rw [hd]; exact .inr (.inl rfl)
          · exact .inl (Int.sign_eq_one_of_pos hd)
        have w2 : IntKind.i64.wrap (sgR ((s.data.toList.take k).count 82) * (rkB (s[k]'hlt) - rkB (t[k]'hlt2)).sign) = sgR ((s.data.toList.take k).count 82) * (rkB (s[k]'hlt) - rkB (t[k]'hlt2)).sign := IntWalk.i64_in _ (by
          rcases hsg with h1 | h1 <;> rcases hsn with h2 | h2 | h2 <;> rw [h1, h2] <;> omega)
        have hsgn := fun W => sgn_any (rkB (s[k]'hlt) - rkB (t[k]'hlt2)) W
        have HSGN := hide hsgn; have HA := hide ha; have HB2 := hide hb'; have HCW := Lib.hid hcw
        clear hsgn ha hb' hcw hne hpre hx hy he htc hsn hr1 hr2 hsg HRK
        generalize (rkB (s[k]'hlt) - rkB (t[k]'hlt2)).sign = sn at *
        generalize sgR ((s.data.toList.take k).count 82) = sg at *
        generalize rkB (s[k]'hlt) = ra at *
        generalize rkB (t[k]'hlt2) = rb at *
        go_wp2_with fail
        go_quiet (fail)
        go_wp2_with fail
        go_region_held3 (fun w' => True) (trivial) (first
          | (go_at_call 52; (with_reducible refine ((unhide HA) _).mono ?_); rintro e w' ⟨rfl, rfl⟩)
          | (go_at_call 52; (with_reducible refine ((unhide HB2) _).mono ?_); rintro e w' ⟨rfl, rfl⟩))
        all_goals
          go_wp2_with (go_at_call 53; (with_reducible refine ((unhide HSGN) _).mono ?_); rintro e w' ⟨rfl, rfl⟩)
          have hb := unhide HB
          go_ret
          exact ⟨by rw [HCW.out]; rfl, (by repeat (first | with_reducible exact Below.refl _ _ | with_reducible assumption | (with_reducible refine Below.trans ?_ (Below.mono (by assumption) (by first | omega | (simp <;> omega)))) | with_reducible apply Below.drew | with_reducible apply below_drewN | (with_reducible refine Below.alloc ?_ (by first | omega | (simp <;> omega)) _) | (with_reducible refine Below.setCell ?_ (by first | omega | (simp <;> omega)) _)))⟩
    · obtain rfl : k = s.size := by omega
      have hall := ckF_eq (a := s.data.toList) (b := t.data.toList) s.size 0 (fun j _ hj => (unhide hpre) j (by omega))
      rw [← HZ.out] at hall
      subst hall
      go_wp2_with fail
      go_ret
      exact ⟨rfl, unhide HB⟩

set_option maxRecDepth 100000 in
set_option maxHeartbeats 800000 in
theorem sCompareKneading_any (s t : ByteArray) (w : World) (hs : s.size ≤ 1048576) (ht : t.size ≤ 1048576) :
    Calls Tryd.prog 11 #[.string s, .string t] w fun e w' => e = .returned (.tuple #[.int .i64 (ckI s t), .bool (ckZ s t)]) ∧ Below w.heap.size w w' := by
  have hgs := fun W => knGood_any sLCR s W (by decide) hs
  have hgt := fun W => knGood_any sLCR t W (by decide) ht
  rcases h1 : gdB sLCR s with _ | _
  · have hz : ckZ s t = false := by unfold ckZ; rw [h1]; rfl
    rw [show ckI s t = 0 by unfold ckI; rw [hz], hz]
    rw [h1] at hgs
    have HS := hide hgs
    clear hgs hgt h1 hz
    go_enter Tryd.func11, Tryd.ntmps11
    go_wp2_with (go_at_call 24; (with_reducible refine ((unhide HS) _).mono ?_); rintro e w1 ⟨rfl, hbw1⟩; obtain ⟨hcw1, hfw1⟩ := bcell hbw1; have hzw1 := hbw1.size; (try simp at hzw1))
    go_ret2
    exact ⟨rfl, (by repeat (first | with_reducible exact Below.refl _ _ | with_reducible assumption | (with_reducible refine Below.trans ?_ (Below.mono (by assumption) (by first | omega | (simp <;> omega)))) | with_reducible apply Below.drew | with_reducible apply below_drewN | (with_reducible refine Below.alloc ?_ (by first | omega | (simp <;> omega)) _) | (with_reducible refine Below.setCell ?_ (by first | omega | (simp <;> omega)) _)))⟩
  · rcases h2 : gdB sLCR t with _ | _
    · have hz : ckZ s t = false := by unfold ckZ; rw [h1, h2]; rfl
      rw [show ckI s t = 0 by unfold ckI; rw [hz], hz]
      rw [h1] at hgs
      rw [h2] at hgt
      have HS := hide hgs; have HT := hide hgt
      clear hgs hgt h1 h2 hz
      go_enter Tryd.func11, Tryd.ntmps11
      go_wp2_with (first
        | (go_at_call 24; have _t := hbw1; clear _t; (with_reducible refine ((unhide HT) _).mono ?_); rintro e w2 ⟨rfl, hbw2⟩; obtain ⟨hcw2, hfw2⟩ := bcell hbw2; have hzw2 := hbw2.size; (try simp at hzw2))
        | (go_at_call 24; (with_reducible refine ((unhide HS) _).mono ?_); rintro e w1 ⟨rfl, hbw1⟩; obtain ⟨hcw1, hfw1⟩ := bcell hbw1; have hzw1 := hbw1.size; (try simp at hzw1)))
      go_ret2
      exact ⟨rfl, (by repeat (first | with_reducible exact Below.refl _ _ | with_reducible assumption | (with_reducible refine Below.trans ?_ (Below.mono (by assumption) (by first | omega | (simp <;> omega)))) | with_reducible apply Below.drew | with_reducible apply below_drewN | (with_reducible refine Below.alloc ?_ (by first | omega | (simp <;> omega)) _) | (with_reducible refine Below.setCell ?_ (by first | omega | (simp <;> omega)) _)))⟩
    · have hzz : ckZ s t = decide (s.size = t.size) := by unfold ckZ; rw [h1, h2]; rfl
      have hs30 := gd_size' h1
      rw [h1] at hgs
      rw [h2] at hgt
      have HS := hide hgs; have HT := hide hgt
      by_cases hst : s.size = t.size
      · have hz : ckZ s t = true := by rw [hzz, decide_eq_true hst]
        rw [show ckI s t = ckF s.data.toList t.data.toList s.size 0 by unfold ckI; rw [hz], hz]
        have hcm := fun W => knCompare_any s t W (by omega) (by omega)
        have HCM := hide hcm
        have e1 : (s.size : Int) = (t.size : Int) := by omega
        clear hcm hgs hgt h1 h2 hz hzz
        generalize ckF s.data.toList t.data.toList s.size 0 = x at *
        go_enter Tryd.func11, Tryd.ntmps11
        go_wp2_with (first
          | (go_at_call 24; have _t := hbw1; clear _t; (with_reducible refine ((unhide HT) _).mono ?_); rintro e w2 ⟨rfl, hbw2⟩; obtain ⟨hcw2, hfw2⟩ := bcell hbw2; have hzw2 := hbw2.size; (try simp at hzw2))
          | (go_at_call 24; (with_reducible refine ((unhide HS) _).mono ?_); rintro e w1 ⟨rfl, hbw1⟩; obtain ⟨hcw1, hfw1⟩ := bcell hbw1; have hzw1 := hbw1.size; (try simp at hzw1))
          | (go_at_call 26; (with_reducible refine ((unhide HCM) _).mono ?_); rintro e w3 ⟨rfl, hbw3⟩; obtain ⟨hcw3, hfw3⟩ := bcell hbw3; have hzw3 := hbw3.size; (try simp at hzw3)))
        go_ret2
        exact ⟨rfl, (by repeat (first | with_reducible exact Below.refl _ _ | with_reducible assumption | (with_reducible refine Below.trans ?_ (Below.mono (by assumption) (by first | omega | (simp <;> omega)))) | with_reducible apply Below.drew | with_reducible apply below_drewN | (with_reducible refine Below.alloc ?_ (by first | omega | (simp <;> omega)) _) | (with_reducible refine Below.setCell ?_ (by first | omega | (simp <;> omega)) _)))⟩
      · have hz : ckZ s t = false := by rw [hzz, decide_eq_false hst]
        rw [show ckI s t = 0 by unfold ckI; rw [hz], hz]
        have e1 : ¬ (s.size : Int) = (t.size : Int) := by omega
        have e2 : ((s.size : Int) == (t.size : Int)) = false := beq_eq_false_iff_ne.2 e1
        clear hgs hgt h1 h2 hz hzz
        go_enter Tryd.func11, Tryd.ntmps11
        go_wp2_with (first
          | (go_at_call 24; have _t := hbw1; clear _t; (with_reducible refine ((unhide HT) _).mono ?_); rintro e w2 ⟨rfl, hbw2⟩; obtain ⟨hcw2, hfw2⟩ := bcell hbw2; have hzw2 := hbw2.size; (try simp at hzw2))
          | (go_at_call 24; (with_reducible refine ((unhide HS) _).mono ?_); rintro e w1 ⟨rfl, hbw1⟩; obtain ⟨hcw1, hfw1⟩ := bcell hbw1; have hzw1 := hbw1.size; (try simp at hzw1)))
        go_ret2
        exact ⟨rfl, (by repeat (first | with_reducible exact Below.refl _ _ | with_reducible assumption | (with_reducible refine Below.trans ?_ (Below.mono (by assumption) (by first | omega | (simp <;> omega)))) | with_reducible apply Below.drew | with_reducible apply below_drewN | (with_reducible refine Below.alloc ?_ (by first | omega | (simp <;> omega)) _) | (with_reducible refine Below.setCell ?_ (by first | omega | (simp <;> omega)) _)))⟩
end Go.Proofs.YtldmgjeecomddaaDoor

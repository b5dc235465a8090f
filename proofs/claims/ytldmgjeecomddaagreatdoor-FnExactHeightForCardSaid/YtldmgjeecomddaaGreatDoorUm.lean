/-
  Joined texts: Tf, Tg, Ti, Tj, Tk.
-/
import Derived.Test.YtldmgjeecomddaaGreatDoorRat
import Derived.Test.YtldmgjeecomddaaGreatDoorShelf
import Derived.Shelf.Strings.SlTrimAscii
import Derived.Lib.SmallJoins
import Derived.Deep.Cut
import Derived.Laws.CopyOwn
import Derived.Deep.OwnRows
import Derived.DeepKeys
import Derived.Deep.QuietTactic
import Derived.Deep.DeepCutAuto
import Derived.RegionTactic
namespace Go.Proofs.YtldmgjeecomddaaGreatDoor
open Go.RowKit Rm

abbrev sLCR : ByteArray := ⟨#[76, 67, 82]⟩
abbrev sLR : ByteArray := ⟨#[76, 82]⟩
/-- All bytes of s are among those of t. -/
def inB (t s : ByteArray) : Bool := s.data.toList.all fun b => t.data.toList.contains b
def gdB (t s : ByteArray) : Bool := inB t s && decide (1 ≤ s.size ∧ s.size ≤ 30)
theorem sz_list (s : ByteArray) : s.data.toList.length = s.size := (Lib.size_eq s).symm
theorem at_list (s : ByteArray) {k : Nat} (hk : k < s.size) : s.data.toList[k]? = some s[k] := by
  rw [List.getElem?_eq_getElem (by rw [sz_list]; exact hk)]; rfl
theorem inB_bad {t s : ByteArray} {k : Nat} (hk : k < s.size) (h : t.data.toList.contains s[k] = false) : inB t s = false := by
  unfold inB
  exact List.all_eq_false.2 ⟨s[k], List.mem_of_getElem? (at_list s hk), by rw [h]; decide⟩
theorem inB_good {t s : ByteArray} (h : ∀ k (hk : k < s.size), t.data.toList.contains s[k] = true) : inB t s = true := by
  unfold inB
  rw [List.all_eq_true]
  intro x hx
  obtain ⟨k, hk, rfl⟩ := List.mem_iff_getElem.1 hx
  exact h k (by simpa using hk)
theorem gd_no {t s : ByteArray} (h : inB t s = false) : gdB t s = false := by unfold gdB; rw [h]; rfl
theorem gd_in {t s : ByteArray} (h : inB t s = true) : gdB t s = decide (1 ≤ s.size ∧ s.size ≤ 30) := by unfold gdB; rw [h]; rfl
theorem take_has {t : ByteArray} {k : Nat} (hk : k < t.size) (x : UInt8) : (t.data.toList.take (k + 1)).contains x = ((t.data.toList.take k).contains x || x == t[k]) := by
  rw [List.take_add_one, at_list t hk]
  simp
  rfl

set_option maxRecDepth 100000 in
theorem knLen_any (m : Int) (w : World) : Calls Tryz.prog 17 #[.int .i64 m] w fun e w' => e = .returned (.bool (decide (1 ≤ m ∧ m ≤ 30))) ∧ w = w' := by
  by_cases h : 1 ≤ m ∧ m ≤ 30
  · rw [decide_eq_true h]
    go_enter Tryz.func17, Tryz.ntmps17
    go_wp2_with (go_at_call 37; refine (l1In_yes h _).mono ?_; rintro e w' ⟨rfl, rfl⟩)
    go_ret
    exact ⟨rfl, rfl⟩
  · rw [decide_eq_false h]
    go_enter Tryz.func17, Tryz.ntmps17
    go_wp2_with (go_at_call 37; refine (l1In_no h _).mono ?_; rintro e w' ⟨rfl, rfl⟩)
    go_ret
    exact ⟨rfl, rfl⟩

set_option maxRecDepth 100000 in
set_option maxHeartbeats 800000 in
theorem knGood_any (t s : ByteArray) (w : World) (ht : t.size ≤ 100) (hs : s.size ≤ 1048576) :
    Calls Tryz.prog 7 #[.string s, .string t] w fun e w' => e = .returned (.bool (gdB t s)) ∧ Below w.heap.size w w' := by
  obtain ⟨z, hz⟩ : ∃ z, z = gdB t s := ⟨_, rfl⟩
  rw [← hz]
  have hle := fun W => knLen_any (s.size : Int) W
  have HLE := hide hle
  have HZ := Lib.hid hz
  clear hz hle
  go_enter Tryz.func7, Tryz.ntmps7
  go_wp2_with fail
  go_loopw [5] (fun i wi => ∃ m : Nat, i = .int .i64 m ∧ m ≤ s.size ∧ Below w.heap.size w wi ∧ Hid (∀ j (hj : j < s.size), j < m → t.data.toList.contains s[j] = true)) (fun i _ => s.size - (intOf i).toNat)
  case atStart => exact ⟨0, rfl, by omega, Below.refl _ _, hide (fun j hj h => by omega)⟩
  case round =>
    obtain ⟨m, rfl, hm, hb, HG⟩ := hrel
    have HB := hide hb
    have hzo := hb.size
    clear hb
    by_cases hlt : m < s.size
    · have hbad : t.data.toList.contains s[m] = false → z = false := fun h => HZ.out.trans (gd_no (inB_bad hlt h))
      have hgx : t.data.toList.contains s[m] = true → ∀ j (hj : j < s.size), j < m + 1 → t.data.toList.contains s[j] = true := fun h j hj hj1 => by
        rcases Nat.lt_or_ge j m with h1 | h1
        · exact (unhide HG) j hj h1
        · obtain rfl : j = m := by omega
          exact h
      have HGX := hide hgx; have HBAD := hide hbad
      clear hgx hbad HG
      obtain ⟨wo, rfl⟩ : ∃ x, x = wr := ⟨wr, rfl⟩
      go_wp2_with fail
      go_loopw [6, 7] (fun f i wi => ∃ k : Nat, i = .int .i64 k ∧ k ≤ t.size ∧ f = .bool ((t.data.toList.take k).contains s[m]) ∧ Below wo.heap.size wo wi) (fun _ i _ => t.size - (intOf i).toNat)
      case atStart => exact ⟨0, rfl, by omega, by simp, Below.refl _ _⟩
      case round =>
        obtain ⟨k, rfl, hk, rfl, hbi⟩ := hrel
        have HBI := hide hbi
        have hzi := hbi.size
        clear hbi
        by_cases hkt : k < t.size
        · have htk := take_has hkt (s[m]'hlt)
          cases hf : (t.data.toList.take k).contains (s[m]'hlt) with
          | false =>
            rw [hf, Bool.false_or] at htk
            by_cases hxy : (s[m]'hlt) = (t[k]'hkt)
            · have e1 : (((s[m]'hlt).toNat : Int) = ((t[k]'hkt).toNat : Int)) := by rw [hxy]
              have hn : (t.data.toList.take (k + 1)).contains (s[m]'hlt) = true := by rw [htk, hxy]; simp
              have HN := Lib.hid hn
              clear hn htk hf hxy
              go_wp2_with fail
              go_quiet (fail)
              have hbi := unhide HBI
              go_wp2_with fail
              go_roundw
              case rel => exact ⟨k + 1, by go_num, by omega, by rw [HN.out], (by repeat (first | with_reducible exact Below.refl _ _ | with_reducible assumption | (with_reducible refine Below.trans ?_ (Below.mono (by assumption) (by first | omega | (simp <;> omega)))) | with_reducible apply Below.drew | with_reducible apply below_drewN | (with_reducible refine Below.alloc ?_ (by first | omega | (simp <;> omega)) _) | (with_reducible refine Below.setCell ?_ (by first | omega | (simp <;> omega)) _)))⟩
              case measure => (simp [intOf] <;> omega)
            · have e1 : ¬ (((s[m]'hlt).toNat : Int) = ((t[k]'hkt).toNat : Int)) := fun h => hxy (UInt8.toNat_inj.1 (by omega))
              have hn : (t.data.toList.take (k + 1)).contains (s[m]'hlt) = false := by rw [htk]; simpa using hxy
              have HN := Lib.hid hn
              clear hn htk hf hxy
              go_wp2_with fail
              go_quiet (fail)
              have hbi := unhide HBI
              go_wp2_with fail
              go_roundw
              case rel => exact ⟨k + 1, by go_num, by omega, by rw [HN.out, beq_eq_false_iff_ne.2 e1], (by repeat (first | with_reducible exact Below.refl _ _ | with_reducible assumption | (with_reducible refine Below.trans ?_ (Below.mono (by assumption) (by first | omega | (simp <;> omega)))) | with_reducible apply Below.drew | with_reducible apply below_drewN | (with_reducible refine Below.alloc ?_ (by first | omega | (simp <;> omega)) _) | (with_reducible refine Below.setCell ?_ (by first | omega | (simp <;> omega)) _)))⟩
              case measure => (simp [intOf] <;> omega)
          | true =>
            rw [hf, Bool.true_or] at htk
            have HN := Lib.hid htk
            clear htk hf
            go_wp2_with fail
            go_quiet (fail)
            have hbi := unhide HBI
            go_wp2_with fail
            go_roundw
            case rel => exact ⟨k + 1, by go_num, by omega, by rw [HN.out], (by repeat (first | with_reducible exact Below.refl _ _ | with_reducible assumption | (with_reducible refine Below.trans ?_ (Below.mono (by assumption) (by first | omega | (simp <;> omega)))) | with_reducible apply Below.drew | with_reducible apply below_drewN | (with_reducible refine Below.alloc ?_ (by first | omega | (simp <;> omega)) _) | (with_reducible refine Below.setCell ?_ (by first | omega | (simp <;> omega)) _)))⟩
            case measure => (simp [intOf] <;> omega)
        · obtain rfl : k = t.size := by omega
          rw [List.take_of_length_le (by rw [sz_list]; exact Nat.le_refl _)]
          cases hf : t.data.toList.contains (s[m]'hlt) with
          | false =>
            obtain rfl := (unhide HBAD) hf
            clear hf HGX HBAD
            have hbi := unhide HBI
            have hb := unhide HB
            go_wp2_with fail
            go_ret
            exact ⟨rfl, (by repeat (first | with_reducible exact Below.refl _ _ | with_reducible assumption | (with_reducible refine Below.trans ?_ (Below.mono (by assumption) (by first | omega | (simp <;> omega)))) | with_reducible apply Below.drew | with_reducible apply below_drewN | (with_reducible refine Below.alloc ?_ (by first | omega | (simp <;> omega)) _) | (with_reducible refine Below.setCell ?_ (by first | omega | (simp <;> omega)) _)))⟩
          | true =>
            have HG1 := hide ((unhide HGX) hf)
            clear hf HGX HBAD
            go_wp2_with fail
            go_roundw
            case rel => exact ⟨m + 1, by go_num, by omega, (unhide HB).trans ((unhide HBI).mono hzo), HG1⟩
            case measure => (simp [intOf] <;> omega)
    · obtain rfl : m = s.size := by omega
      have hg := gd_in (inB_good (t := t) (fun j hj => (unhide HG) j hj hj))
      rw [← HZ.out] at hg
      rw [show decide (1 ≤ s.size ∧ s.size ≤ 30) = decide (1 ≤ (s.size : Int) ∧ (s.size : Int) ≤ 30) by simp only [decide_eq_decide]; omega] at hg
      rw [← hg] at HLE
      clear hg HG
      go_wp2_with (go_at_call 17; (with_reducible refine ((unhide HLE) _).mono ?_); rintro e w' ⟨rfl, rfl⟩)
      go_ret
      exact ⟨rfl, unhide HB⟩

/-! ### strings.Trim at the three letters -/
theorem dropWhile_nil (p : UInt8 → Bool) : ∀ l : List UInt8, (l.dropWhile p).isEmpty = l.all p
  | [] => rfl
  | x :: r => by
    cases h : p x with
    | true => simp [h, dropWhile_nil p r]
    | false => simp [h]
theorem mem_dropWhile (p : UInt8 → Bool) : ∀ (l : List UInt8), l.all p = false → (l.dropWhile p).all p = false
  | [], h => by cases h
  | x :: r, h => by
    cases hx : p x with
    | true => rw [List.dropWhile_cons, if_pos hx]; exact mem_dropWhile p r (by simpa [hx] using h)
    | false => rw [List.dropWhile_cons, if_neg (by rw [hx]; decide)]; simp [hx]
theorem trimS_nil (l cs : List UInt8) : (Lib.trimS l cs).isEmpty = l.all fun b => cs.contains b := by
  show (((l.reverse.dropWhile fun b => cs.contains b).reverse).dropWhile fun b => cs.contains b).isEmpty = _
  rw [dropWhile_nil, List.all_reverse]
  cases h : l.all fun b => cs.contains b with
  | true =>
    have h1 : (l.reverse.dropWhile fun b => cs.contains b).isEmpty = true := by rw [dropWhile_nil, List.all_reverse, h]
    rw [List.isEmpty_iff.1 h1]; rfl
  | false => exact mem_dropWhile _ _ (by rw [List.all_reverse, h])

set_option maxRecDepth 100000 in
theorem trim_any (s : ByteArray) (w : World) (hs : s.size ≤ 1048576) :
    Calls Tryz.prog 27 #[.string s, .string sLCR] w fun e w' => ∃ t : ByteArray, e = .returned (.string t) ∧ (t.size = 0 ↔ inB sLCR s = true) ∧ Below w.heap.size w w' := by
  refine (Any.strings_Trim_laid Tryz.lays160 (by kernel_rfl) s sLCR w (by omega) (by decide) (ascii_of_all (by decide))).mono ?_
  rintro e w' ⟨rfl, hb⟩
  refine ⟨_, rfl, ?_, hb⟩
  rw [Lib.size_mk]
  have := trimS_nil s.data.toList sLCR.data.toList
  unfold inB
  rw [← this]
  cases Lib.trimS s.data.toList sLCR.data.toList <;> simp
end Go.Proofs.YtldmgjeecomddaaGreatDoor

namespace Go.Proofs.YtldmgjeecomddaaGreatDoor
open Go.RowKit Rm

theorem empty_of {s : ByteArray} (h : s.size = 0) : s = ⟨#[]⟩ := by
  have h1 : s.data.toList.length = 0 := by rw [sz_list]; exact h
  have h2 := List.length_eq_zero_iff.1 h1
  exact ByteArray.ext (Array.toList_inj.1 h2)
theorem ne_empty {s : ByteArray} (h : ¬ s.size = 0) : (s.toList == []) = false := by
  rw [beq_eq_false_iff_ne]
  intro e
  rw [Lib.toList_data] at e
  exact h (by rw [← sz_list, e]; rfl)

set_option maxRecDepth 100000 in
set_option maxHeartbeats 800000 in
theorem iIsKneadingWord_any (s : ByteArray) (w : World) (hs : s.size ≤ 1048576) :
    Calls Tryz.prog 12 #[.string s] w fun e w' => e = .returned (.bool (gdB sLCR s)) ∧ Below w.heap.size w w' := by
  have ht := fun W => trim_any s W hs
  by_cases h0 : s.size = 0
  · have hz : gdB sLCR s = false := by unfold gdB; rw [decide_eq_false (by omega), Bool.and_false]
    rw [hz]
    obtain rfl := empty_of h0
    clear hz ht h0
    go_enter Tryz.func12, Tryz.ntmps12
    go_wp2_with fail
    go_ret
    exact ⟨rfl, (by repeat (first | with_reducible exact Below.refl _ _ | with_reducible assumption | (with_reducible refine Below.trans ?_ (Below.mono (by assumption) (by first | omega | (simp <;> omega)))) | with_reducible apply Below.drew | with_reducible apply below_drewN | (with_reducible refine Below.alloc ?_ (by first | omega | (simp <;> omega)) _) | (with_reducible refine Below.setCell ?_ (by first | omega | (simp <;> omega)) _)))⟩
  · by_cases h30 : s.size ≤ 30
    · have hne := ne_empty h0
      have HT := hide ht
      clear ht
      rcases hi : inB sLCR s with _ | _
      · rw [gd_no hi]
        go_enter Tryz.func12, Tryz.ntmps12
        go_wp2_with (go_at_call 27; (with_reducible refine ((unhide HT) _).mono ?_); rintro e w1 ⟨t, rfl, ht, hbw1⟩; have hne2 := ne_empty (s := t) (fun h => by have := ht.1 h; rw [hi] at this; cases this); clear ht)
        go_ret
        exact ⟨rfl, (by repeat (first | with_reducible exact Below.refl _ _ | with_reducible assumption | (with_reducible refine Below.trans ?_ (Below.mono (by assumption) (by first | omega | (simp <;> omega)))) | with_reducible apply Below.drew | with_reducible apply below_drewN | (with_reducible refine Below.alloc ?_ (by first | omega | (simp <;> omega)) _) | (with_reducible refine Below.setCell ?_ (by first | omega | (simp <;> omega)) _)))⟩
      · rw [gd_in hi, decide_eq_true (by omega)]
        go_enter Tryz.func12, Tryz.ntmps12
        go_wp2_with (go_at_call 27; (with_reducible refine ((unhide HT) _).mono ?_); rintro e w1 ⟨t, rfl, ht, hbw1⟩; obtain rfl := empty_of (ht.2 hi); clear ht)
        go_ret
        exact ⟨rfl, (by repeat (first | with_reducible exact Below.refl _ _ | with_reducible assumption | (with_reducible refine Below.trans ?_ (Below.mono (by assumption) (by first | omega | (simp <;> omega)))) | with_reducible apply Below.drew | with_reducible apply below_drewN | (with_reducible refine Below.alloc ?_ (by first | omega | (simp <;> omega)) _) | (with_reducible refine Below.setCell ?_ (by first | omega | (simp <;> omega)) _)))⟩
    · have hz : gdB sLCR s = false := by unfold gdB; rw [decide_eq_false (by omega), Bool.and_false]
      have hne := ne_empty h0
      have h31 : ¬ (s.size : Int) ≤ 30 := by omega
      rw [hz]
      clear hz ht
      go_enter Tryz.func12, Tryz.ntmps12
      go_wp2_with fail
      go_ret
      exact ⟨rfl, (by repeat (first | with_reducible exact Below.refl _ _ | with_reducible assumption | (with_reducible refine Below.trans ?_ (Below.mono (by assumption) (by first | omega | (simp <;> omega)))) | with_reducible apply Below.drew | with_reducible apply below_drewN | (with_reducible refine Below.alloc ?_ (by first | omega | (simp <;> omega)) _) | (with_reducible refine Below.setCell ?_ (by first | omega | (simp <;> omega)) _)))⟩
end Go.Proofs.YtldmgjeecomddaaGreatDoor

namespace Go.Proofs.YtldmgjeecomddaaGreatDoor
open Go.RowKit Rm

def rkB (c : UInt8) : Int := if c = 76 then 0 else if c = 67 then 1 else 2
theorem rk_bd (c : UInt8) : 0 ≤ rkB c ∧ rkB c ≤ 2 := by unfold rkB; split; omega; split <;> omega
def sgR (n : Nat) : Int := if n % 2 = 1 then -1 else 1
theorem sgR_succ (n : Nat) : sgR (n + 1) = -sgR n := by unfold sgR; split <;> split <;> omega
theorem sgR_bd (n : Nat) : sgR n = 1 ∨ sgR n = -1 := by unfold sgR; split <;> simp
/-- The order from place i on, n places left. -/
def ckF (a b : List UInt8) : Nat → Nat → Int
  | 0, _ => 0
  | n + 1, i => if a.getD i 0 = b.getD i 0 then ckF a b n (i + 1) else sgR ((a.take i).count 82) * (rkB (a.getD i 0) - rkB (b.getD i 0)).sign
theorem ckF_eq {a b : List UInt8} : ∀ (n i : Nat), (∀ j, i ≤ j → j < i + n → a.getD j 0 = b.getD j 0) → ckF a b n i = 0
  | 0, _, _ => rfl
  | n + 1, i, h => by
    rw [ckF, if_pos (h i (Nat.le_refl _) (by omega))]
    exact ckF_eq n (i + 1) fun j h1 h2 => h j (by omega) (by omega)
theorem ckF_ne {a b : List UInt8} {k : Nat} (hne : a.getD k 0 ≠ b.getD k 0) : ∀ (n i : Nat), i ≤ k → k < i + n → (∀ j, i ≤ j → j < k → a.getD j 0 = b.getD j 0) → ckF a b n i = sgR ((a.take k).count 82) * (rkB (a.getD k 0) - rkB (b.getD k 0)).sign
  | 0, i, h1, h2, _ => by omega
  | n + 1, i, h1, h2, h => by
    rw [ckF]
    by_cases e : i = k
    · subst e; rw [if_neg hne]
    · rw [if_pos (h i (Nat.le_refl _) (by omega))]
      exact ckF_ne hne n (i + 1) (by omega) (by omega) fun j h3 h4 => h j (by omega) h4
theorem take_count {a : List UInt8} {k : Nat} (hk : k < a.length) : (a.take (k + 1)).count 82 = (a.take k).count 82 + (if a.getD k 0 = 82 then 1 else 0) := by
  rw [List.take_add_one, List.getElem?_eq_getElem hk, List.count_append, List.getD_eq_getElem?_getD, List.getElem?_eq_getElem hk]
  simp [List.count_singleton]
theorem gd_size' {t s : ByteArray} (h : gdB t s = true) : 1 ≤ s.size ∧ s.size ≤ 30 := by
  unfold gdB at h
  rw [Bool.and_eq_true] at h
  exact of_decide_eq_true h.2
theorem getD_at (s : ByteArray) {k : Nat} (hk : k < s.size) : s.data.toList.getD k 0 = s[k] := by
  rw [List.getD_eq_getElem?_getD, at_list s hk]; rfl
def ckZ (s t : ByteArray) : Bool := gdB sLCR s && (gdB sLCR t && decide (s.size = t.size))
def ckI (s t : ByteArray) : Int := match ckZ s t with | true => ckF s.data.toList t.data.toList s.size 0 | false => 0

set_option maxHeartbeats 400000 in
theorem sgn_any (n : Int) (w : World) :
    Calls Tryz.prog 26 #[.int .i64 n] w fun e w' => e = .returned (.int .i64 n.sign) ∧ w = w' := by
  rcases Int.lt_trichotomy n 0 with hd | hd | hd
  · rw [Int.sign_eq_neg_one_of_neg hd]
    go_enter Tryz.func26, Tryz.ntmps26
    go_wp2
    go_ret
    exact ⟨rfl, rfl⟩
  · subst hd
    go_enter Tryz.func26, Tryz.ntmps26
    go_wp2
    go_ret
    exact ⟨rfl, rfl⟩
  · rw [Int.sign_eq_one_of_pos hd]
    go_enter Tryz.func26, Tryz.ntmps26
    go_wp2
    go_ret
    exact ⟨rfl, rfl⟩
set_option maxRecDepth 100000 in
theorem knRank_any (c : UInt8) (w : World) : Calls Tryz.prog 25 #[.int .u8 (c.toNat : Int)] w fun e w' => e = .returned (.int .i64 (rkB c)) ∧ w = w' := by
  by_cases h1 : c = 76
  · subst h1
    go_enter Tryz.func25, Tryz.ntmps25
    go_wp2_with fail
    go_ret
    exact ⟨rfl, rfl⟩
  · by_cases h2 : c = 67
    · subst h2
      go_enter Tryz.func25, Tryz.ntmps25
      go_wp2_with fail
      go_ret
      exact ⟨rfl, rfl⟩
    · have hb : rkB c = 2 := by unfold rkB; rw [if_neg h1, if_neg h2]
      rw [hb]
      have e1 : ¬ (c.toNat : Int) = 76 := fun h => h1 (UInt8.toNat_inj.1 (by have : (76 : UInt8).toNat = 76 := rfl; omega))
      have e2 : ¬ (c.toNat : Int) = 67 := fun h => h2 (UInt8.toNat_inj.1 (by have : (67 : UInt8).toNat = 67 := rfl; omega))
      have f1 : ((c.toNat : Int) == 76) = false := beq_eq_false_iff_ne.2 e1
      have f2 : ((c.toNat : Int) == 67) = false := beq_eq_false_iff_ne.2 e2
      clear hb h1 h2
      generalize (c.toNat : Int) = x at *
      go_enter Tryz.func25, Tryz.ntmps25
      go_wp2_with fail
      go_ret
      exact ⟨rfl, rfl⟩

set_option maxRecDepth 100000 in
set_option maxHeartbeats 1600000 in
theorem knCompare_any (s t : ByteArray) (w : World) (hs : s.size ≤ 1000) (hst : s.size ≤ t.size) :
    Calls Tryz.prog 11 #[.string s, .string t] w fun e w' => e = .returned (.int .i64 (ckF s.data.toList t.data.toList s.size 0)) ∧ Below w.heap.size w w' := by
  have hrk := fun (c : UInt8) W => knRank_any c W
  have HRK := hide hrk
  clear hrk
  obtain ⟨z, hz⟩ : ∃ z, z = ckF s.data.toList t.data.toList s.size 0 := ⟨_, rfl⟩
  rw [← hz]
  have HZ := Lib.hid hz
  clear hz
  go_enter Tryz.func11, Tryz.ntmps11
  go_wp2_with fail
  go_loopw [5, 6] (fun g i wr => ∃ k : Nat, i = .int .i64 k ∧ k ≤ s.size ∧ g = .int .i64 (sgR ((s.data.toList.take k).count 82)) ∧ Hid (∀ j, j < k → s.data.toList.getD j 0 = t.data.toList.getD j 0) ∧ Below w.heap.size w wr) (fun _ i _ => s.size - (intOf i).toNat)
  case atStart => exact ⟨0, rfl, Nat.zero_le _, by simp [sgR], hide (fun j h => by omega), Below.refl _ _⟩
  case round =>
    obtain ⟨k, rfl, hk, rfl, hpre, hb⟩ := hrel
    have hzr := hb.size
    have HB := hide hb
    clear hb
    by_cases hlt : k < s.size
    · have hlt2 : k < t.size := by omega
      have hx := getD_at s hlt
      have hy := getD_at t hlt2
      have htc := take_count (a := s.data.toList) (k := k) (by rw [sz_list]; exact hlt)
      have hsg := sgR_bd ((s.data.toList.take k).count 82)
      rw [hx] at htc
      by_cases he : s[k] = t[k]
      · have hp1 := hide (fun j (hj : j < k + 1) => show s.data.toList.getD j 0 = t.data.toList.getD j 0 from by
          rcases Nat.lt_or_ge j k with h1 | h1
          · exact (unhide hpre) j h1
          · obtain rfl : j = k := by omega
            rw [hx, hy, he])
        have e1 : (((s[k]'hlt).toNat : Int) = ((t[k]'hlt2).toNat : Int)) := by rw [he]
        clear hpre hx hy he
        by_cases h82 : s[k] = 82
        · rw [if_pos h82] at htc
          have hs1 := congrArg sgR htc
          rw [sgR_succ] at hs1
          have f1 : (((s[k]'hlt).toNat : Int) = 82) := by rw [h82]; rfl
          have HS1 := Lib.hid hs1
          clear hs1 htc h82
          generalize sgR ((s.data.toList.take k).count 82) = sg at *
          have w1 : IntKind.i64.wrap (-sg) = -sg := IntWalk.i64_in _ (by omega)
          go_wp2_with fail
          go_quiet (fail)
          go_wp2_with fail
          have hb := unhide HB
          go_roundw
          case rel => exact ⟨k + 1, by go_num, by omega, by rw [HS1.out], hp1, (by repeat (first | with_reducible exact Below.refl _ _ | with_reducible assumption | (with_reducible refine Below.trans ?_ (Below.mono (by assumption) (by first | omega | (simp <;> omega)))) | with_reducible apply Below.drew | with_reducible apply below_drewN | (with_reducible refine Below.alloc ?_ (by first | omega | (simp <;> omega)) _) | (with_reducible refine Below.setCell ?_ (by first | omega | (simp <;> omega)) _)))⟩
          case measure => (simp [intOf] <;> omega)
        · rw [if_neg h82, Nat.add_zero] at htc
          have f1 : ¬ (((s[k]'hlt).toNat : Int) = 82) := fun h => h82 (UInt8.toNat_inj.1 (by have : (82 : UInt8).toNat = 82 := rfl; omega))
          have f2 : ((((s[k]'hlt).toNat : Int)) == 82) = false := beq_eq_false_iff_ne.2 f1
          have hs1 := congrArg sgR htc
          have HS1 := Lib.hid hs1
          clear hs1 htc h82
          rw [e1] at f1 f2
          generalize sgR ((s.data.toList.take k).count 82) = sg at *
          go_wp2_with fail
          go_quiet (fail)
          go_wp2_with fail
          have hb := unhide HB
          go_roundw
          case rel => exact ⟨k + 1, by go_num, by omega, by rw [HS1.out], hp1, (by repeat (first | with_reducible exact Below.refl _ _ | with_reducible assumption | (with_reducible refine Below.trans ?_ (Below.mono (by assumption) (by first | omega | (simp <;> omega)))) | with_reducible apply Below.drew | with_reducible apply below_drewN | (with_reducible refine Below.alloc ?_ (by first | omega | (simp <;> omega)) _) | (with_reducible refine Below.setCell ?_ (by first | omega | (simp <;> omega)) _)))⟩
          case measure => (simp [intOf] <;> omega)
      · have hne : s.data.toList.getD k 0 ≠ t.data.toList.getD k 0 := by rw [hx, hy]; exact he
        have hcw := ckF_ne hne s.size 0 (by omega) (by omega) (fun j _ hj => (unhide hpre) j hj)
        rw [hx, hy] at hcw
        rw [← HZ.out] at hcw
        have e1 : ¬ (((s[k]'hlt).toNat : Int) = ((t[k]'hlt2).toNat : Int)) := fun h => he (UInt8.toNat_inj.1 (by omega))
        have e2 : ((((s[k]'hlt).toNat : Int)) == ((t[k]'hlt2).toNat : Int)) = false := beq_eq_false_iff_ne.2 e1
        have ha := (unhide HRK) (s[k]'hlt)
        have hb' := (unhide HRK) (t[k]'hlt2)
        have hr1 := rk_bd (s[k]'hlt)
        have hr2 := rk_bd (t[k]'hlt2)
        have w1 : IntKind.i64.wrap (rkB (s[k]'hlt) - rkB (t[k]'hlt2)) = rkB (s[k]'hlt) - rkB (t[k]'hlt2) := IntWalk.i64_in _ (by omega)
        have hsn : (rkB (s[k]'hlt) - rkB (t[k]'hlt2)).sign = 1 ∨ (rkB (s[k]'hlt) - rkB (t[k]'hlt2)).sign = 0 ∨ (rkB (s[k]'hlt) - rkB (t[k]'hlt2)).sign = -1 := by
          rcases Int.lt_trichotomy (rkB (s[k]'hlt) - rkB (t[k]'hlt2)) 0 with hd | hd | hd
          · exact .inr (.inr (Int.sign_eq_neg_one_of_neg hd))
          · rw [hd]; exact .inr (.inl rfl)
          · exact .inl (Int.sign_eq_one_of_pos hd)
        have w2 : IntKind.i64.wrap (sgR ((s.data.toList.take k).count 82) * (rkB (s[k]'hlt) - rkB (t[k]'hlt2)).sign) = sgR ((s.data.toList.take k).count 82) * (rkB (s[k]'hlt) - rkB (t[k]'hlt2)).sign := IntWalk.i64_in _ (by
          rcases hsg with h1 | h1 <;> rcases hsn with h2 | h2 | h2 <;> rw [h1, h2] <;> omega)
        have hsgn := fun W => sgn_any (rkB (s[k]'hlt) - rkB (t[k]'hlt2)) W
        have HSGN := hide hsgn; have HA := hide ha; have HB2 := hide hb'; have HCW := Lib.hid hcw
        clear hsgn ha hb' hcw hne hpre hx hy he htc hsn hr1 hr2 hsg HRK
        generalize (rkB (s[k]'hlt) - rkB (t[k]'hlt2)).sign = sn at *
        generalize sgR ((s.data.toList.take k).count 82) = sg at *
        generalize rkB (s[k]'hlt) = ra at *
        generalize rkB (t[k]'hlt2) = rb at *
        go_wp2_with fail
        go_quiet (fail)
        go_wp2_with fail
        go_region_held3 (fun w' => True) (trivial) (first
          | (go_at_call 25; (with_reducible refine ((unhide HA) _).mono ?_); rintro e w' ⟨rfl, rfl⟩)
          | (go_at_call 25; (with_reducible refine ((unhide HB2) _).mono ?_); rintro e w' ⟨rfl, rfl⟩))
        all_goals
          go_wp2_with (go_at_call 26; (with_reducible refine ((unhide HSGN) _).mono ?_); rintro e w' ⟨rfl, rfl⟩)
          have hb := unhide HB
          go_ret
          exact ⟨by rw [HCW.out]; rfl, (by repeat (first | with_reducible exact Below.refl _ _ | with_reducible assumption | (with_reducible refine Below.trans ?_ (Below.mono (by assumption) (by first | omega | (simp <;> omega)))) | with_reducible apply Below.drew | with_reducible apply below_drewN | (with_reducible refine Below.alloc ?_ (by first | omega | (simp <;> omega)) _) | (with_reducible refine Below.setCell ?_ (by first | omega | (simp <;> omega)) _)))⟩
    · obtain rfl : k = s.size := by omega
      have hall := ckF_eq (a := s.data.toList) (b := t.data.toList) s.size 0 (fun j _ hj => (unhide hpre) j (by omega))
      rw [← HZ.out] at hall
      subst hall
      go_wp2_with fail
      go_ret
      exact ⟨rfl, unhide HB⟩

end Go.Proofs.YtldmgjeecomddaaGreatDoor

namespace Go.Proofs.YtldmgjeecomddaaGreatDoor
open Go.RowKit Rm

/-- The places of the letters, and 0 behind them. -/
def lrF (l : List UInt8) (k : Nat) : Int := if k < l.length then rkB (l.getD k 0) else 0
def lrL (l : List UInt8) : List Value := (List.range 30).map fun k => .int .i64 (lrF l k)
def lrA (l : List UInt8) : Array Value := (lrL l).toArray
theorem lrA_size (l : List UInt8) : (lrA l).size = 30 := by simp [lrA, lrL]
theorem lrA_at (l : List UInt8) {k : Nat} (h : k < 30) : (lrA l)[k]? = some (.int .i64 (lrF l k)) := by simp [lrA, lrL, h]
theorem lrA_one (l : List UInt8) : (lrA l).all (·.oneCell') = true := by
  rw [Array.all_eq_true_iff_forall_mem]
  intro v hv
  have : v ∈ lrL l := by simpa [lrA] using hv
  obtain ⟨k, _, rfl⟩ := List.mem_map.1 this
  rfl
theorem lrF_bd (l : List UInt8) (k : Nat) : 0 ≤ lrF l k ∧ lrF l k ≤ 2 := by unfold lrF; split; exact rk_bd _; omega
theorem row_lr {w : World} {b : Nat} {t : TypeId} {l : List UInt8} (h : w.rowIs b t 30 (fun k => .int .i64 (lrF l k))) : w.heap[b]? = some (.cells (lrA l) t (0, 0)) := by
  obtain ⟨c, h1, h2, h3⟩ := h
  have e : c = lrA l := by
    apply Array.ext
    · rw [lrA_size, h2]
    · intro i hi hi2
      have h4 := h3 i (by omega)
      have h5 := lrA_at l (k := i) (by omega)
      rw [Array.getElem?_eq_getElem hi] at h4
      rw [Array.getElem?_eq_getElem hi2] at h5
      injection h4 with h4
      injection h5 with h5
      rw [h4, h5]
  rw [h1, e]
theorem row_zero {w : World} {b : Nat} {t : TypeId} (h : w.rowIs b t 30 (fun _ => .int .i64 0)) : w.heap[b]? = some (.cells (lrA []) t (0, 0)) :=
  row_lr (h.congr fun _ _ => by simp [lrF])
theorem ix_rk {c : UInt8} (h : sLCR.data.toList.contains c = true) : Lib.indexByte sLCR.data.toList ((c.toNat : Int).toNat.toUInt8) = rkB c := by
  have h1 : c ∈ [76, 67, 82] := by simpa using h
  have h2 : c = 76 ∨ c = 67 ∨ c = 82 := by simpa using h1
  rcases h2 with rfl | rfl | rfl
  · rfl
  · rfl
  · rfl

set_option maxRecDepth 100000 in
set_option maxHeartbeats 3200000 in
theorem lettersOf_any (s : ByteArray) (w : World) (hg : gdB sLCR s = true) :
    Calls Tryz.prog 34 #[.string s] w fun e w' => e = .returned (.agg (lrA s.data.toList)) ∧ Below w.heap.size w w' := by
  have h30 := gd_size' hg
  have hin : ∀ k (hk : k < s.size), sLCR.data.toList.contains s[k] = true := fun k hk => by
    unfold gdB at hg
    rw [Bool.and_eq_true] at hg
    have := hg.1
    unfold inB at this
    exact List.all_eq_true.1 this _ (List.mem_of_getElem? (at_list s hk))
  have hib := fun (k : Nat) (hk : k < s.size) (W : World) => Tryz.strings_IndexByte sLCR ((s[k]'hk).toNat : Int) W
  have hib' : ∀ (k : Nat) (hk : k < s.size) (W : World), Calls Tryz.prog 54 #[.string sLCR, .int .u8 ((s[k]'hk).toNat : Int)] W fun e w' => e = .returned (.int .i64 (rkB (s[k]'hk))) ∧ W = w' := fun k hk W => by
    refine (hib k hk W).mono ?_
    rintro e w' ⟨h1, h2⟩
    rw [ix_rk (hin k hk)] at h1
    exact ⟨h1, h2.symm⟩
  have HIB := hide hib'
  have hll := sz_list s
  have HLL := Lib.hid hll
  clear hib hib' hin hg hll
  go_enter Tryz.func34, Tryz.ntmps34
  go_wp2_with fail
  have hrow0 : ((w.alloc (.cells #[.int .i64 0, .int .i64 0, .int .i64 0, .int .i64 0, .int .i64 0, .int .i64 0, .int .i64 0, .int .i64 0, .int .i64 0, .int .i64 0, .int .i64 0, .int .i64 0, .int .i64 0, .int .i64 0, .int .i64 0, .int .i64 0, .int .i64 0, .int .i64 0, .int .i64 0, .int .i64 0, .int .i64 0, .int .i64 0, .int .i64 0, .int .i64 0, .int .i64 0, .int .i64 0, .int .i64 0, .int .i64 0, .int .i64 0, .int .i64 0] 63)).alloc (.cells #[.int .i64 0, .int .i64 0, .int .i64 0, .int .i64 0, .int .i64 0, .int .i64 0, .int .i64 0, .int .i64 0, .int .i64 0, .int .i64 0, .int .i64 0, .int .i64 0, .int .i64 0, .int .i64 0, .int .i64 0, .int .i64 0, .int .i64 0, .int .i64 0, .int .i64 0, .int .i64 0, .int .i64 0, .int .i64 0, .int .i64 0, .int .i64 0, .int .i64 0, .int .i64 0, .int .i64 0, .int .i64 0, .int .i64 0, .int .i64 0] 63)).rowIs (w.heap.size + 1) 63 30 (fun _ => .int .i64 0) := by
    have := World.rowIs_alloc (w.alloc (.cells #[.int .i64 0, .int .i64 0, .int .i64 0, .int .i64 0, .int .i64 0, .int .i64 0, .int .i64 0, .int .i64 0, .int .i64 0, .int .i64 0, .int .i64 0, .int .i64 0, .int .i64 0, .int .i64 0, .int .i64 0, .int .i64 0, .int .i64 0, .int .i64 0, .int .i64 0, .int .i64 0, .int .i64 0, .int .i64 0, .int .i64 0, .int .i64 0, .int .i64 0, .int .i64 0, .int .i64 0, .int .i64 0, .int .i64 0, .int .i64 0] 63)) #[.int .i64 0, .int .i64 0, .int .i64 0, .int .i64 0, .int .i64 0, .int .i64 0, .int .i64 0, .int .i64 0, .int .i64 0, .int .i64 0, .int .i64 0, .int .i64 0, .int .i64 0, .int .i64 0, .int .i64 0, .int .i64 0, .int .i64 0, .int .i64 0, .int .i64 0, .int .i64 0, .int .i64 0, .int .i64 0, .int .i64 0, .int .i64 0, .int .i64 0, .int .i64 0, .int .i64 0, .int .i64 0, .int .i64 0, .int .i64 0] 63 (fun _ => .int .i64 0) (by
      intro i hi
      have hi' : i < 30 := hi
      match i, hi' with
      | 0, _ => rfl
      | 1, _ => rfl
      | 2, _ => rfl
      | 3, _ => rfl
      | 4, _ => rfl
      | 5, _ => rfl
      | 6, _ => rfl
      | 7, _ => rfl
      | 8, _ => rfl
      | 9, _ => rfl
      | 10, _ => rfl
      | 11, _ => rfl
      | 12, _ => rfl
      | 13, _ => rfl
      | 14, _ => rfl
      | 15, _ => rfl
      | 16, _ => rfl
      | 17, _ => rfl
      | 18, _ => rfl
      | 19, _ => rfl
      | 20, _ => rfl
      | 21, _ => rfl
      | 22, _ => rfl
      | 23, _ => rfl
      | 24, _ => rfl
      | 25, _ => rfl
      | 26, _ => rfl
      | 27, _ => rfl
      | 28, _ => rfl
      | 29, _ => rfl
      | i + 30, h => omega)
    simpa using this
  have hb0 : Below w.heap.size w ((w.alloc (.cells #[.int .i64 0, .int .i64 0, .int .i64 0, .int .i64 0, .int .i64 0, .int .i64 0, .int .i64 0, .int .i64 0, .int .i64 0, .int .i64 0, .int .i64 0, .int .i64 0, .int .i64 0, .int .i64 0, .int .i64 0, .int .i64 0, .int .i64 0, .int .i64 0, .int .i64 0, .int .i64 0, .int .i64 0, .int .i64 0, .int .i64 0, .int .i64 0, .int .i64 0, .int .i64 0, .int .i64 0, .int .i64 0, .int .i64 0, .int .i64 0] 63)).alloc (.cells #[.int .i64 0, .int .i64 0, .int .i64 0, .int .i64 0, .int .i64 0, .int .i64 0, .int .i64 0, .int .i64 0, .int .i64 0, .int .i64 0, .int .i64 0, .int .i64 0, .int .i64 0, .int .i64 0, .int .i64 0, .int .i64 0, .int .i64 0, .int .i64 0, .int .i64 0, .int .i64 0, .int .i64 0, .int .i64 0, .int .i64 0, .int .i64 0, .int .i64 0, .int .i64 0, .int .i64 0, .int .i64 0, .int .i64 0, .int .i64 0] 63)) := (by repeat (first | with_reducible exact Below.refl _ _ | with_reducible assumption | (with_reducible refine Below.trans ?_ (Below.mono (by assumption) (by first | omega | (simp <;> omega)))) | with_reducible apply Below.drew | with_reducible apply below_drewN | (with_reducible refine Below.alloc ?_ (by first | omega | (simp <;> omega)) _) | (with_reducible refine Below.setCell ?_ (by first | omega | (simp <;> omega)) _)))
  have hres0 : ((w.alloc (.cells #[.int .i64 0, .int .i64 0, .int .i64 0, .int .i64 0, .int .i64 0, .int .i64 0, .int .i64 0, .int .i64 0, .int .i64 0, .int .i64 0, .int .i64 0, .int .i64 0, .int .i64 0, .int .i64 0, .int .i64 0, .int .i64 0, .int .i64 0, .int .i64 0, .int .i64 0, .int .i64 0, .int .i64 0, .int .i64 0, .int .i64 0, .int .i64 0, .int .i64 0, .int .i64 0, .int .i64 0, .int .i64 0, .int .i64 0, .int .i64 0] 63)).alloc (.cells #[.int .i64 0, .int .i64 0, .int .i64 0, .int .i64 0, .int .i64 0, .int .i64 0, .int .i64 0, .int .i64 0, .int .i64 0, .int .i64 0, .int .i64 0, .int .i64 0, .int .i64 0, .int .i64 0, .int .i64 0, .int .i64 0, .int .i64 0, .int .i64 0, .int .i64 0, .int .i64 0, .int .i64 0, .int .i64 0, .int .i64 0, .int .i64 0, .int .i64 0, .int .i64 0, .int .i64 0, .int .i64 0, .int .i64 0, .int .i64 0] 63)).rowIs w.heap.size 63 30 (fun _ => .int .i64 0) := by
    refine World.rowIs.alloc ?_ _
    have := World.rowIs_alloc w #[.int .i64 0, .int .i64 0, .int .i64 0, .int .i64 0, .int .i64 0, .int .i64 0, .int .i64 0, .int .i64 0, .int .i64 0, .int .i64 0, .int .i64 0, .int .i64 0, .int .i64 0, .int .i64 0, .int .i64 0, .int .i64 0, .int .i64 0, .int .i64 0, .int .i64 0, .int .i64 0, .int .i64 0, .int .i64 0, .int .i64 0, .int .i64 0, .int .i64 0, .int .i64 0, .int .i64 0, .int .i64 0, .int .i64 0, .int .i64 0] 63 (fun _ => .int .i64 0) (by
      intro i hi
      have hi' : i < 30 := hi
      match i, hi' with
      | 0, _ => rfl
      | 1, _ => rfl
      | 2, _ => rfl
      | 3, _ => rfl
      | 4, _ => rfl
      | 5, _ => rfl
      | 6, _ => rfl
      | 7, _ => rfl
      | 8, _ => rfl
      | 9, _ => rfl
      | 10, _ => rfl
      | 11, _ => rfl
      | 12, _ => rfl
      | 13, _ => rfl
      | 14, _ => rfl
      | 15, _ => rfl
      | 16, _ => rfl
      | 17, _ => rfl
      | 18, _ => rfl
      | 19, _ => rfl
      | 20, _ => rfl
      | 21, _ => rfl
      | 22, _ => rfl
      | 23, _ => rfl
      | 24, _ => rfl
      | 25, _ => rfl
      | 26, _ => rfl
      | 27, _ => rfl
      | 28, _ => rfl
      | 29, _ => rfl
      | i + 30, h => omega)
    simpa using this
  generalize ((w.alloc (.cells #[.int .i64 0, .int .i64 0, .int .i64 0, .int .i64 0, .int .i64 0, .int .i64 0, .int .i64 0, .int .i64 0, .int .i64 0, .int .i64 0, .int .i64 0, .int .i64 0, .int .i64 0, .int .i64 0, .int .i64 0, .int .i64 0, .int .i64 0, .int .i64 0, .int .i64 0, .int .i64 0, .int .i64 0, .int .i64 0, .int .i64 0, .int .i64 0, .int .i64 0, .int .i64 0, .int .i64 0, .int .i64 0, .int .i64 0, .int .i64 0] 63)).alloc (.cells #[.int .i64 0, .int .i64 0, .int .i64 0, .int .i64 0, .int .i64 0, .int .i64 0, .int .i64 0, .int .i64 0, .int .i64 0, .int .i64 0, .int .i64 0, .int .i64 0, .int .i64 0, .int .i64 0, .int .i64 0, .int .i64 0, .int .i64 0, .int .i64 0, .int .i64 0, .int .i64 0, .int .i64 0, .int .i64 0, .int .i64 0, .int .i64 0, .int .i64 0, .int .i64 0, .int .i64 0, .int .i64 0, .int .i64 0, .int .i64 0] 63)) = w2 at *
  have HR0 := hide hrow0; have HRES := hide hres0; have HB0 := hide hb0
  clear hrow0 hres0 hb0
  go_loopw [7] (fun i wr => ∃ k : Nat, i = .int .i64 (k : Int) ∧ k ≤ s.size ∧ Hid (wr.rowIs (w.heap.size + 1) 63 30 (fun j => .int .i64 (if j < k then rkB (s.data.toList.getD j 0) else 0))) ∧ Hid (wr.rowIs w.heap.size 63 30 (fun _ => .int .i64 0)) ∧ Hid (Below w.heap.size w wr)) (fun i _ => s.size - (intOf i).toNat)
  case atStart => exact ⟨0, rfl, by omega, hide ((unhide HR0).congr (fun i _ => by simp)), HRES, HB0⟩
  case round =>
    obtain ⟨k, rfl, hk, HR, HRS, HB⟩ := hrel
    clear HR0 HRES HB0
    by_cases hlt : k < s.size
    · have hl := (unhide HR).lt
      have hc := (unhide HR).cell (show k < 30 by omega)
      rw [if_neg (by omega)] at hc
      have hf := (unhide HR).frozen k
      have hgd := getD_at s hlt
      have hrow := ((unhide HR).set k (.int .i64 (rkB (s[k]'hlt)))).congr (g := fun j => .int .i64 (if j < k + 1 then rkB (s.data.toList.getD j 0) else 0)) (fun j hj => by
        by_cases e : j = k
        · subst e; rw [if_pos rfl, if_pos (by omega), hgd]
        · by_cases e2 : j < k
          · rw [if_neg e, if_pos e2, if_pos (by omega)]
          · rw [if_neg e, if_neg e2, if_neg (by omega)])
      have hres := (unhide HRS).setOther (a := ⟨w.heap.size + 1, k, none⟩) (by show w.heap.size ≠ w.heap.size + 1; omega) (.int .i64 (rkB (s[k]'hlt)))
      have hb := (unhide HB).setCell (p := ⟨w.heap.size + 1, k, none⟩) (by show w.heap.size ≤ w.heap.size + 1; omega) (.int .i64 (rkB (s[k]'hlt)))
      have hibk := (unhide HIB) k hlt
      have H1 := hide hrow; have H2 := hide hres; have H3 := hide hb; have HIK := hide hibk
      clear hrow hres hb HR HRS HB hibk hgd
      generalize rkB (s[k]'hlt) = rk at *
      have t1 : (0 : Int) ≤ (k : Int) := by omega
      have t2 : (k : Int) < 30 := by omega
      go_wp2_with (go_at_call 54; (with_reducible refine ((unhide HIK) _).mono ?_); rintro e w' ⟨rfl, rfl⟩)
      go_roundw
      case rel => exact ⟨k + 1, by go_num, by omega, H1, H2, H3⟩
      case measure => (simp [intOf] <;> omega)
    · obtain rfl : k = s.size := by omega
      have hg5 := row_lr (l := s.data.toList) ((unhide HR).congr (fun j hj => by unfold lrF; rw [HLL.out]))
      have hrs5 := row_zero (unhide HRS)
      have hbl := unhide HB
      have hsz : w.heap.size + 1 < wr.heap.size := (unhide HR).lt
      have hlw : w.heap.size < wr.heap.size := by omega
      have hs1 := lrA_size s.data.toList
      have hs2 := lrA_one s.data.toList
      have hs3 := lrA_size []
      have hsr := setRow_heap wr w.heap.size _ (lrA s.data.toList) _ _ hrs5
      have hb6 := below_setRow hbl (Nat.le_refl _) (lrA s.data.toList)
      have hinf : (Tryz.prog.info? 63).map (·.size) = some (lrA s.data.toList).size := by rw [hs1]; kernel_rfl
      have HSR := hide hsr; have HB6 := hide hb6; have HG6 := hide hg5; have HRS5 := hide hrs5; have HINF := Lib.hid hinf; have HS2 := Lib.hid hs2; have HS1 := Lib.hid hs1; have HS3 := Lib.hid hs3
      clear hsr hb6 hg5 hrs5 hinf hs1 hs2 hs3 hbl HB HRS HR
      generalize hAR : lrA s.data.toList = AR at *
      have HAR := Lib.hid hAR
      clear hAR
      go_upto_region 7 with fail
      refine wp_region_list ?_
      refine wpList_load_row rfl 63 (.tmp 3) rfl (w.heap.size + 1) rfl 63 AR (0, 0) _ (unhide HG6) Tryz.underlying63 rfl HINF.out ?_
      refine wpList_store_row rfl 63 (.tmp 2) (.tmp 17) rfl w.heap.size AR rfl rfl 63 _ (unhide HRS5) HINF.out (by rw [HS1.out, HS3.out]) HS2.out ?_
      go_wp2_with fail
      exact bodyPost_ret (v := .agg AR) (results_cell_row Tryz.results34 _ _ w.heap.size 63 AR (0, 0) _ rfl (unhide HSR) Tryz.underlying63 rfl HINF.out) rfl ⟨by rw [HAR.out], unhide HB6⟩
end Go.Proofs.YtldmgjeecomddaaGreatDoor

namespace Go.Proofs.YtldmgjeecomddaaGreatDoor
open Go.RowKit Rm

theorem mapM_some {α β : Type} {f : α → Option β} {g : α → β} : ∀ {l : List α}, (∀ x ∈ l, f x = some (g x)) → l.mapM f = some (l.map g)
  | [], _ => rfl
  | x :: l, h => by
    rw [List.mapM_cons, h x (by simp), mapM_some fun y hy => h y (by simp [hy])]
    rfl
theorem flat_one {α β : Type} (g : α → β) : ∀ l : List α, (l.map fun x => [g x]).flatten = l.map g
  | [] => rfl
  | x :: l => by simp [flat_one g l]
theorem lrL_part (l : List UInt8) {i : Nat} (h : i < 30) : ((lrL l).drop (i * 1)).take 1 = [Value.int .i64 (lrF l i)] := by
  have hl : i < (lrL l).length := by simp [lrL, h]
  rw [Nat.mul_one, List.drop_eq_getElem_cons hl]
  simp [lrL]
theorem lr_lits (l : List UInt8) : Tryz.prog.keyLits 2 63 (lrA l).toList = some ((List.range 30).map fun i => Lit.int .i64 (lrF l i)) := by
  have hu : Tryz.prog.underlying 63 = some (.array 30 3) := Tryz.underlying63
  have hc : Tryz.prog.cellsOf 63 = 30 := by kernel_rfl
  have hc1 : Tryz.prog.cellsOf 3 = 1 := by kernel_rfl
  have hone : ∀ i ∈ List.range 30, Tryz.prog.keyLits 1 3 ((((lrA l).toList).drop (i * 1)).take 1) = some [Lit.int .i64 (lrF l i)] := fun i hi => by
    have hi' := List.mem_range.1 hi
    rw [show (lrA l).toList = lrL l by simp [lrA], lrL_part l hi']
    have := lrF_bd l i
    have hw : (Lit.int .i64 (lrF l i)).wf = true := WalkArith.wf_i64 (by omega)
    have hui : Tryz.prog.underlying 3 = some (.int .i64) := Tryz.underlying3
    unfold Program.keyLits
    rw [hui]
    simp only
    rw [if_pos ⟨trivial, hw⟩]
  unfold Program.keyLits
  rw [hu]
  simp only
  rw [if_pos (by rw [hc]; simp [lrA, lrL]), hc1, mapM_some hone]
  show some _ = _
  rw [flat_one]
theorem equal_lr (a b : List UInt8) (W : World) :
    ∃ z : Bool, (Op.equalIn 10000 63 (.agg (lrA a)) (.agg (lrA b))).run Tryz.prog W = .ok z W ∧ (z = true ↔ ∀ k, k < 30 → lrF a k = lrF b k) := by
  have hf : ∀ r : List UInt8, (Value.agg (lrA r)).formed Tryz.prog 63 = true := fun r => by
    have hu : Tryz.prog.underlying 63 = some (.array 30 3) := Tryz.underlying63
    have hc : Tryz.prog.cellsOf 63 = 30 := by kernel_rfl
    unfold Value.formed
    rw [hu]
    simp only
    rw [hc, lrA_size]
    rfl
  obtain ⟨z, h1, h2⟩ := run_equalIn_deep (P := Tryz.prog) 9998 2 63 (by kernel_rfl) W 2 2 _ _ _ _ (hf a) (hf b) (lr_lits a) (lr_lits b)
  refine ⟨z, h1, h2.trans ⟨fun h k hk => ?_, fun h => ?_⟩⟩
  · have h3 := congrArg (fun l => l[k]?) h
    simp [hk] at h3
    exact h3
  · exact List.map_congr_left fun k hk => by rw [h k (List.mem_range.1 hk)]

set_option maxRecDepth 100000 in
theorem turnsRound_any (s : ByteArray) (w : World) :
    Calls Tryz.prog 36 #[.string s] w fun e w' => e = .returned (.bool (decide (s.data.toList.count 82 % 2 = 1))) ∧ w = w' := by
  have hc := fun W => Tryz.strings_Count_one s 82 W
  have hc' : ∀ W, Calls Tryz.prog 56 #[.string s, .string ⟨#[82]⟩] W fun e w' => e = .returned (.int .i64 ((s.data.toList.count 82 : Nat) : Int)) ∧ w' = W := hc
  have HC := hide hc'
  clear hc hc'
  obtain ⟨n, hn⟩ : ∃ n, n = s.data.toList.count 82 := ⟨_, rfl⟩
  rw [← hn] at HC ⊢
  clear hn
  have q : (n : Int).tmod 2 = ((n % 2 : Nat) : Int) := by rw [Int.tmod_eq_emod_of_nonneg (by omega)]; omega
  rcases (by omega : n % 2 = 0 ∨ n % 2 = 1) with h | h
  all_goals
    rw [h] at q ⊢
    go_enter Tryz.func36, Tryz.ntmps36
    go_wp2_with (go_at_call 56; (with_reducible refine ((unhide HC) _).mono ?_); rintro e w2 ⟨rfl, rfl⟩)
    go_ret
    exact ⟨rfl, rfl⟩
theorem cmp_sign (x y : Int) : Lib.compareInt x y = (x - y).sign := by
  unfold Lib.compareInt
  rcases Int.lt_trichotomy x y with h | h | h
  · rw [if_pos h, Int.sign_eq_neg_one_of_neg (by omega)]
  · subst h; rw [if_neg (by omega), if_neg (by omega), Int.sub_self]; rfl
  · rw [if_neg (by omega), if_pos h, Int.sign_eq_one_of_pos (by omega)]
theorem lrF_at (s : ByteArray) {k : Nat} (h : k < s.size) : lrF s.data.toList k = rkB (s.data.toList.getD k 0) := by unfold lrF; rw [if_pos (by rw [sz_list]; exact h)]
theorem lrF_out (s : ByteArray) {k : Nat} (h : s.size ≤ k) : lrF s.data.toList k = 0 := by unfold lrF; rw [if_neg (by rw [sz_list]; omega)]
theorem gd_at {s : ByteArray} (h : gdB sLCR s = true) {k : Nat} (hk : k < s.size) : s.data.toList.getD k 0 = 76 ∨ s.data.toList.getD k 0 = 67 ∨ s.data.toList.getD k 0 = 82 := by
  unfold gdB at h
  rw [Bool.and_eq_true] at h
  have h1 := h.1
  unfold inB at h1
  have h2 := List.all_eq_true.1 h1 _ (List.mem_of_getElem? (at_list s hk))
  rw [getD_at s hk]
  have h3 : s[k] ∈ [76, 67, 82] := by simpa using h2
  simpa using h3
theorem rk_inj {x y : UInt8} (hx : x = 76 ∨ x = 67 ∨ x = 82) (hy : y = 76 ∨ y = 67 ∨ y = 82) (h : rkB x = rkB y) : x = y := by
  rcases hx with rfl | rfl | rfl <;> rcases hy with rfl | rfl | rfl <;> first | rfl | (exact absurd h (by decide))

set_option maxRecDepth 100000 in
set_option maxHeartbeats 3200000 in
theorem iCompare_good (s t : ByteArray) (w : World) (h1 : gdB sLCR s = true) (h2 : gdB sLCR t = true) (hst : s.size = t.size) :
    Calls Tryz.prog 16 #[.string s, .string t] w fun e w' => e = .returned (.tuple #[.int .i64 (ckF s.data.toList t.data.toList s.size 0), .bool true]) ∧ Below w.heap.size w w' := by
  have h30 := gd_size' h1
  have hgs := fun W => iIsKneadingWord_any s W (by omega)
  have hgt := fun W => iIsKneadingWord_any t W (by omega)
  rw [h1] at hgs
  rw [h2] at hgt
  have har := fun W => lettersOf_any s W h1
  have has := fun W => lettersOf_any t W h2
  have heq := fun W => equal_lr s.data.toList t.data.toList W
  have hs1 := lrA_size s.data.toList; have hs2 := lrA_size t.data.toList
  have ho1 := lrA_one s.data.toList; have ho2 := lrA_one t.data.toList
  have hinf1 : (Tryz.prog.info? 63).map (·.size) = some (lrA s.data.toList).size := by rw [hs1]; kernel_rfl
  have hinf2 : (Tryz.prog.info? 63).map (·.size) = some (lrA t.data.toList).size := by rw [hs2]; kernel_rfl
  have hat1 := fun k hk => lrA_at s.data.toList (k := k) hk
  have hat2 := fun k hk => lrA_at t.data.toList (k := k) hk
  have hg1 := fun (k : Nat) (hk : k < s.size) => gd_at h1 hk
  have hg2 := fun (k : Nat) (hk : k < s.size) => gd_at h2 (k := k) (by omega)
  have e1 : (s.size : Int) = (t.size : Int) := by omega
  have HGS := hide hgs; have HGT := hide hgt; have HAR := hide har; have HAS := hide has; have HEQ := hide heq; have HST := Lib.hid hst
  have HS1 := Lib.hid hs1; have HS2 := Lib.hid hs2; have HO1 := Lib.hid ho1; have HO2 := Lib.hid ho2; have HI1 := Lib.hid hinf1; have HI2 := Lib.hid hinf2; have HAT1 := hide hat1; have HAT2 := hide hat2; have HG1 := hide hg1; have HG2 := hide hg2
  clear hgs hgt har has heq hst hs1 hs2 ho1 ho2 hinf1 hinf2 hat1 hat2 hg1 hg2 h1 h2
  generalize lrA s.data.toList = AR at *
  generalize lrA t.data.toList = AS at *
  go_enter Tryz.func16, Tryz.ntmps16
  go_upto_region 3 with (first
    | (go_at_call 12; have _t := hbwx; clear _t; (with_reducible refine ((unhide HGT) _).mono ?_); rintro e wy ⟨rfl, hbwy⟩; obtain ⟨hcwy, hfwy⟩ := bcell hbwy; have hzwy := hbwy.size; (try simp at hzwy))
    | (go_at_call 12; (with_reducible refine ((unhide HGS) _).mono ?_); rintro e wx ⟨rfl, hbwx⟩; obtain ⟨hcwx, hfwx⟩ := bcell hbwx; have hzwx := hbwx.size; (try simp at hzwx)))
  have hbA : Below w.heap.size w wy := (by repeat (first | with_reducible exact Below.refl _ _ | with_reducible assumption | (with_reducible refine Below.trans ?_ (Below.mono (by assumption) (by first | omega | (simp <;> omega)))) | with_reducible apply Below.drew | with_reducible apply below_drewN | (with_reducible refine Below.alloc ?_ (by first | omega | (simp <;> omega)) _) | (with_reducible refine Below.setCell ?_ (by first | omega | (simp <;> omega)) _)))
  have HBA := hide hbA
  have hzA := hbA.size
  clear hbA hbwx hbwy hcwx hfwx hcwy hfwy
  go_upto_region 4 with (first
    | (go_at_call 34; (with_reducible refine ((unhide HAR) _).mono ?_); rintro e w2 ⟨rfl, hbw2⟩; have hz2 := hbw2.size)
    | (go_at_call 34; (with_reducible refine ((unhide HAS) _).mono ?_); rintro e w3 ⟨rfl, hbw3⟩; have hz3 := hbw3.size)
    | (refine wpList_store_row rfl 63 (.tmp 6) (.tmp 26) rfl w3.heap.size AR rfl rfl 63 _ (heap_alloc2_old w3 (.cells #[.int .i64 0, .int .i64 0, .int .i64 0, .int .i64 0, .int .i64 0, .int .i64 0, .int .i64 0, .int .i64 0, .int .i64 0, .int .i64 0, .int .i64 0, .int .i64 0, .int .i64 0, .int .i64 0, .int .i64 0, .int .i64 0, .int .i64 0, .int .i64 0, .int .i64 0, .int .i64 0, .int .i64 0, .int .i64 0, .int .i64 0, .int .i64 0, .int .i64 0, .int .i64 0, .int .i64 0, .int .i64 0, .int .i64 0, .int .i64 0] 63) (.cells #[.int .i64 0, .int .i64 0, .int .i64 0, .int .i64 0, .int .i64 0, .int .i64 0, .int .i64 0, .int .i64 0, .int .i64 0, .int .i64 0, .int .i64 0, .int .i64 0, .int .i64 0, .int .i64 0, .int .i64 0, .int .i64 0, .int .i64 0, .int .i64 0, .int .i64 0, .int .i64 0, .int .i64 0, .int .i64 0, .int .i64 0, .int .i64 0, .int .i64 0, .int .i64 0, .int .i64 0, .int .i64 0, .int .i64 0, .int .i64 0] 63)) HI1.out (by rw [HS1.out]; rfl) HO1.out ?_)
    | (refine wpList_store_row rfl 63 (.tmp 7) (.tmp 28) rfl (w3.heap.size + 1) AS rfl rfl 63 _ ((setRow_other _ _ _ _ (by omega)).trans (heap_alloc2_new w3 (.cells #[.int .i64 0, .int .i64 0, .int .i64 0, .int .i64 0, .int .i64 0, .int .i64 0, .int .i64 0, .int .i64 0, .int .i64 0, .int .i64 0, .int .i64 0, .int .i64 0, .int .i64 0, .int .i64 0, .int .i64 0, .int .i64 0, .int .i64 0, .int .i64 0, .int .i64 0, .int .i64 0, .int .i64 0, .int .i64 0, .int .i64 0, .int .i64 0, .int .i64 0, .int .i64 0, .int .i64 0, .int .i64 0, .int .i64 0, .int .i64 0] 63) (.cells #[.int .i64 0, .int .i64 0, .int .i64 0, .int .i64 0, .int .i64 0, .int .i64 0, .int .i64 0, .int .i64 0, .int .i64 0, .int .i64 0, .int .i64 0, .int .i64 0, .int .i64 0, .int .i64 0, .int .i64 0, .int .i64 0, .int .i64 0, .int .i64 0, .int .i64 0, .int .i64 0, .int .i64 0, .int .i64 0, .int .i64 0, .int .i64 0, .int .i64 0, .int .i64 0, .int .i64 0, .int .i64 0, .int .i64 0, .int .i64 0] 63))) HI2.out (by rw [HS2.out]; rfl) HO2.out ?_))
  have hbS : Below w3.heap.size w3 ((((w3.alloc (.cells #[.int .i64 0, .int .i64 0, .int .i64 0, .int .i64 0, .int .i64 0, .int .i64 0, .int .i64 0, .int .i64 0, .int .i64 0, .int .i64 0, .int .i64 0, .int .i64 0, .int .i64 0, .int .i64 0, .int .i64 0, .int .i64 0, .int .i64 0, .int .i64 0, .int .i64 0, .int .i64 0, .int .i64 0, .int .i64 0, .int .i64 0, .int .i64 0, .int .i64 0, .int .i64 0, .int .i64 0, .int .i64 0, .int .i64 0, .int .i64 0] 63)).alloc (.cells #[.int .i64 0, .int .i64 0, .int .i64 0, .int .i64 0, .int .i64 0, .int .i64 0, .int .i64 0, .int .i64 0, .int .i64 0, .int .i64 0, .int .i64 0, .int .i64 0, .int .i64 0, .int .i64 0, .int .i64 0, .int .i64 0, .int .i64 0, .int .i64 0, .int .i64 0, .int .i64 0, .int .i64 0, .int .i64 0, .int .i64 0, .int .i64 0, .int .i64 0, .int .i64 0, .int .i64 0, .int .i64 0, .int .i64 0, .int .i64 0] 63)).setRow w3.heap.size AR).setRow (w3.heap.size + 1) AS) :=
    below_setRow (below_setRow (show Below w3.heap.size w3 ((w3.alloc (.cells #[.int .i64 0, .int .i64 0, .int .i64 0, .int .i64 0, .int .i64 0, .int .i64 0, .int .i64 0, .int .i64 0, .int .i64 0, .int .i64 0, .int .i64 0, .int .i64 0, .int .i64 0, .int .i64 0, .int .i64 0, .int .i64 0, .int .i64 0, .int .i64 0, .int .i64 0, .int .i64 0, .int .i64 0, .int .i64 0, .int .i64 0, .int .i64 0, .int .i64 0, .int .i64 0, .int .i64 0, .int .i64 0, .int .i64 0, .int .i64 0] 63)).alloc (.cells #[.int .i64 0, .int .i64 0, .int .i64 0, .int .i64 0, .int .i64 0, .int .i64 0, .int .i64 0, .int .i64 0, .int .i64 0, .int .i64 0, .int .i64 0, .int .i64 0, .int .i64 0, .int .i64 0, .int .i64 0, .int .i64 0, .int .i64 0, .int .i64 0, .int .i64 0, .int .i64 0, .int .i64 0, .int .i64 0, .int .i64 0, .int .i64 0, .int .i64 0, .int .i64 0, .int .i64 0, .int .i64 0, .int .i64 0, .int .i64 0] 63)) from (by repeat (first | with_reducible exact Below.refl _ _ | with_reducible assumption | (with_reducible refine Below.trans ?_ (Below.mono (by assumption) (by first | omega | (simp <;> omega)))) | with_reducible apply Below.drew | with_reducible apply below_drewN | (with_reducible refine Below.alloc ?_ (by first | omega | (simp <;> omega)) _) | (with_reducible refine Below.setCell ?_ (by first | omega | (simp <;> omega)) _)))) (Nat.le_refl _) AR) (by omega) AS
  have h10 : ((((w3.alloc (.cells #[.int .i64 0, .int .i64 0, .int .i64 0, .int .i64 0, .int .i64 0, .int .i64 0, .int .i64 0, .int .i64 0, .int .i64 0, .int .i64 0, .int .i64 0, .int .i64 0, .int .i64 0, .int .i64 0, .int .i64 0, .int .i64 0, .int .i64 0, .int .i64 0, .int .i64 0, .int .i64 0, .int .i64 0, .int .i64 0, .int .i64 0, .int .i64 0, .int .i64 0, .int .i64 0, .int .i64 0, .int .i64 0, .int .i64 0, .int .i64 0] 63)).alloc (.cells #[.int .i64 0, .int .i64 0, .int .i64 0, .int .i64 0, .int .i64 0, .int .i64 0, .int .i64 0, .int .i64 0, .int .i64 0, .int .i64 0, .int .i64 0, .int .i64 0, .int .i64 0, .int .i64 0, .int .i64 0, .int .i64 0, .int .i64 0, .int .i64 0, .int .i64 0, .int .i64 0, .int .i64 0, .int .i64 0, .int .i64 0, .int .i64 0, .int .i64 0, .int .i64 0, .int .i64 0, .int .i64 0, .int .i64 0, .int .i64 0] 63)).setRow w3.heap.size AR).setRow (w3.heap.size + 1) AS).heap[w3.heap.size]? = some (.cells AR 63 (0, 0)) :=
    (setRow_other _ _ _ _ (by omega)).trans (setRow_heap _ _ _ _ _ _ (heap_alloc2_old w3 (.cells #[.int .i64 0, .int .i64 0, .int .i64 0, .int .i64 0, .int .i64 0, .int .i64 0, .int .i64 0, .int .i64 0, .int .i64 0, .int .i64 0, .int .i64 0, .int .i64 0, .int .i64 0, .int .i64 0, .int .i64 0, .int .i64 0, .int .i64 0, .int .i64 0, .int .i64 0, .int .i64 0, .int .i64 0, .int .i64 0, .int .i64 0, .int .i64 0, .int .i64 0, .int .i64 0, .int .i64 0, .int .i64 0, .int .i64 0, .int .i64 0] 63) (.cells #[.int .i64 0, .int .i64 0, .int .i64 0, .int .i64 0, .int .i64 0, .int .i64 0, .int .i64 0, .int .i64 0, .int .i64 0, .int .i64 0, .int .i64 0, .int .i64 0, .int .i64 0, .int .i64 0, .int .i64 0, .int .i64 0, .int .i64 0, .int .i64 0, .int .i64 0, .int .i64 0, .int .i64 0, .int .i64 0, .int .i64 0, .int .i64 0, .int .i64 0, .int .i64 0, .int .i64 0, .int .i64 0, .int .i64 0, .int .i64 0] 63)))
  have h11 : ((((w3.alloc (.cells #[.int .i64 0, .int .i64 0, .int .i64 0, .int .i64 0, .int .i64 0, .int .i64 0, .int .i64 0, .int .i64 0, .int .i64 0, .int .i64 0, .int .i64 0, .int .i64 0, .int .i64 0, .int .i64 0, .int .i64 0, .int .i64 0, .int .i64 0, .int .i64 0, .int .i64 0, .int .i64 0, .int .i64 0, .int .i64 0, .int .i64 0, .int .i64 0, .int .i64 0, .int .i64 0, .int .i64 0, .int .i64 0, .int .i64 0, .int .i64 0] 63)).alloc (.cells #[.int .i64 0, .int .i64 0, .int .i64 0, .int .i64 0, .int .i64 0, .int .i64 0, .int .i64 0, .int .i64 0, .int .i64 0, .int .i64 0, .int .i64 0, .int .i64 0, .int .i64 0, .int .i64 0, .int .i64 0, .int .i64 0, .int .i64 0, .int .i64 0, .int .i64 0, .int .i64 0, .int .i64 0, .int .i64 0, .int .i64 0, .int .i64 0, .int .i64 0, .int .i64 0, .int .i64 0, .int .i64 0, .int .i64 0, .int .i64 0] 63)).setRow w3.heap.size AR).setRow (w3.heap.size + 1) AS).heap[w3.heap.size + 1]? = some (.cells AS 63 (0, 0)) :=
    setRow_heap _ _ _ _ _ _ ((setRow_other _ _ _ _ (by omega)).trans (heap_alloc2_new w3 (.cells #[.int .i64 0, .int .i64 0, .int .i64 0, .int .i64 0, .int .i64 0, .int .i64 0, .int .i64 0, .int .i64 0, .int .i64 0, .int .i64 0, .int .i64 0, .int .i64 0, .int .i64 0, .int .i64 0, .int .i64 0, .int .i64 0, .int .i64 0, .int .i64 0, .int .i64 0, .int .i64 0, .int .i64 0, .int .i64 0, .int .i64 0, .int .i64 0, .int .i64 0, .int .i64 0, .int .i64 0, .int .i64 0, .int .i64 0, .int .i64 0] 63) (.cells #[.int .i64 0, .int .i64 0, .int .i64 0, .int .i64 0, .int .i64 0, .int .i64 0, .int .i64 0, .int .i64 0, .int .i64 0, .int .i64 0, .int .i64 0, .int .i64 0, .int .i64 0, .int .i64 0, .int .i64 0, .int .i64 0, .int .i64 0, .int .i64 0, .int .i64 0, .int .i64 0, .int .i64 0, .int .i64 0, .int .i64 0, .int .i64 0, .int .i64 0, .int .i64 0, .int .i64 0, .int .i64 0, .int .i64 0, .int .i64 0] 63)))
  generalize (((w3.alloc (.cells #[.int .i64 0, .int .i64 0, .int .i64 0, .int .i64 0, .int .i64 0, .int .i64 0, .int .i64 0, .int .i64 0, .int .i64 0, .int .i64 0, .int .i64 0, .int .i64 0, .int .i64 0, .int .i64 0, .int .i64 0, .int .i64 0, .int .i64 0, .int .i64 0, .int .i64 0, .int .i64 0, .int .i64 0, .int .i64 0, .int .i64 0, .int .i64 0, .int .i64 0, .int .i64 0, .int .i64 0, .int .i64 0, .int .i64 0, .int .i64 0] 63)).alloc (.cells #[.int .i64 0, .int .i64 0, .int .i64 0, .int .i64 0, .int .i64 0, .int .i64 0, .int .i64 0, .int .i64 0, .int .i64 0, .int .i64 0, .int .i64 0, .int .i64 0, .int .i64 0, .int .i64 0, .int .i64 0, .int .i64 0, .int .i64 0, .int .i64 0, .int .i64 0, .int .i64 0, .int .i64 0, .int .i64 0, .int .i64 0, .int .i64 0, .int .i64 0, .int .i64 0, .int .i64 0, .int .i64 0, .int .i64 0, .int .i64 0] 63)).setRow w3.heap.size AR).setRow (w3.heap.size + 1) AS = wS at *
  obtain ⟨z, hze, hzi⟩ := (unhide HEQ) wS
  have hbT := (unhide HBA).trans ((hbw2.trans ((hbw3.trans (hbS.mono hz3)).mono hz2)).mono hzA)
  have H10 := hide h10; have H11 := hide h11; have HZI := hide hzi; have HBT := hide hbT
  have hzS := hbT.size
  obtain ⟨X, hX⟩ : ∃ X, X = w3.heap.size := ⟨_, rfl⟩
  have hXl : w3.heap.size + 1 < wS.heap.size := (Array.getElem?_eq_some_iff.1 h11).1
  rw [← hX] at H10 H11 hXl ⊢
  have hXw : w.heap.size ≤ X := by omega
  have HX := Lib.hid hX
  clear hX h10 h11 hbS hzi hbT hbw2 hbw3 HEQ HAR HAS HBA HGS HGT
  cases z
  · have hdif : ∃ kd, kd < s.size ∧ s.data.toList.getD kd 0 ≠ t.data.toList.getD kd 0 := by
      have hno : ¬ ∀ k, k < 30 → lrF s.data.toList k = lrF t.data.toList k := fun h => by have := (unhide HZI).2 h; cases this
      rcases Decidable.em (∃ kd, kd < s.size ∧ s.data.toList.getD kd 0 ≠ t.data.toList.getD kd 0) with h | h
      · exact h
      · exfalso
        refine hno fun k hk => ?_
        rcases Nat.lt_or_ge k s.size with h1 | h1
        · rw [lrF_at s h1, lrF_at t (by have := HST.out; omega)]
          rw [Decidable.byContradiction fun h2 => h ⟨k, h1, h2⟩]
        · rw [lrF_out s h1, lrF_out t (by have := HST.out; omega)]
    obtain ⟨kd, hkd, hkne⟩ := hdif
    have HKD := Lib.hid hkne
    clear hkne HZI
    go_upto_region 7 with (first
      | (refine wpList_load_row rfl 63 (.tmp 6) rfl X rfl 63 AR (0, 0) _ (unhide H10) Tryz.underlying63 rfl HI1.out ?_)
      | (refine wpList_load_row rfl 63 (.tmp 7) rfl (X + 1) rfl 63 AS (0, 0) _ (unhide H11) Tryz.underlying63 rfl HI2.out ?_))
    go_loopw [8] (fun i wr => ∃ k : Nat, i = .int .i64 (k : Int) ∧ k ≤ kd ∧ Hid (∀ j, j < k → s.data.toList.getD j 0 = t.data.toList.getD j 0) ∧ Below wS.heap.size wS wr) (fun i _ => 30 - (intOf i).toNat)
    case atStart => exact ⟨0, rfl, by omega, hide (fun j h => by omega), Below.refl _ _⟩
    case round =>
      obtain ⟨k, rfl, hk, hpre, hbwr⟩ := hrel
      have hzwr := hbwr.size
      have hX1 : X < wr.heap.size := by omega
      have hX2 : X + 1 < wr.heap.size := by omega
      have hc1 : wr.cell? ⟨X, k, none⟩ = some (.int .i64 (rkB (s.data.toList.getD k 0))) := by
        rw [cell_of_row wr X k AR _ _ ((hbwr.block X (by omega)).trans (unhide H10)), (unhide HAT1) k (by omega), lrF_at s (by omega)]
      have hc2 : wr.cell? ⟨X + 1, k, none⟩ = some (.int .i64 (rkB (t.data.toList.getD k 0))) := by
        rw [cell_of_row wr (X + 1) k AS _ _ ((hbwr.block (X + 1) (by omega)).trans (unhide H11)), (unhide HAT2) k (by omega), lrF_at t (by have := HST.out; omega)]
      have t1 : (0 : Int) ≤ (k : Int) := by omega
      have t2 : (k : Int) < 30 := by omega
      have HB := hide hbwr
      by_cases he : s.data.toList.getD k 0 = t.data.toList.getD k 0
      · have hk1 : k + 1 ≤ kd := by
          rcases Nat.lt_or_ge k kd with h | h
          · omega
          · have e : k = kd := by omega
            subst e
            exact absurd he HKD.out
        have hp1 := hide (fun j (hj : j < k + 1) => show s.data.toList.getD j 0 = t.data.toList.getD j 0 from by
          rcases Nat.lt_or_ge j k with h1 | h1
          · exact (unhide hpre) j h1
          · obtain rfl : j = k := by omega
            exact he)
        rw [← he] at hc2
        clear he hpre hbwr HKD
        generalize rkB (s.data.toList.getD k 0) = x at *
        go_upto_region 7 with fail
        go_quiet (fail)
        go_wp2_with fail
        have hb := unhide HB
        go_roundw
        case rel => exact ⟨k + 1, by go_num, hk1, hp1, (by repeat (first | with_reducible exact Below.refl _ _ | with_reducible assumption | (with_reducible refine Below.trans ?_ (Below.mono (by assumption) (by first | omega | (simp <;> omega)))) | with_reducible apply Below.drew | with_reducible apply below_drewN | (with_reducible refine Below.alloc ?_ (by first | omega | (simp <;> omega)) _) | (with_reducible refine Below.setCell ?_ (by first | omega | (simp <;> omega)) _)))⟩
        case measure => (simp [intOf] <;> omega)
      · have hcw := ckF_ne (a := s.data.toList) (b := t.data.toList) (k := k) he s.size 0 (by omega) (by omega) (fun j _ hj => (unhide hpre) j hj)
        have hrne : rkB (s.data.toList.getD k 0) ≠ rkB (t.data.toList.getD k 0) := fun h => he (rk_inj ((unhide HG1) k (by omega)) ((unhide HG2) k (by omega)) h)
        have hcmp := fun W => Tryz.cmp_Compare_int (rkB (s.data.toList.getD k 0)) (rkB (t.data.toList.getD k 0)) W
        simp only [cmp_sign] at hcmp
        have htr := fun W => turnsRound_any (s.extract 0 k) W
        rw [Lib.extract_upto] at htr
        have htr' : ∀ W, Calls Tryz.prog 36 #[.string (s.extract 0 k)] W fun e w' => e = .returned (.bool (decide ((s.data.toList.take k).count 82 % 2 = 1))) ∧ W = w' := fun W => by
          rw [Lib.extract_upto]
          have := htr W
          simpa using this
        have hbz := (unhide HBT).trans (hbwr.mono hzS)
        have hne1 : (rkB (s.data.toList.getD k 0) == rkB (t.data.toList.getD k 0)) = false := beq_eq_false_iff_ne.2 hrne
        have hne2 : decide (rkB (s.data.toList.getD k 0) = rkB (t.data.toList.getD k 0)) = false := decide_eq_false hrne
        have hbd : -1 ≤ (rkB (s.data.toList.getD k 0) - rkB (t.data.toList.getD k 0)).sign ∧ (rkB (s.data.toList.getD k 0) - rkB (t.data.toList.getD k 0)).sign ≤ 1 := by
          rcases Int.lt_trichotomy (rkB (s.data.toList.getD k 0) - rkB (t.data.toList.getD k 0)) 0 with hd | hd | hd
          · rw [Int.sign_eq_neg_one_of_neg hd]; omega
          · rw [hd]; decide
          · rw [Int.sign_eq_one_of_pos hd]; omega
        have hsgv : ∀ x : Int, sgR ((s.data.toList.take k).count 82) * x = if (s.data.toList.take k).count 82 % 2 = 1 then -x else x := fun x => by unfold sgR; split <;> omega
        rw [hsgv] at hcw
        have t3 : (k : Int) ≤ (s.size : Int) := by omega
        have HCMP := hide hcmp; have HTR := hide htr'; have HBZ := hide hbz; have HCW := Lib.hid hcw
        clear hcmp htr htr' hbz hcw hsgv hpre hbwr HKD he HG1 HG2 hrne
        generalize (rkB (s.data.toList.getD k 0) - rkB (t.data.toList.getD k 0)).sign = cc at *
        generalize rkB (s.data.toList.getD k 0) = x at *
        generalize rkB (t.data.toList.getD k 0) = y at *
        generalize (s.data.toList.take k).count 82 % 2 = par at *
        have w1 : IntKind.i64.wrap (-cc) = -cc := IntWalk.i64_in _ (by omega)
        go_upto_region 7 with fail
        go_quiet (fail)
        go_upto_region 9 with fail
        go_cut [9] (fun s9 wx => s9 = .int .i64 cc ∧ Below wr.heap.size wr wx)
        case first =>
          go_region_held3 (fun w' => w'.cell? ⟨X, k, none⟩ = some (.int .i64 x) ∧ w'.cell? ⟨X + 1, k, none⟩ = some (.int .i64 y)) (simp [go_sem, *])
            ((go_at_call 35; (with_reducible refine ((unhide HCMP) _).mono ?_); rintro e w6 ⟨rfl, rfl⟩))
          all_goals
            go_wp2_with fail
            go_meet
            exact ⟨rfl, (by repeat (first | with_reducible exact Below.refl _ _ | with_reducible assumption | (with_reducible refine Below.trans ?_ (Below.mono (by assumption) (by first | omega | (simp <;> omega)))) | with_reducible apply Below.drew | with_reducible apply below_drewN | (with_reducible refine Below.alloc ?_ (by first | omega | (simp <;> omega)) _) | (with_reducible refine Below.setCell ?_ (by first | omega | (simp <;> omega)) _)))⟩
        case rest =>
          obtain ⟨rfl, hbx⟩ := hcut
          have HBW := hide ((unhide HBZ).trans (hbx.mono (unhide HBZ).size))
          clear hbx hc1 hc2 HCMP
          by_cases hp : par = 1
          · rw [decide_eq_true hp] at HTR
            rw [if_pos hp] at HCW
            go_wp2_with (go_at_call 36; (with_reducible refine ((unhide HTR) _).mono ?_); rintro e w7 ⟨rfl, rfl⟩)
            go_ret2
            exact ⟨by rw [HCW.out]; rfl, unhide HBW⟩
          · rw [decide_eq_false hp] at HTR
            rw [if_neg hp] at HCW
            go_wp2_with (go_at_call 36; (with_reducible refine ((unhide HTR) _).mono ?_); rintro e w7 ⟨rfl, rfl⟩)
            go_ret2
            exact ⟨by rw [HCW.out]; rfl, unhide HBW⟩
  · have hall := (unhide HZI).1 rfl
    have hcw : ckF s.data.toList t.data.toList s.size 0 = 0 := ckF_eq s.size 0 fun j _ hj => by
      have := hall j (by omega)
      rw [lrF_at s (by omega), lrF_at t (by have := HST.out; omega)] at this
      exact rk_inj ((unhide HG1) j (by omega)) ((unhide HG2) j (by omega)) this
    have HCW := Lib.hid hcw
    clear hall hcw
    go_wp2_with (first
      | (refine wpList_load_row rfl 63 (.tmp 6) rfl X rfl 63 AR (0, 0) _ (unhide H10) Tryz.underlying63 rfl HI1.out ?_)
      | (refine wpList_load_row rfl 63 (.tmp 7) rfl (X + 1) rfl 63 AS (0, 0) _ (unhide H11) Tryz.underlying63 rfl HI2.out ?_))
    go_ret2
    exact ⟨by rw [HCW.out]; rfl, unhide HBT⟩

set_option maxRecDepth 100000 in
set_option maxHeartbeats 800000 in
theorem iCompareKneading_any (s t : ByteArray) (w : World) (hs : s.size ≤ 1048576) (ht : t.size ≤ 1048576) :
    Calls Tryz.prog 16 #[.string s, .string t] w fun e w' => e = .returned (.tuple #[.int .i64 (ckI s t), .bool (ckZ s t)]) ∧ Below w.heap.size w w' := by
  have hgs := fun W => iIsKneadingWord_any s W hs
  have hgt := fun W => iIsKneadingWord_any t W ht
  rcases h1 : gdB sLCR s with _ | _
  · have hz : ckZ s t = false := by unfold ckZ; rw [h1]; rfl
    rw [show ckI s t = 0 by unfold ckI; rw [hz], hz]
    rw [h1] at hgs
    have HS := hide hgs
    clear hgs hgt h1 hz
    go_enter Tryz.func16, Tryz.ntmps16
    go_wp2_with (go_at_call 12; (with_reducible refine ((unhide HS) _).mono ?_); rintro e w1 ⟨rfl, hbw1⟩; obtain ⟨hcw1, hfw1⟩ := bcell hbw1; have hzw1 := hbw1.size; (try simp at hzw1))
    go_ret2
    exact ⟨rfl, (by repeat (first | with_reducible exact Below.refl _ _ | with_reducible assumption | (with_reducible refine Below.trans ?_ (Below.mono (by assumption) (by first | omega | (simp <;> omega)))) | with_reducible apply Below.drew | with_reducible apply below_drewN | (with_reducible refine Below.alloc ?_ (by first | omega | (simp <;> omega)) _) | (with_reducible refine Below.setCell ?_ (by first | omega | (simp <;> omega)) _)))⟩
  · rcases h2 : gdB sLCR t with _ | _
    · have hz : ckZ s t = false := by unfold ckZ; rw [h1, h2]; rfl
      rw [show ckI s t = 0 by unfold ckI; rw [hz], hz]
      rw [h1] at hgs
      rw [h2] at hgt
      have HS := hide hgs; have HT := hide hgt
      clear hgs hgt h1 h2 hz
      go_enter Tryz.func16, Tryz.ntmps16
      go_wp2_with (first
        | (go_at_call 12; have _t := hbw1; clear _t; (with_reducible refine ((unhide HT) _).mono ?_); rintro e w2 ⟨rfl, hbw2⟩; obtain ⟨hcw2, hfw2⟩ := bcell hbw2; have hzw2 := hbw2.size; (try simp at hzw2))
        | (go_at_call 12; (with_reducible refine ((unhide HS) _).mono ?_); rintro e w1 ⟨rfl, hbw1⟩; obtain ⟨hcw1, hfw1⟩ := bcell hbw1; have hzw1 := hbw1.size; (try simp at hzw1)))
      go_ret2
      exact ⟨rfl, (by repeat (first | with_reducible exact Below.refl _ _ | with_reducible assumption | (with_reducible refine Below.trans ?_ (Below.mono (by assumption) (by first | omega | (simp <;> omega)))) | with_reducible apply Below.drew | with_reducible apply below_drewN | (with_reducible refine Below.alloc ?_ (by first | omega | (simp <;> omega)) _) | (with_reducible refine Below.setCell ?_ (by first | omega | (simp <;> omega)) _)))⟩
    · have hzz : ckZ s t = decide (s.size = t.size) := by unfold ckZ; rw [h1, h2]; rfl
      by_cases hst : s.size = t.size
      · have hz : ckZ s t = true := by rw [hzz, decide_eq_true hst]
        rw [show ckI s t = ckF s.data.toList t.data.toList s.size 0 by unfold ckI; rw [hz], hz]
        exact iCompare_good s t w h1 h2 hst
      · have hz : ckZ s t = false := by rw [hzz, decide_eq_false hst]
        rw [show ckI s t = 0 by unfold ckI; rw [hz], hz]
        rw [h1] at hgs
        rw [h2] at hgt
        have HS := hide hgs; have HT := hide hgt
        have e1 : ¬ (s.size : Int) = (t.size : Int) := by omega
        have e2 : ((s.size : Int) == (t.size : Int)) = false := beq_eq_false_iff_ne.2 e1
        clear hgs hgt h1 h2 hz hzz
        go_enter Tryz.func16, Tryz.ntmps16
        go_wp2_with (first
          | (go_at_call 12; have _t := hbw1; clear _t; (with_reducible refine ((unhide HT) _).mono ?_); rintro e w2 ⟨rfl, hbw2⟩; obtain ⟨hcw2, hfw2⟩ := bcell hbw2; have hzw2 := hbw2.size; (try simp at hzw2))
          | (go_at_call 12; (with_reducible refine ((unhide HS) _).mono ?_); rintro e w1 ⟨rfl, hbw1⟩; obtain ⟨hcw1, hfw1⟩ := bcell hbw1; have hzw1 := hbw1.size; (try simp at hzw1)))
        go_ret2
        exact ⟨rfl, (by repeat (first | with_reducible exact Below.refl _ _ | with_reducible assumption | (with_reducible refine Below.trans ?_ (Below.mono (by assumption) (by first | omega | (simp <;> omega)))) | with_reducible apply Below.drew | with_reducible apply below_drewN | (with_reducible refine Below.alloc ?_ (by first | omega | (simp <;> omega)) _) | (with_reducible refine Below.setCell ?_ (by first | omega | (simp <;> omega)) _)))⟩
end Go.Proofs.YtldmgjeecomddaaGreatDoor

/-
  Chapter 7: words: knGood of the model, IsKneadingWord of both.
-/
import Derived.Test.YtldmgjeecomddaaDoorRat
import Derived.Test.YtldmgjeecomddaaDoorShelf
import Derived.Shelf.Strings.SlTrimAscii
import Derived.Lib.SmallJoins
namespace Go.Proofs.YtldmgjeecomddaaDoor
open Go.RowKit Rm

abbrev sLCR : ByteArray := ⟨#[76, 67, 82]⟩
abbrev sLR : ByteArray := ⟨#[76, 82]⟩
/-- All bytes of s are among those of t. -/
def inB (t s : ByteArray) : Bool := s.data.toList.all fun b => t.data.toList.contains b
def gdB (t s : ByteArray) : Bool := inB t s && decide (1 ≤ s.size ∧ s.size ≤ 30)
theorem sz_list (s : ByteArray) : s.data.toList.length = s.size := (Lib.size_eq s).symm
theorem at_list (s : ByteArray) {k : Nat} (hk : k < s.size) : s.data.toList[k]? = some s[k] := by
  rw [List.getElem?_eq_getElem (by rw [sz_list]; exact hk)]; rfl
theorem inB_bad {t s : ByteArray} {k : Nat} (hk : k < s.size) (h : t.data.toList.contains s[k] = false) : inB t s = false := by
  unfold inB
  exact List.all_eq_false.2 ⟨s[k], List.mem_of_getElem? (at_list s hk), by rw [h]; decide⟩
theorem inB_good {t s : ByteArray} (h : ∀ k (hk : k < s.size), t.data.toList.contains s[k] = true) : inB t s = true := by
  unfold inB
  rw [List.all_eq_true]
  intro x hx
  obtain ⟨k, hk, rfl⟩ := List.mem_iff_getElem.1 hx
  exact h k (by simpa using hk)
theorem gd_no {t s : ByteArray} (h : inB t s = false) : gdB t s = false := by unfold gdB; rw [h]; rfl
theorem gd_in {t s : ByteArray} (h : inB t s = true) : gdB t s = decide (1 ≤ s.size ∧ s.size ≤ 30) := by unfold gdB; rw [h]; rfl
theorem take_has {t : ByteArray} {k : Nat} (hk : k < t.size) (x : UInt8) : (t.data.toList.take (k + 1)).contains x = ((t.data.toList.take k).contains x || x == t[k]) := by
  rw [List.take_add_one, at_list t hk]
  simp
  rfl

set_option maxRecDepth 100000 in
theorem knLen_any (m : Int) (w : World) : Calls Tryd.prog 44 #[.int .i64 m] w fun e w' => e = .returned (.bool (decide (1 ≤ m ∧ m ≤ 30))) ∧ w = w' := by
  by_cases h : 1 ≤ m ∧ m ≤ 30
  · rw [decide_eq_true h]
    go_enter Tryd.func44, Tryd.ntmps44
    go_wp2_with (go_at_call 31; refine (l1In_yes h _).mono ?_; rintro e w' ⟨rfl, rfl⟩)
    go_ret
    exact ⟨rfl, rfl⟩
  · rw [decide_eq_false h]
    go_enter Tryd.func44, Tryd.ntmps44
    go_wp2_with (go_at_call 31; refine (l1In_no h _).mono ?_; rintro e w' ⟨rfl, rfl⟩)
    go_ret
    exact ⟨rfl, rfl⟩

set_option maxRecDepth 100000 in
set_option maxHeartbeats 800000 in
theorem knGood_any (t s : ByteArray) (w : World) (ht : t.size ≤ 100) (hs : s.size ≤ 1048576) :
    Calls Tryd.prog 24 #[.string s, .string t] w fun e w' => e = .returned (.bool (gdB t s)) ∧ Below w.heap.size w w' := by
  obtain ⟨z, hz⟩ : ∃ z, z = gdB t s := ⟨_, rfl⟩
  rw [← hz]
  have hle := fun W => knLen_any (s.size : Int) W
  have HLE := hide hle
  have HZ := Lib.hid hz
  clear hz hle
  go_enter Tryd.func24, Tryd.ntmps24
  go_wp2_with fail
  go_loopw [5] (fun i wi => ∃ m : Nat, i = .int .i64 m ∧ m ≤ s.size ∧ Below w.heap.size w wi ∧ Hid (∀ j (hj : j < s.size), j < m → t.data.toList.contains s[j] = true)) (fun i _ => s.size - (intOf i).toNat)
  case atStart => exact ⟨0, rfl, by omega, Below.refl _ _, hide (fun j hj h => by omega)⟩
  case round =>
    obtain ⟨m, rfl, hm, hb, HG⟩ := hrel
    have HB := hide hb
    have hzo := hb.size
    clear hb
    by_cases hlt : m < s.size
    · have hbad : t.data.toList.contains s[m] = false → z = false := fun h => HZ.out.trans (gd_no (inB_bad hlt h))
      have hgx : t.data.toList.contains s[m] = true → ∀ j (hj : j < s.size), j < m + 1 → t.data.toList.contains s[j] = true := fun h j hj hj1 => by
        rcases Nat.lt_or_ge j m with h1 | h1
        · exact (unhide HG) j hj h1
        · obtain rfl : j = m := by omega
          exact h
      have HGX := hide hgx; have HBAD := hide hbad
      clear hgx hbad HG
      obtain ⟨wo, rfl⟩ : ∃ x, x = wr := ⟨wr, rfl⟩
      go_wp2_with fail
      go_loopw [6, 7] (fun f i wi => ∃ k : Nat, i = .int .i64 k ∧ k ≤ t.size ∧ f = .bool ((t.data.toList.take k).contains s[m]) ∧ Below wo.heap.size wo wi) (fun _ i _ => t.size - (intOf i).toNat)
      case atStart => exact ⟨0, rfl, by omega, by simp, Below.refl _ _⟩
      case round =>
        obtain ⟨k, rfl, hk, rfl, hbi⟩ := hrel
        have HBI := hide hbi
        have hzi := hbi.size
        clear hbi
        by_cases hkt : k < t.size
        · have htk := take_has hkt (s[m]'hlt)
          cases hf : (t.data.toList.take k).contains (s[m]'hlt) with
          | false =>
            rw [hf, Bool.false_or] at htk
            by_cases hxy : (s[m]'hlt) = (t[k]'hkt)
            · have e1 : (((s[m]'hlt).toNat : Int) = ((t[k]'hkt).toNat : Int)) := by rw [hxy]
              have hn : (t.data.toList.take (k + 1)).contains (s[m]'hlt) = true := by rw [htk, hxy]; simp
              have HN := Lib.hid hn
              clear hn htk hf hxy
              go_wp2_with fail
              go_quiet (fail)
              have hbi := unhide HBI
              go_wp2_with fail
              go_roundw
              case rel => exact ⟨k + 1, by go_num, by omega, by rw [HN.out], (by repeat (first | with_reducible exact Below.refl _ _ | with_reducible assumption | (with_reducible refine Below.trans ?_ (Below.mono (by assumption) (by first | omega | (simp <;> omega)))) | with_reducible apply Below.drew | with_reducible apply below_drewN | (with_reducible refine Below.alloc ?_ (by first | omega | (simp <;> omega)) _) | (with_reducible refine Below.setCell ?_ (by first | omega | (simp <;> omega)) _)))⟩
              case measure => (simp [intOf] <;> omega)
            · have e1 : ¬ (((s[m]'hlt).toNat : Int) = ((t[k]'hkt).toNat : Int)) := fun h => hxy (UInt8.toNat_inj.1 (by omega))
              have hn : (t.data.toList.take (k + 1)).contains (s[m]'hlt) = false := by rw [htk]; simpa using hxy
              have HN := Lib.hid hn
              clear hn htk hf hxy
              go_wp2_with fail
              go_quiet (fail)
              have hbi := unhide HBI
              go_wp2_with fail
              go_roundw
              case rel => exact ⟨k + 1, by go_num, by omega, by rw [HN.out, beq_eq_false_iff_ne.2 e1], (by repeat (first | with_reducible exact Below.refl _ _ | with_reducible assumption | (with_reducible refine Below.trans ?_ (Below.mono (by assumption) (by first | omega | (simp <;> omega)))) | with_reducible apply Below.drew | with_reducible apply below_drewN | (with_reducible refine Below.alloc ?_ (by first | omega | (simp <;> omega)) _) | (with_reducible refine Below.setCell ?_ (by first | omega | (simp <;> omega)) _)))⟩
              case measure => (simp [intOf] <;> omega)
          | true =>
            rw [hf, Bool.true_or] at htk
            have HN := Lib.hid htk
            clear htk hf
            go_wp2_with fail
            go_quiet (fail)
            have hbi := unhide HBI
            go_wp2_with fail
            go_roundw
            case rel => exact ⟨k + 1, by go_num, by omega, by rw [HN.out], (by repeat (first | with_reducible exact Below.refl _ _ | with_reducible assumption | (with_reducible refine Below.trans ?_ (Below.mono (by assumption) (by first | omega | (simp <;> omega)))) | with_reducible apply Below.drew | with_reducible apply below_drewN | (with_reducible refine Below.alloc ?_ (by first | omega | (simp <;> omega)) _) | (with_reducible refine Below.setCell ?_ (by first | omega | (simp <;> omega)) _)))⟩
            case measure => (simp [intOf] <;> omega)
        · obtain rfl : k = t.size := by omega
          rw [List.take_of_length_le (by rw [sz_list]; exact Nat.le_refl _)]
          cases hf : t.data.toList.contains (s[m]'hlt) with
          | false =>
            obtain rfl := (unhide HBAD) hf
            clear hf HGX HBAD
            have hbi := unhide HBI
            have hb := unhide HB
            go_wp2_with fail
            go_ret
            exact ⟨rfl, (by repeat (first | with_reducible exact Below.refl _ _ | with_reducible assumption | (with_reducible refine Below.trans ?_ (Below.mono (by assumption) (by first | omega | (simp <;> omega)))) | with_reducible apply Below.drew | with_reducible apply below_drewN | (with_reducible refine Below.alloc ?_ (by first | omega | (simp <;> omega)) _) | (with_reducible refine Below.setCell ?_ (by first | omega | (simp <;> omega)) _)))⟩
          | true =>
            have HG1 := hide ((unhide HGX) hf)
            clear hf HGX HBAD
            go_wp2_with fail
            go_roundw
            case rel => exact ⟨m + 1, by go_num, by omega, (unhide HB).trans ((unhide HBI).mono hzo), HG1⟩
            case measure => (simp [intOf] <;> omega)
    · obtain rfl : m = s.size := by omega
      have hg := gd_in (inB_good (t := t) (fun j hj => (unhide HG) j hj hj))
      rw [← HZ.out] at hg
      rw [show decide (1 ≤ s.size ∧ s.size ≤ 30) = decide (1 ≤ (s.size : Int) ∧ (s.size : Int) ≤ 30) by simp only [decide_eq_decide]; omega] at hg
      rw [← hg] at HLE
      clear hg HG
      go_wp2_with (go_at_call 44; (with_reducible refine ((unhide HLE) _).mono ?_); rintro e w' ⟨rfl, rfl⟩)
      go_ret
      exact ⟨rfl, unhide HB⟩

/-! ### strings.Trim at the three letters -/
theorem dropWhile_nil (p : UInt8 → Bool) : ∀ l : List UInt8, (l.dropWhile p).isEmpty = l.all p
  | [] => rfl
  | x :: r => by
    cases h : p x with
    | true => simp [h, dropWhile_nil p r]
    | false => simp [h]
theorem mem_dropWhile (p : UInt8 → Bool) : ∀ (l : List UInt8), l.all p = false → (l.dropWhile p).all p = false
  | [], h => by cases h
  | x :: r, h => by
    cases hx : p x with
    | true => rw [List.dropWhile_cons, if_pos hx]; exact mem_dropWhile p r (by simpa [hx] using h)
    | false => rw [List.dropWhile_cons, if_neg (by rw [hx]; decide)]; simp [hx]
theorem trimS_nil (l cs : List UInt8) : (Lib.trimS l cs).isEmpty = l.all fun b => cs.contains b := by
  show (((l.reverse.dropWhile fun b => cs.contains b).reverse).dropWhile fun b => cs.contains b).isEmpty = _
  rw [dropWhile_nil, List.all_reverse]
  cases h : l.all fun b => cs.contains b with
  | true =>
    have h1 : (l.reverse.dropWhile fun b => cs.contains b).isEmpty = true := by rw [dropWhile_nil, List.all_reverse, h]
    rw [List.isEmpty_iff.1 h1]; rfl
  | false => exact mem_dropWhile _ _ (by rw [List.all_reverse, h])

set_option maxRecDepth 100000 in
theorem trim_any (s : ByteArray) (w : World) (hs : s.size ≤ 1048576) :
    Calls Tryd.prog 25 #[.string s, .string sLCR] w fun e w' => ∃ t : ByteArray, e = .returned (.string t) ∧ (t.size = 0 ↔ inB sLCR s = true) ∧ Below w.heap.size w w' := by
  refine (Any.strings_Trim_laid Tryd.lays160 (by kernel_rfl) s sLCR w (by omega) (by decide) (ascii_of_all (by decide))).mono ?_
  rintro e w' ⟨rfl, hb⟩
  refine ⟨_, rfl, ?_, hb⟩
  rw [Lib.size_mk]
  have := trimS_nil s.data.toList sLCR.data.toList
  unfold inB
  rw [← this]
  cases Lib.trimS s.data.toList sLCR.data.toList <;> simp
end Go.Proofs.YtldmgjeecomddaaDoor

/-
  Environments: names.
-/
import Derived.Test.YtafcdlojlfnjbaaDoorHa
import Derived.IntWalk
namespace Go.Proofs.YtafcdlojlfnjbaaDoor
open Go.RowKit Rm

/-- The words that are no names. -/
def wordL : List ByteArray := [⟨#[115, 97, 109, 101]⟩, ⟨#[102, 108, 105, 112]⟩, ⟨#[116, 101, 110, 116]⟩, ⟨#[97, 102, 116, 101, 114]⟩, ⟨#[116, 105, 109, 101, 115]⟩, ⟨#[109, 105, 114, 114, 111, 114]⟩, ⟨#[109, 105, 100, 100, 108, 101]⟩, ⟨#[99, 108, 97, 109, 112]⟩]
def wordK : List (List UInt8) := [[115, 97, 109, 101], [102, 108, 105, 112], [116, 101, 110, 116], [97, 102, 116, 101, 114], [116, 105, 109, 101, 115], [109, 105, 114, 114, 111, 114], [109, 105, 100, 100, 108, 101], [99, 108, 97, 109, 112]]
theorem wordK_L : wordK = wordL.map ByteArray.toList := by kernel_rfl
def wB (s : ByteArray) : Bool := wordK.any fun x => s.toList == x
def lowB (b : UInt8) : Bool := decide (97 ≤ b.toNat ∧ b.toNat ≤ 122)
def nameB (s : ByteArray) : Bool := decide (1 ≤ s.size ∧ s.size ≤ 8) && (!(wB s) && s.data.toList.all lowB)

set_option maxRecDepth 100000 in
theorem isWord_any (s : ByteArray) (w : World) :
    Calls Tryd.prog 36 #[.string s] w fun e w' => e = .returned (.bool (wB s)) ∧ w = w' := by
  go_enter Tryd.func36, Tryd.ntmps36
  go_wp2_with fail
  all_goals first | (exfalso; simp_all; done) | (go_ret; exact ⟨by simp [wB, wordK, *], rfl⟩)

set_option maxRecDepth 100000 in
theorem laWords_any (w : World) :
    Calls Tryd.prog 28 #[] w fun e w' => e = .returned (.slice (some ⟨w.heap.size, 0, none⟩) 8 8) ∧ w.heap.size < w'.heap.size ∧ (∀ k x, wordL[k]? = some x → w'.cell? ⟨w.heap.size, k, none⟩ = some (.string x)) ∧ Below w.heap.size w w' := by
  go_enter Tryd.func28, Tryd.ntmps28
  go_wp2_with fail
  go_ret
  refine ⟨rfl, by simp, fun k x hk => ?_, (by repeat (first | with_reducible exact Below.refl _ _ | with_reducible assumption | (with_reducible refine Below.trans ?_ (Below.mono (by assumption) (by first | omega | (simp <;> omega)))) | with_reducible apply Below.drew | with_reducible apply below_drewN | (with_reducible refine Below.alloc ?_ (by first | omega | (simp <;> omega)) _) | (with_reducible refine Below.setCell ?_ (by first | omega | (simp <;> omega)) _)))⟩
  have h8 : k < 8 := by
    rcases Nat.lt_or_ge k 8 with h | h
    · exact h
    · rw [List.getElem?_eq_none (by simpa [wordL] using h)] at hk; cases hk
  match k, h8 with
  | 0, _ | 1, _ | 2, _ | 3, _ | 4, _ | 5, _ | 6, _ | 7, _ =>
    simp [wordL] at hk
    subst hk
    simp [go_sem]

theorem wB_yes {s x : ByteArray} {k : Nat} (hx : wordL[k]? = some x) (h : (s.toList == x.toList) = true) : wB s = true := by
  unfold wB
  rw [wordK_L, List.any_eq_true]
  exact ⟨x.toList, List.mem_map.2 ⟨x, List.mem_iff_getElem?.2 ⟨k, hx⟩, rfl⟩, h⟩
theorem wB_no {s : ByteArray} (h : ∀ j x, j < 8 → wordL[j]? = some x → (s.toList == x.toList) = false) : wB s = false := by
  unfold wB
  rw [wordK_L, List.any_eq_false]
  intro y hy
  obtain ⟨x, hx, rfl⟩ := List.mem_map.1 hy
  obtain ⟨k, hk⟩ := List.mem_iff_getElem?.1 hx
  have h8 : k < 8 := by
    rcases Nat.lt_or_ge k 8 with h1 | h1
    · exact h1
    · rw [List.getElem?_eq_none (by simpa [wordL] using h1)] at hk; cases hk
  rw [h k x h8 hk]
  decide
theorem nameB_word {s : ByteArray} (h : wB s = true) : nameB s = false := by unfold nameB; rw [h]; simp
theorem nameB_size {s : ByteArray} (h : ¬ (1 ≤ s.size ∧ s.size ≤ 8)) : nameB s = false := by unfold nameB; rw [decide_eq_false h, Bool.false_and]
theorem nameB_bad {s : ByteArray} {k : Nat} (hk : k < s.size) (h : lowB s[k] = false) : nameB s = false := by
  unfold nameB
  rw [show s.data.toList.all lowB = false from List.all_eq_false.2 ⟨s[k], by
    have : s[k] = s.data.toList[k]'(by simpa using hk) := rfl
    rw [this]; exact List.getElem_mem _, by rw [h]; decide⟩, Bool.and_false, Bool.and_false]
theorem nameB_good {s : ByteArray} (hw : wB s = false) (h : ∀ k (hk : k < s.size), lowB s[k] = true) : nameB s = decide (1 ≤ s.size ∧ s.size ≤ 8) := by
  unfold nameB
  rw [hw, show s.data.toList.all lowB = true from by
    rw [List.all_eq_true]
    intro x hx
    obtain ⟨k, hk, rfl⟩ := List.mem_iff_getElem.1 hx
    exact h k (by simpa using hk)]
  simp

set_option maxRecDepth 100000 in
set_option maxHeartbeats 800000 in
theorem laName_any (s : ByteArray) (w : World) (hs : s.size ≤ 1048576) :
    Calls Tryd.prog 19 #[.string s] w fun e w' => e = .returned (.bool (nameB s)) ∧ Below w.heap.size w w' := by
  obtain ⟨z, hz⟩ : ∃ z, z = nameB s := ⟨_, rfl⟩
  rw [← hz]
  have HZ := Lib.hid hz
  clear hz
  go_enter Tryd.func19, Tryd.ntmps19
  go_wp2_with (go_at_call 28; (with_reducible refine (laWords_any _).mono ?_); rintro e w1 ⟨rfl, hg1, hc1, hbw1⟩; have hz1 := hbw1.size; have HC1 := hide hc1; clear hc1)
  go_loopw [8] (fun i wr => ∃ k : Nat, i = .int .i64 k ∧ k ≤ 8 ∧ Hid (∀ j x, j < k → wordL[j]? = some x → (s.toList == x.toList) = false) ∧ Below w1.heap.size w1 wr) (fun i _ => 8 - (intOf i).toNat)
  case atStart => exact ⟨0, rfl, by omega, hide (fun j x h => by omega), Below.refl _ _⟩
  case round =>
    obtain ⟨k, rfl, hk, hno, hbwr⟩ := hrel
    by_cases hlt : k < 8
    · obtain ⟨x, hx⟩ : ∃ x, wordL[k]? = some x := ⟨_, List.getElem?_eq_getElem (by simpa [wordL] using hlt)⟩
      have f0 := (hbwr.cell (p := ⟨w.heap.size, k, none⟩) hg1).trans ((unhide HC1) k x hx)
      have hgr := Nat.lt_of_lt_of_le hg1 hbwr.size
      have HB := hide hbwr
      rcases hq : (s.toList == x.toList) with _ | _
      · have hn1 : ∀ j y, j < k + 1 → wordL[j]? = some y → (s.toList == y.toList) = false := fun j y hj hy => by
          rcases Nat.lt_or_ge j k with h3 | h3
          · exact (unhide hno) j y h3 hy
          · obtain rfl : j = k := by omega
            rw [hx] at hy
            rw [← Option.some.inj hy]
            exact hq
        have HN1 := hide hn1
        clear hx hbwr hn1 hno
        go_wp2_with fail
        have hb := unhide HB
        go_roundw
        case rel => exact ⟨k + 1, by go_num, by omega, HN1, (by repeat (first | with_reducible exact Below.refl _ _ | with_reducible assumption | (with_reducible refine Below.trans ?_ (Below.mono (by assumption) (by first | omega | (simp <;> omega)))) | with_reducible apply Below.drew | with_reducible apply below_drewN | (with_reducible refine Below.alloc ?_ (by first | omega | (simp <;> omega)) _) | (with_reducible refine Below.setCell ?_ (by first | omega | (simp <;> omega)) _)))⟩
        case measure => simp [intOf]; omega
      · obtain rfl : z = false := HZ.out.trans (nameB_word (wB_yes hx hq))
        clear hx hbwr hno
        go_wp2_with fail
        have hb := (unhide HB)
        go_ret
        exact ⟨rfl, hbw1.trans (hb.mono hz1)⟩
    · obtain rfl : k = 8 := by omega
      have hw := wB_no (unhide hno)
      have HW := Lib.hid hw
      have HB := hide (hbw1.trans (hbwr.mono hz1))
      have hzr := hbwr.size
      clear hno hbwr hw hbw1
      go_wp2_with fail
      go_loopw [5] (fun i wi => ∃ m : Nat, i = .int .i64 m ∧ m ≤ s.size ∧ wi = wr ∧ Hid (∀ j (hj : j < s.size), j < m → lowB s[j] = true)) (fun i _ => s.size - (intOf i).toNat)
      case atStart => exact ⟨0, rfl, by omega, rfl, hide (fun j hj h => by omega)⟩
      case round =>
        obtain ⟨m, rfl, hm, rfl, HG⟩ := hrel
        by_cases hlt : m < s.size
        · have hbad : lowB s[m] = false → z = false := fun h => HZ.out.trans (nameB_bad hlt h)
          have hgx : lowB s[m] = true → ∀ j (hj : j < s.size), j < m + 1 → lowB s[j] = true := fun h j hj hj1 => by
            rcases Nat.lt_or_ge j m with h1 | h1
            · exact (unhide HG) j hj h1
            · obtain rfl : j = m := by omega
              exact h
          have hix : s[m]? = some s[m] := by simp [hlt]
          have h255 : (s[m]'hlt).toNat < 256 := UInt8.toNat_lt _
          have HGX := hide hgx; have HBAD := hide hbad
          clear hgx hbad HG
          have t1 : (0 : Int) ≤ (m : Int) := by omega
          have t2 : (m : Int) < (s.size : Int) := by omega
          by_cases h1 : (s[m]'hlt).toNat < 97
          · obtain rfl := (unhide HBAD) (decide_eq_false (by omega))
            have e3 : decide (((s[m]'hlt).toNat : Int) < 97) = true := decide_eq_true (by omega)
            clear HGX HBAD
            go_wp2_with fail
            go_ret
            exact ⟨rfl, unhide HB⟩
          · have e3 : decide (((s[m]'hlt).toNat : Int) < 97) = false := decide_eq_false (by omega)
            by_cases h2 : (s[m]'hlt).toNat > 122
            · obtain rfl := (unhide HBAD) (decide_eq_false (by omega))
              have e4 : decide (((s[m]'hlt).toNat : Int) > 122) = true := decide_eq_true (by omega)
              clear HGX HBAD
              go_wp2_with fail
              go_ret
              exact ⟨rfl, unhide HB⟩
            · have e4 : decide (((s[m]'hlt).toNat : Int) > 122) = false := decide_eq_false (by omega)
              have HG1 := hide ((unhide HGX) (decide_eq_true (by omega)))
              clear HGX HBAD
              go_wp2_with fail
              go_roundw
              case rel => exact ⟨m + 1, by go_num, by omega, by trivial, HG1⟩
              case measure => (simp [intOf] <;> omega)
        · obtain rfl : m = s.size := by omega
          have hg := nameB_good HW.out (fun j hj => (unhide HG) j hj hj)
          rw [← HZ.out] at hg
          by_cases hi : 1 ≤ s.size ∧ s.size ≤ 8
          · rw [decide_eq_true hi] at hg
            subst hg
            have hin := fun W => l1In_yes (n := (s.size : Int)) (lo := 1) (hi := 8) (by omega) W
            have HIN := hide hin
            clear hin HG
            go_wp2_with (go_at_call 29; (with_reducible refine ((unhide HIN) _).mono ?_); rintro e w' ⟨rfl, rfl⟩)
            go_ret
            exact ⟨rfl, unhide HB⟩
          · rw [decide_eq_false hi] at hg
            subst hg
            have hin := fun W => l1In_no (n := (s.size : Int)) (lo := 1) (hi := 8) (by omega) W
            have HIN := hide hin
            clear hin HG
            go_wp2_with (go_at_call 29; (with_reducible refine ((unhide HIN) _).mono ?_); rintro e w' ⟨rfl, rfl⟩)
            go_ret
            exact ⟨rfl, unhide HB⟩
end Go.Proofs.YtafcdlojlfnjbaaDoor

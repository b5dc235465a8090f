/-
  Environments: names of the program.
-/
import Derived.Test.YtafcdlojlfnjbaaDoorHd
import Derived.Laws.IdiomStrings
namespace Go.Proofs.YtafcdlojlfnjbaaDoor
open Go.RowKit Rm

theorem bytes_at (w : World) (s : ByteArray) (cap : Nat) (e : TypeId) (fz : Nat × Nat) {k : Nat} (hk : k < s.size) :
    (w.alloc (.cells (bytesRow s cap) e fz)).drew.cell? ⟨w.heap.size, k, none⟩ = some (.int .u8 (s[k].toNat : Int)) := by
  have h1 : (bytesRow s cap)[k]? = some (.int .u8 (s[k].toNat : Int)) := by
    unfold bytesRow
    rw [Array.getElem?_append_left (by simpa using hk), Array.getElem?_map]
    have : s.data[k]? = some s[k] := Array.getElem?_eq_getElem (by simpa using hk)
    rw [this]
    rfl
  show (w.alloc (.cells (bytesRow s cap) e fz)).cell? ⟨w.heap.size, k, none⟩ = _
  have h2 : (w.alloc (.cells (bytesRow s cap) e fz)).heap[w.heap.size]? = some (.cells (bytesRow s cap) e fz) := by
    show (w.heap.push _)[w.heap.size]? = _
    simp
  unfold World.cell?
  rw [h2]
  exact h1

set_option maxRecDepth 100000 in
set_option maxHeartbeats 800000 in
theorem isName_any (s : ByteArray) (w : World) (hs : s.size ≤ 1048576) :
    Calls Tryd.prog 23 #[.string s] w fun e w' => e = .returned (.bool (nameB s)) ∧ Below w.heap.size w w' := by
  have hiw := fun W => isWord_any s W
  have HIW := hide hiw
  clear hiw
  by_cases h18 : 1 ≤ s.size ∧ s.size ≤ 8
  · have e1 : decide ((s.size : Int) < 1) = false := decide_eq_false (by omega)
    have e2 : decide ((s.size : Int) > 8) = false := decide_eq_false (by omega)
    rcases hw : wB s with _ | _
    · obtain ⟨z, hz⟩ : ∃ z, z = nameB s := ⟨_, rfl⟩
      rw [← hz]
      have HZ := Lib.hid hz; have HW := Lib.hid hw
      simp only [hw] at HIW
      have hcv := run_bytes_of_string (P := Tryd.prog) w 9 41 5 s Tryd.underlying9 Tryd.underlying41 Tryd.underlying5
      clear hz hw
      go_enter Tryd.func23, Tryd.ntmps23
      go_wp2_with (go_at_call 36; (with_reducible refine ((unhide HIW) _).mono ?_); rintro e w' ⟨rfl, rfl⟩)
      clear hcv
      have hb0 : Below w.heap.size w (w.alloc (.cells (bytesRow s (grownCap w s.size 0 5)) 5 ((bytesRow s (grownCap w s.size 0 5)).size, (bytesRow s (grownCap w s.size 0 5)).size + 1))).drew := (by repeat (first | with_reducible exact Below.refl _ _ | with_reducible assumption | (with_reducible refine Below.trans ?_ (Below.mono (by assumption) (by first | omega | (simp <;> omega)))) | with_reducible apply Below.drew | with_reducible apply below_drewN | (with_reducible refine Below.alloc ?_ (by first | omega | (simp <;> omega)) _) | (with_reducible refine Below.setCell ?_ (by first | omega | (simp <;> omega)) _)))
      have hc0 := fun k (hk : k < s.size) => bytes_at w s (grownCap w s.size 0 5) 5 ((bytesRow s (grownCap w s.size 0 5)).size, (bytesRow s (grownCap w s.size 0 5)).size + 1) hk
      have hz0 : w.heap.size < (w.alloc (.cells (bytesRow s (grownCap w s.size 0 5)) 5 ((bytesRow s (grownCap w s.size 0 5)).size, (bytesRow s (grownCap w s.size 0 5)).size + 1))).drew.heap.size := by simp
      generalize (w.alloc (.cells (bytesRow s (grownCap w s.size 0 5)) 5 ((bytesRow s (grownCap w s.size 0 5)).size, (bytesRow s (grownCap w s.size 0 5)).size + 1))).drew = wr at *
      generalize grownCap w s.size 0 5 = cap at *
      have HB := hide hb0; have HC0 := hide hc0
      clear hb0 hc0
      go_loopw [20] (fun i wi => ∃ m : Nat, i = .int .i64 m ∧ m ≤ s.size ∧ wi = wr ∧ Hid (∀ j (hj : j < s.size), j < m → lowB s[j] = true)) (fun i _ => s.size - (intOf i).toNat)
      case atStart => exact ⟨0, rfl, by omega, rfl, hide (fun j hj h => by omega)⟩
      case round =>
        obtain ⟨m, rfl, hm, rfl, HG⟩ := hrel
        by_cases hlt : m < s.size
        · have hbad : lowB s[m] = false → z = false := fun h => HZ.out.trans (nameB_bad hlt h)
          have hgx : lowB s[m] = true → ∀ j (hj : j < s.size), j < m + 1 → lowB s[j] = true := fun h j hj hj1 => by
            rcases Nat.lt_or_ge j m with h1 | h1
            · exact (unhide HG) j hj h1
            · obtain rfl : j = m := by omega
              exact h
          have f0 := (unhide HC0) m hlt
          have h255 : (s[m]'hlt).toNat < 256 := UInt8.toNat_lt _
          have HGX := hide hgx; have HBAD := hide hbad
          clear hgx hbad HG
          have hlow : lowB s[m] = decide (97 ≤ (s[m]'hlt).toNat ∧ (s[m]'hlt).toNat ≤ 122) := rfl
          rw [hlow] at HGX HBAD
          clear hlow
          generalize (s[m]'hlt).toNat = x at *
          by_cases h1 : x < 97
          · obtain rfl := (unhide HBAD) (decide_eq_false (by omega))
            have e3 : decide ((x : Int) < 97) = true := decide_eq_true (by omega)
            clear HGX HBAD
            go_wp2_with fail
            go_ret
            exact ⟨rfl, unhide HB⟩
          · have e3 : decide ((x : Int) < 97) = false := decide_eq_false (by omega)
            by_cases h2 : x > 122
            · obtain rfl := (unhide HBAD) (decide_eq_false (by omega))
              have e4 : decide ((x : Int) > 122) = true := decide_eq_true (by omega)
              clear HGX HBAD
              go_wp2_with fail
              go_ret
              exact ⟨rfl, unhide HB⟩
            · have e4 : decide ((x : Int) > 122) = false := decide_eq_false (by omega)
              have HG1 := hide ((unhide HGX) (decide_eq_true (by omega)))
              clear HGX HBAD
              go_wp2_with fail
              go_roundw
              case rel => exact ⟨m + 1, by go_num, by omega, by trivial, HG1⟩
              case measure => (simp [intOf] <;> omega)
        · obtain rfl : m = s.size := by omega
          have hg := nameB_good HW.out (fun j hj => (unhide HG) j hj hj)
          rw [decide_eq_true h18] at hg
          obtain rfl : z = true := HZ.out.trans hg
          clear HG hg
          go_wp2_with fail
          go_ret
          exact ⟨rfl, unhide HB⟩
    · rw [nameB_word hw]
      simp only [hw] at HIW
      clear hw
      go_enter Tryd.func23, Tryd.ntmps23
      go_wp2_with (go_at_call 36; (with_reducible refine ((unhide HIW) _).mono ?_); rintro e w' ⟨rfl, rfl⟩)
      go_ret
      exact ⟨rfl, Below.refl _ _⟩
  · rw [nameB_size h18]
    by_cases h1 : s.size < 1
    · have e1 : decide ((s.size : Int) < 1) = true := decide_eq_true (by omega)
      clear HIW
      go_enter Tryd.func23, Tryd.ntmps23
      go_wp2_with fail
      go_ret
      exact ⟨rfl, Below.refl _ _⟩
    · have e1 : decide ((s.size : Int) < 1) = false := decide_eq_false (by omega)
      have e2 : decide ((s.size : Int) > 8) = true := decide_eq_true (by omega)
      clear HIW
      go_enter Tryd.func23, Tryd.ntmps23
      go_wp2_with fail
      go_ret
      exact ⟨rfl, Below.refl _ _⟩
end Go.Proofs.YtafcdlojlfnjbaaDoor

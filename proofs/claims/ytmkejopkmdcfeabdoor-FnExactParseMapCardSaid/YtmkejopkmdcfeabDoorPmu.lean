/-
  Chapter 2: the bytes that a range over a string passes; the program's reading of a map's text by runes.
-/
import Derived.Test.YtmkejopkmdcfeabDoorPmm
import Derived.Test.YtmkejopkmdcfeabDoorSplit
namespace Go.Proofs.YtmkejopkmdcfeabDoor
open Go.RowKit Rm

/-- A rune that is no byte of ASCII: all its bytes lie in the text and are none of ASCII. -/
theorem decode_bytes (s : ByteArray) (pos : Nat) (h : pos < s.size) (ha : ¬ (s[pos]'h).toNat < 128) : ∀ j, j < (Utf8.decode s pos).2 → pos + j < s.size ∧ 128 ≤ (s.get! (pos + j)).toNat := by
  have h0 : 128 ≤ (s.get! (pos + 0)).toNat := by rw [get_at s pos h]; omega
  have hn : ¬ (s.get! (pos + 0)).toNat < 128 := by omega
  have key : ∀ k, (decide (pos + k < s.size) && (s.get! (pos + k)).toNat / 64 == 2) = true → pos + k < s.size ∧ 128 ≤ (s.get! (pos + k)).toNat := by
    intro k hk
    simp only [Bool.and_eq_true, decide_eq_true_eq, beq_iff_eq] at hk
    exact ⟨hk.1, by omega⟩
  have one : ∀ j, j < 1 → pos + j < s.size ∧ 128 ≤ (s.get! (pos + j)).toNat := fun j hj => by
    obtain rfl : j = 0 := by omega
    exact ⟨by omega, h0⟩
  simp only [Utf8.decode, hn, if_false]
  split
  · rename_i hc
    simp only [Bool.and_eq_true] at hc
    split
    · intro j hj
      match j, hj with
      | 0, _ => exact ⟨by omega, h0⟩
      | 1, _ => exact key 1 (by simpa using hc.2)
      | j + 2, hj => exact absurd hj (by simp)
    · exact one
  · split
    · rename_i hc
      simp only [Bool.and_eq_true] at hc
      split
      · intro j hj
        match j, hj with
        | 0, _ => exact ⟨by omega, h0⟩
        | 1, _ => exact key 1 (by simpa using hc.1.2)
        | 2, _ => exact key 2 (by simpa using hc.2)
        | j + 3, hj => exact absurd hj (by simp)
      · exact one
    · split
      · rename_i hc
        simp only [Bool.and_eq_true] at hc
        split
        · intro j hj
          match j, hj with
          | 0, _ => exact ⟨by omega, h0⟩
          | 1, _ => exact key 1 (by simpa using hc.1.1.2)
          | 2, _ => exact key 2 (by simpa using hc.1.2)
          | 3, _ => exact key 3 (by simpa using hc.2)
          | j + 4, hj => exact absurd hj (by simp)
        · exact one
      · exact one

/-- The reading when pos bytes are read and the part under way began at f. -/
def rdAt (s : ByteArray) (f pos : Nat) (acc : List Pt) (px : Fr) : Option (List Pt) := rdI (s.data.toList.drop pos) acc px ((s.data.toList.take pos).drop f)
theorem rdAt_start (s : ByteArray) : rdAt s 0 0 [] (0, 0) = rdI s.data.toList [] (0, 0) [] := by simp [rdAt]
theorem byte_at (s : ByteArray) (k : Nat) (h : k < s.size) : s.data.toList[k]'(by simpa using h) = s[k] := rfl
theorem rdAt_end (s : ByteArray) (f pos : Nat) (acc : List Pt) (px : Fr) (h : s.size ≤ pos) : rdAt s f pos acc px = some acc := by
  unfold rdAt
  rw [List.drop_eq_nil_of_le (by simpa using h)]
  rfl
theorem rdAt_skip {s : ByteArray} {f pos : Nat} {acc : List Pt} {px : Fr} (hf : f ≤ pos) (h : pos < s.size) (h1 : s[pos] ≠ 32) (h2 : s[pos] ≠ 59) : rdAt s f pos acc px = rdAt s f (pos + 1) acc px := by
  have hl : pos < s.data.toList.length := by simpa using h
  unfold rdAt
  rw [drop_cons' _ pos hl, seg_step _ f pos hf hl, rdI, if_neg (by rw [byte_at s pos h]; exact h1), if_neg (by rw [byte_at s pos h]; exact h2)]
theorem rdAt_skips {s : ByteArray} {f : Nat} {acc : List Pt} {px : Fr} : ∀ (n pos : Nat), f ≤ pos → (∀ j, j < n → pos + j < s.size ∧ 128 ≤ (s.get! (pos + j)).toNat) → rdAt s f pos acc px = rdAt s f (pos + n) acc px
  | 0, _, _, _ => rfl
  | n + 1, pos, hf, hb => by
    obtain ⟨a, b⟩ := hb 0 (by omega)
    rw [get_at s pos a] at b
    have e32 : s[pos] ≠ 32 := fun e => by
      have : (s[pos]).toNat = 32 := by rw [e]; rfl
      omega
    have e59 : s[pos] ≠ 59 := fun e => by
      have : (s[pos]).toNat = 59 := by rw [e]; rfl
      omega
    rw [rdAt_skip hf a e32 e59, rdAt_skips n (pos + 1) (by omega) (fun j hj => by
      have := hb (j + 1) (by omega)
      rw [show pos + (j + 1) = pos + 1 + j by omega] at this
      exact this), show pos + 1 + n = pos + (n + 1) by omega]
theorem seg_nil (l : List UInt8) (k : Nat) : (l.take k).drop k = [] := List.drop_eq_nil_of_le (by simp; omega)
theorem rdAt_blank {s : ByteArray} {f pos : Nat} {acc : List Pt} {px : Fr} (h : pos < s.size) (h1 : s[pos] = 32) : rdAt s f pos acc px = rdAt s (pos + 1) (pos + 1) acc (prF ((s.data.toList.take pos).drop f)) := by
  have hl : pos < s.data.toList.length := by simpa using h
  unfold rdAt
  rw [drop_cons' _ pos hl, seg_nil, rdI, if_pos (by rw [byte_at s pos h]; exact h1)]
theorem rdAt_mark {s : ByteArray} {f pos : Nat} {acc : List Pt} {px : Fr} (h : pos < s.size) (h1 : s[pos] = 59) : rdAt s f pos acc px = if acc.length = 12 then none else rdAt s (pos + 1) (pos + 1) (acc ++ [(px, prF ((s.data.toList.take pos).drop f))]) px := by
  have hl : pos < s.data.toList.length := by simpa using h
  unfold rdAt
  rw [drop_cons' _ pos hl, seg_nil, rdI, if_neg (by rw [byte_at s pos h, h1]; decide), if_pos (by rw [byte_at s pos h]; exact h1)]
end Go.Proofs.YtmkejopkmdcfeabDoor

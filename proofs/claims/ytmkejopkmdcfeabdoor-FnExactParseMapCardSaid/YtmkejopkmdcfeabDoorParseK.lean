/-
  Chapter 1: ParseRat, of the program and of the model, and the walk of its law.
-/
import Derived.Test.YtmkejopkmdcfeabDoorParseM
namespace Go.Proofs.YtmkejopkmdcfeabDoor
open Go.RowKit Rm

theorem raParse_any (s : ByteArray) (w : World) (hs : s.size ≤ 1048576) :
    Calls Tryd.prog 14 #[.string s] w fun e w' => e = .returned (.tuple #[.agg #[.int .i64 (oN (specP s.data.toList)), .int .i64 (oD (specP s.data.toList))], .bool (specP s.data.toList).isSome]) ∧ Below w.heap.size w w' := by
  have hlen : s.data.toList.length = s.size := by simp
  by_cases h22 : 22 < s.size
  · have e : specP s.data.toList = none := by unfold specP; rw [if_pos (by omega)]
    rw [e]; exact raParse_long s w hs h22
  · have e : specP s.data.toList = match sp 47 [] s.data.toList with
        | [x, y] => match x with
          | [] => none
          | c :: r => if c = 45 then fin s.data.toList (-(rrN r)) (rrN y) else fin s.data.toList (rrN (c :: r)) (rrN y)
        | _ => none := by unfold specP; rw [if_neg (by omega)]; rfl
    match hsp : sp 47 [] s.data.toList with
    | [] =>
      rw [hsp] at e; rw [e]
      exact raParse_count s w hs (by omega) (by rw [hsp]; simp)
    | [x] =>
      rw [hsp] at e; rw [e]
      exact raParse_count s w hs (by omega) (by rw [hsp]; simp)
    | x :: y :: z :: r =>
      rw [hsp] at e; rw [e]
      exact raParse_count s w hs (by omega) (by rw [hsp]; simp)
    | [[], y] =>
      rw [hsp] at e; rw [e]
      exact raParse_empty s ⟨#[]⟩ ⟨y.toArray⟩ w hs (by omega) (by rw [hsp]) rfl
    | [c :: r, y] =>
      rw [hsp] at e; rw [e]
      have hsz : (ByteArray.mk (c :: r).toArray).size = r.length + 1 := by simp [ByteArray.size]
      have hX : 0 < (ByteArray.mk (c :: r).toArray).size := by omega
      have h0 : (ByteArray.mk (c :: r).toArray)[0]'hX = c := rfl
      have hls : ∀ (b : UInt8) (l cur : List UInt8), (sp b cur l).flatten.length ≤ cur.length + l.length := by
        intro b l
        induction l with
        | nil => intro cur; simp [sp]
        | cons c r ih =>
          intro cur
          simp only [sp]
          split
          · have := ih []
            simp at this ⊢; omega
          · have := ih (cur ++ [c])
            simp at this ⊢; omega
      have hb := hls 47 s.data.toList []
      rw [hsp] at hb
      simp only [List.flatten_cons, List.flatten_nil, List.length_append, List.length_cons, List.length_nil, List.append_nil] at hb
      by_cases hc : c = 45
      · simp only [if_pos hc]
        have := raParse_neg s ⟨(c :: r).toArray⟩ ⟨y.toArray⟩ w hs (by omega) (by rw [hsp]) hX (by rw [hsz]; omega) (by simp [ByteArray.size]; omega) (by rw [h0, hc]; rfl)
        simpa using this
      · simp only [if_neg hc]
        have := raParse_pos s ⟨(c :: r).toArray⟩ ⟨y.toArray⟩ w hs (by omega) (by rw [hsp]) hX (by rw [hsz]; omega) (by simp [ByteArray.size]; omega) (by
          rw [h0]; intro e45
          exact hc (UInt8.toNat_inj.1 (by have : (45 : UInt8).toNat = 45 := rfl; omega)))
        simpa using this

theorem extract_size_le (s : ByteArray) (a b : Nat) : (s.extract a b).size ≤ s.size := by
  have h := congrArg List.length (Lib.extract_data s a b)
  have e : (s.extract a b).data.toList.length = (s.extract a b).size := by rw [Array.length_toList]; rfl
  have e' : s.data.toList.length = s.size := by simp
  rw [List.length_take, List.length_drop] at h
  omega
theorem iParseRat_any (s : ByteArray) (w : World) (hs : s.size ≤ 1048576) (ht : Pow10 w) :
    Calls Tryd.prog 10 #[.string s] w fun e w' => e = .returned (.tuple #[.agg #[.int .i64 (oN (specP s.data.toList)), .int .i64 (oD (specP s.data.toList))], .bool (specP s.data.toList).isSome]) ∧ Below w.heap.size w w' := by
  rw [← parse_agree]
  have hT : (cutT s).size ≤ s.size := by unfold cutT; split; exact extract_size_le _ _ _; exact Nat.le_refl _
  have hB : (cutB s).size ≤ s.size := by unfold cutB; split; exact extract_size_le _ _ _; exact Nat.zero_le _
  have hD : (Lib.trimPrefix (cutT s).data.toList [45]).length ≤ (cutT s).size := by
    have e' : (cutT s).data.toList.length = (cutT s).size := by simp
    unfold Lib.trimPrefix
    split
    · rw [List.length_drop]; omega
    · omega
  exact iParse_any s (cutT s) (cutB s) _ _ _ _ _ _ w ht hs rfl rfl rfl rfl rfl rfl rfl rfl (by omega) (by omega)
end Go.Proofs.YtmkejopkmdcfeabDoor

/-
  Chapter 1: the program's and the model's reading of a fraction's text agree. Plain lists and integers.
-/
import Derived.Test.YtmkejopkmdcfeabDoorParseI
namespace Go.Proofs.YtmkejopkmdcfeabDoor
open Go.RowKit Rm

theorem rr_append : ∀ (a b : List UInt8) (acc : Int), rr acc (a ++ b) = (rr acc a).bind fun x => rr x b := by
  intro a
  induction a with
  | nil => intro b acc; rfl
  | cons c r ih =>
    intro b acc
    simp only [List.cons_append, rr]
    split
    · exact ih _ _
    · rfl
theorem rd_append : ∀ (a b : List UInt8) (acc : Int), rd acc (a ++ b) = (rd acc a).bind fun x => rd x b := by
  intro a
  induction a with
  | nil => intro b acc; rfl
  | cons c r ih =>
    intro b acc
    simp only [List.cons_append, rd]
    split
    · split
      · exact ih _ _
      · rfl
    · rfl
theorem digit_nat (u : Nat) (h : u < 10) : ((UInt8.ofNat (48 + u)).toNat : Int) = 48 + u := by
  have : (UInt8.ofNat (48 + u)).toNat = 48 + u := by simp [UInt8.toNat_ofNat']; omega
  omega
theorem rr_dec (k : Nat) : ∀ u : Nat, u ≤ k → rr 0 (Lib.decDigits u) = some (u : Int) := by
  induction k with
  | zero =>
    intro u hu
    obtain rfl : u = 0 := by omega
    rw [Lib.decDigits, dif_pos (by omega)]
    simp [rr]
  | succ k ih =>
    intro u hu
    rw [Lib.decDigits]
    split
    · rename_i h
      have e := digit_nat u h
      simp only [rr, e]
      rw [if_pos (by omega)]
      congr 1; omega
    · rename_i h
      rw [rr_append, ih (u / 10) (by omega)]
      have e := digit_nat (u % 10) (by omega)
      simp only [Option.bind_some, rr, e]
      rw [if_pos (by omega)]
      congr 1; omega
theorem rd_dec (k : Nat) : ∀ u : Nat, u ≤ k → u ≤ 1000000000 → rd 0 (Lib.decDigits u) = some (u : Int) := by
  induction k with
  | zero =>
    intro u hu _
    obtain rfl : u = 0 := by omega
    rw [Lib.decDigits, dif_pos (by omega)]
    simp [rd]
  | succ k ih =>
    intro u hu hm
    rw [Lib.decDigits]
    split
    · rename_i h
      have e := digit_nat u h
      simp only [rd, e]
      rw [if_pos (by omega), if_pos (by omega)]
      congr 1; omega
    · rename_i h
      rw [rd_append, ih (u / 10) (by omega) (by omega)]
      have e := digit_nat (u % 10) (by omega)
      simp only [Option.bind_some, rd, e]
      rw [if_pos (by omega), if_pos (by omega)]
      congr 1; omega
/-- The digits of a number: no sign, no slash; at least one. -/
theorem dec_mem (k : Nat) : ∀ u : Nat, u ≤ k → ∀ c ∈ Lib.decDigits u, 48 ≤ (c.toNat : Int) ∧ (c.toNat : Int) ≤ 57 := by
  induction k with
  | zero =>
    intro u hu c hc
    rw [Lib.decDigits, dif_pos (by omega)] at hc
    simp only [List.mem_singleton] at hc
    subst hc
    have := digit_nat u (by omega); omega
  | succ k ih =>
    intro u hu c hc
    rw [Lib.decDigits] at hc
    split at hc
    · rename_i h
      simp only [List.mem_singleton] at hc
      subst hc
      have := digit_nat u h; omega
    · rename_i h
      rcases List.mem_append.1 hc with hc | hc
      · exact ih (u / 10) (by omega) c hc
      · simp only [List.mem_singleton] at hc
        subst hc
        have := digit_nat (u % 10) (by omega); omega
theorem dec_pos (u : Nat) : 1 ≤ (Lib.decDigits u).length := by
  rw [Lib.decDigits]; split <;> simp
/-- A number that is not 0 has no leading 0. -/
theorem dec_head (k : Nat) : ∀ u : Nat, u ≤ k → 1 ≤ u → (Lib.decDigits u).head? ≠ some 48 := by
  induction k with
  | zero => intro u hu h1; omega
  | succ k ih =>
    intro u hu h1
    rw [Lib.decDigits]
    split
    · rename_i h
      intro e
      have e' : UInt8.ofNat (48 + u) = 48 := by simpa using e
      have := digit_nat u h
      rw [e'] at this
      have h48 : ((48 : UInt8).toNat : Int) = 48 := rfl
      omega
    · rename_i h
      have := ih (u / 10) (by omega) (by omega)
      have hp := dec_pos (u / 10)
      cases hd : Lib.decDigits (u / 10) with
      | nil => rw [hd] at hp; simp at hp
      | cons c r => rw [hd] at this; simpa using this
theorem rrN_dec (u : Nat) (h : u ≤ 1000000000) : rrN (Lib.decDigits u) = u := by
  unfold rrN
  have h1 := dec_pos u
  have h2 := decDigits_length 9 u (by omega)
  have hn : ¬ ((Lib.decDigits u).head? = some 48 ∧ 1 < (Lib.decDigits u).length) := by
    rintro ⟨e1, e2⟩
    rcases Nat.eq_zero_or_pos u with h0 | h0
    · subst h0
      rw [Lib.decDigits, dif_pos (by omega)] at e2
      simp at e2
    · exact dec_head u u (Nat.le_refl _) h0 e1
  rw [if_pos ⟨⟨h1, by omega⟩, hn⟩, rr_dec u u (Nat.le_refl _)]
  rfl
theorem rd_decN (u : Nat) (h : u ≤ 1000000000) : rdN (Lib.decDigits u) = u ∧ rdOk (Lib.decDigits u) = true := by
  unfold rdN rdOk
  rw [rd_dec u u (Nat.le_refl _) h]
  exact ⟨rfl, rfl⟩
theorem sp_none (b : UInt8) : ∀ (l cur : List UInt8), (∀ c ∈ l, c ≠ b) → sp b cur l = [cur ++ l] := by
  intro l
  induction l with
  | nil => intro cur _; simp [sp]
  | cons c r ih =>
    intro cur h
    rw [sp, if_neg (h c (by simp)), ih _ (fun x hx => h x (by simp [hx]))]
    simp
theorem sp_one (b : UInt8) (y : List UInt8) (hy : ∀ c ∈ y, c ≠ b) : ∀ (x cur : List UInt8), (∀ c ∈ x, c ≠ b) → sp b cur (x ++ b :: y) = [cur ++ x, y] := by
  intro x
  induction x with
  | nil => intro cur _; simp [sp, sp_none b y [] hy]
  | cons c r ih =>
    intro cur h
    rw [List.cons_append, sp, if_neg (h c (by simp)), ih _ (fun z hz => h z (by simp [hz]))]
    simp
theorem indexByte_one (b : UInt8) (y : List UInt8) : ∀ (x : List UInt8), (∀ c ∈ x, c ≠ b) → Lib.indexByte (x ++ b :: y) b = x.length := by
  intro x
  induction x with
  | nil => intro _; simp [Lib.indexByte]
  | cons c r ih =>
    intro h
    have hc : (c == b) = false := by simpa using h c (by simp)
    have e := ih (fun z hz => h z (by simp [hz]))
    have e2 : ((r.length : Int) == -1) = false := beq_eq_false_iff_ne.2 (by omega)
    simp only [List.cons_append, Lib.indexByte, hc, e, e2]
    simp
theorem no_slash {c : UInt8} (h : 48 ≤ (c.toNat : Int) ∧ (c.toNat : Int) ≤ 57) : c ≠ 47 ∧ c ≠ 45 := by
  constructor <;> (rintro rfl; have : ((47 : UInt8).toNat : Int) = 47 := rfl; have : ((45 : UInt8).toNat : Int) = 45 := rfl; omega)
theorem itoa_slash (n : Int) : ∀ c ∈ Lib.itoa n, c ≠ 47 := by
  intro c hc
  unfold Lib.itoa at hc
  split at hc
  · rcases List.mem_cons.1 hc with rfl | hc
    · decide
    · exact (no_slash (dec_mem _ _ (Nat.le_refl _) c hc)).1
  · exact (no_slash (dec_mem _ _ (Nat.le_refl _) c hc)).1
/-- What the text of a valid fraction is made of. -/
theorem spec_reads {n d : Int} (h : good n d = true) : specP (ratTxt n d) = some (n, d) := by
  obtain ⟨b1, b2, a1, a2, g1⟩ := good_iff.1 h
  have hd : Lib.itoa d = Lib.decDigits d.toNat := itoa_nonneg (by omega)
  have hl : (ratTxt n d).length ≤ 22 := by
    unfold ratTxt
    rw [hd]
    have h2 := decDigits_length 9 d.toNat (by omega)
    have h3 : (Lib.itoa n).length ≤ 11 := by
      unfold Lib.itoa
      split
      · have := decDigits_length 9 n.natAbs (by omega)
        simp; omega
      · have := decDigits_length 9 n.toNat (by omega)
        omega
    simp; omega
  unfold specP
  rw [if_neg (by omega)]
  have hsp : sp 47 [] (ratTxt n d) = [Lib.itoa n, Lib.itoa d] := by
    unfold ratTxt
    rw [sp_one 47 _ (itoa_slash d) _ [] (itoa_slash n)]; simp
  rw [hsp]
  have hrd : rrN (Lib.itoa d) = d := by rw [hd, rrN_dec _ (by omega)]; omega
  by_cases hn : n < 0
  · have e : Lib.itoa n = 45 :: Lib.decDigits n.natAbs := by unfold Lib.itoa; rw [if_pos hn]
    rw [e]
    simp only [if_true]
    rw [hrd, rrN_dec _ (by omega), show -((n.natAbs : Nat) : Int) = n by omega]
    exact fin_yes h rfl
  · have e : Lib.itoa n = Lib.decDigits n.toNat := itoa_nonneg (by omega)
    have hp := dec_pos n.toNat
    have hm := dec_mem n.toNat n.toNat (Nat.le_refl _)
    have hr := rrN_dec n.toNat (by omega)
    rw [e]
    cases hdd : Lib.decDigits n.toNat with
    | nil => rw [hdd] at hp; simp at hp
    | cons c r =>
      have hc := (no_slash (hm c (by rw [hdd]; simp))).2
      simp only [if_neg hc]
      rw [← hdd, hrd, hr, show ((n.toNat : Nat) : Int) = n by omega]
      exact fin_yes h rfl
theorem impl_reads {n d : Int} (h : good n d = true) (s : ByteArray) (hs : s.data.toList = ratTxt n d) : implP s = some (n, d) := by
  obtain ⟨b1, b2, a1, a2, g1⟩ := good_iff.1 h
  have hd : Lib.itoa d = Lib.decDigits d.toNat := itoa_nonneg (by omega)
  have hi : Lib.indexByte s.data.toList 47 = (Lib.itoa n).length := by rw [hs]; exact indexByte_one 47 _ _ (itoa_slash n)
  have hT : (cutT s).data.toList = Lib.itoa n := by
    unfold cutT
    rw [hi, if_pos (by omega), Lib.extract_data, hs]
    unfold ratTxt
    simp
  have hB : (cutB s).data.toList = Lib.itoa d := by
    unfold cutB
    rw [hi, if_pos (by omega), Lib.extract_to_end, hs]
    unfold ratTxt
    rw [show ((((Lib.itoa n).length : Nat) : Int).toNat + 1) = (Lib.itoa n).length + 1 by omega]
    simp [List.drop_append]
  have hrd := rd_decN d.toNat (by omega)
  rw [← hd] at hrd
  unfold implP
  rw [hT, hB, hrd.1, hrd.2, hs, show ((d.toNat : Nat) : Int) = d by omega]
  by_cases hn : n < 0
  · have e : Lib.itoa n = 45 :: Lib.decDigits n.natAbs := by unfold Lib.itoa; rw [if_pos hn]
    have hp : Lib.hasPrefix (Lib.itoa n) [45] = true := by rw [e]; simp [Lib.hasPrefix, List.isPrefixOf]
    have ht : Lib.trimPrefix (Lib.itoa n) [45] = Lib.decDigits n.natAbs := by unfold Lib.trimPrefix; rw [hp, e]; simp
    have hr := rd_decN n.natAbs (by omega)
    rw [ht, hp, hr.1, hr.2, show ((n.natAbs : Nat) : Int) = -n by omega]
    simp only [if_true, Int.neg_neg]
    exact fin_yes h rfl
  · have e : Lib.itoa n = Lib.decDigits n.toNat := itoa_nonneg (by omega)
    have hpos := dec_pos n.toNat
    have hm := dec_mem n.toNat n.toNat (Nat.le_refl _)
    have hr := rd_decN n.toNat (by omega)
    have hp : Lib.hasPrefix (Lib.itoa n) [45] = false := by
      rw [e]
      cases hdd : Lib.decDigits n.toNat with
      | nil => rw [hdd] at hpos; simp at hpos
      | cons c r =>
        have hc := (no_slash (hm c (by rw [hdd]; simp))).2
        simp [Lib.hasPrefix, List.isPrefixOf, Ne.symm hc]
    have ht : Lib.trimPrefix (Lib.itoa n) [45] = Lib.decDigits n.toNat := by unfold Lib.trimPrefix; rw [hp, e]; simp
    rw [ht, hp, hr.1, hr.2, show ((n.toNat : Nat) : Int) = n by omega]
    simp only [if_true, Bool.false_eq_true, if_false]
    exact fin_yes h rfl
theorem fin_some {l : List UInt8} {n d : Int} {p : Int × Int} (h : fin l n d = some p) : good p.1 p.2 = true ∧ ratTxt p.1 p.2 = l := by
  unfold fin at h
  split at h
  · rename_i hh
    cases h
    exact hh
  · cases h
theorem spec_some {l : List UInt8} {p : Int × Int} (h : specP l = some p) : good p.1 p.2 = true ∧ ratTxt p.1 p.2 = l := by
  unfold specP at h
  split at h
  · cases h
  · split at h
    · split at h
      · cases h
      · split at h
        · exact fin_some h
        · exact fin_some h
    · cases h
theorem impl_some {s : ByteArray} {p : Int × Int} (h : implP s = some p) : good p.1 p.2 = true ∧ ratTxt p.1 p.2 = s.data.toList := by
  unfold implP at h
  split at h
  · split at h
    · exact fin_some h
    · cases h
  · cases h
/-- The two readings agree. -/
theorem parse_agree (s : ByteArray) : implP s = specP s.data.toList := by
  cases hi : implP s with
  | some p =>
    obtain ⟨h1, h2⟩ := impl_some hi
    rw [← h2]; exact (spec_reads h1).symm
  | none =>
    cases hs : specP s.data.toList with
    | none => rfl
    | some p =>
      obtain ⟨h1, h2⟩ := spec_some hs
      rw [impl_reads h1 s h2.symm] at hi
      cases hi
end Go.Proofs.YtmkejopkmdcfeabDoor

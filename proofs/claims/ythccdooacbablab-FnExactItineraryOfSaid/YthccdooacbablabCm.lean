/-
  Chapter 5: places in order, points with values at places, the points that are kept: over rational numbers. No Go here.
-/
import Derived.Test.YthccdooacbablabFm
import Derived.Test.YthccdooacbablabOm
namespace Go.Proofs.Ythccdooacbablab.Rm
/-- Strictly increasing. -/
def Inc (l : List Rat) : Prop := l.Pairwise (· < ·)
theorem inc_ext : ∀ {l m : List Rat}, Inc l → Inc m → (∀ x, x ∈ l ↔ x ∈ m) → l = m
  | [], [], _, _, _ => rfl
  | [], y :: m, _, _, h => absurd ((h y).2 (by simp)) (by simp)
  | x :: l, [], _, _, h => absurd ((h x).1 (by simp)) (by simp)
  | x :: l, y :: m, hl, hm, h => by
    obtain ⟨hx, hl'⟩ := List.pairwise_cons.1 hl
    obtain ⟨hy, hm'⟩ := List.pairwise_cons.1 hm
    have e : x = y := by
      rcases List.mem_cons.1 ((h x).1 (by simp)) with h1 | h1
      · exact h1
      · rcases List.mem_cons.1 ((h y).2 (by simp)) with h2 | h2
        · exact h2.symm
        · have a := hy _ h1; have b := hx _ h2; exact absurd a (by grind)
    subst e
    refine congrArg (x :: ·) (inc_ext hl' hm' fun z => ⟨fun hz => ?_, fun hz => ?_⟩)
    · rcases List.mem_cons.1 ((h z).1 (by simp [hz])) with h1 | h1
      · have := hx _ hz; rw [h1] at this; exact absurd this Rat.lt_irrefl
      · exact h1
    · rcases List.mem_cons.1 ((h z).2 (by simp [hz])) with h1 | h1
      · have := hy _ hz; rw [h1] at this; exact absurd this Rat.lt_irrefl
      · exact h1
theorem putL_iff {x z : Rat} : ∀ {l : List Rat}, z ∈ putL l x ↔ z ∈ l ∨ z = x
  | [] => by simp [putL]
  | y :: l => by
    simp only [putL]
    split
    · simp only [List.mem_cons, putL_iff (l := l), or_assoc]
    · split
      · rename_i h; subst h; simp only [List.mem_cons]; grind
      · simp only [List.mem_cons]; grind
theorem putL_inc {x : Rat} : ∀ {l : List Rat}, Inc l → Inc (putL l x)
  | [], _ => by simp [putL, Inc]
  | y :: l, h => by
    obtain ⟨hy, hl⟩ := List.pairwise_cons.1 h
    simp only [putL]
    split
    · rename_i hlt
      refine List.pairwise_cons.2 ⟨fun z hz => ?_, putL_inc hl⟩
      rcases putL_iff.1 hz with h1 | h1
      · exact hy z h1
      · rw [h1]; exact hlt
    · split
      · exact h
      · rename_i h1 h2
        have hxy : x < y := by grind
        refine List.pairwise_cons.2 ⟨fun z hz => ?_, h⟩
        rcases List.mem_cons.1 hz with h3 | h3
        · rw [h3]; exact hxy
        · have := hy z h3; grind
theorem fput_mem {z : Rat} : ∀ {xs l : List Rat}, z ∈ xs.foldl putL l ↔ z ∈ l ∨ z ∈ xs
  | [], l => by simp
  | x :: xs, l => by simp only [List.foldl_cons, fput_mem (xs := xs), putL_iff, List.mem_cons, or_assoc]
theorem fput_inc : ∀ {xs l : List Rat}, Inc l → Inc (xs.foldl putL l)
  | [], _, h => h
  | x :: xs, l, h => by simp only [List.foldl_cons]; exact fput_inc (xs := xs) (putL_inc h)
/-- The increasing list of what a list has. -/
def srt (xs : List Rat) : List Rat := xs.foldl putL []
theorem srt_inc (xs : List Rat) : Inc (srt xs) := fput_inc (by simp [Inc])
theorem srt_mem {z : Rat} {xs : List Rat} : z ∈ srt xs ↔ z ∈ xs := by simp [srt, fput_mem]
theorem srt_uniq {l xs : List Rat} (h : Inc l) (hm : ∀ x, x ∈ l ↔ x ∈ xs) : l = srt xs := inc_ext h (srt_inc xs) fun x => (hm x).trans srt_mem.symm
theorem fput_srt {l xs : List Rat} (h : Inc l) : xs.foldl putL l = srt (l ++ xs) := srt_uniq (fput_inc h) fun x => by rw [fput_mem, List.mem_append]
theorem srt_self {l : List Rat} (h : Inc l) : srt l = l := (srt_uniq h fun _ => Iff.rfl).symm
theorem srt_congr {l m : List Rat} (h : ∀ x, x ∈ l ↔ x ∈ m) : srt l = srt m := srt_uniq (srt_inc l) fun x => srt_mem.trans (h x)
theorem putL_len1 (l : List Rat) (x : Rat) : (putL l x).length ≤ l.length + 1 := by
  induction l with
  | nil => simp [putL]
  | cons y l ih => simp only [putL]; split; simp; exact ih; split <;> simp
theorem fput_len : ∀ (xs l : List Rat), (xs.foldl putL l).length ≤ l.length + xs.length
  | [], l => by simp
  | x :: xs, l => by have h1 := fput_len xs (putL l x); have h2 := putL_len1 l x; simp only [List.foldl_cons, List.length_cons]; omega
theorem srt_len (xs : List Rat) : (srt xs).length ≤ xs.length := by have := fput_len xs []; simpa [srt] using this

/-- Without what equals its left neighbour: of the first k. -/
def cpK (l : List Rat) : Nat → List Rat
  | 0 => []
  | k + 1 => if k = 0 ∨ l.getD k 0 ≠ l.getD (k - 1) 0 then cpK l k ++ [l.getD k 0] else cpK l k
theorem cpK_yes {l : List Rat} {k : Nat} (h : k = 0 ∨ l.getD k 0 ≠ l.getD (k - 1) 0) : cpK l (k + 1) = cpK l k ++ [l.getD k 0] := by simp only [cpK]; rw [if_pos h]
theorem cpK_no {l : List Rat} {k : Nat} (h0 : k ≠ 0) (h : l.getD k 0 = l.getD (k - 1) 0) : cpK l (k + 1) = cpK l k := by
  simp only [cpK]; rw [if_neg]; rintro (h1 | h1); exact h0 h1; exact h1 h
theorem cpK_len (l : List Rat) : ∀ k, (cpK l k).length ≤ k
  | 0 => by simp [cpK]
  | k + 1 => by have := cpK_len l k; simp only [cpK]; split <;> simp <;> omega
theorem cpK_pos (l : List Rat) : ∀ k, 0 < k → 0 < (cpK l k).length
  | 0, h => absurd h (by omega)
  | k + 1, _ => by
    by_cases h : k = 0 ∨ l.getD k 0 ≠ l.getD (k - 1) 0
    · rw [cpK_yes h]; simp
    · have hk : k ≠ 0 := fun e => h (.inl e)
      rw [cpK_no hk (by by_cases e : l.getD k 0 = l.getD (k - 1) 0; exact e; exact absurd (.inr e) h)]; exact cpK_pos l k (by omega)
theorem cpK_mem (l : List Rat) (z : Rat) : ∀ k, z ∈ cpK l k ↔ ∃ i, i < k ∧ l.getD i 0 = z
  | 0 => by simp [cpK]
  | k + 1 => by
    have ih := cpK_mem l z k
    by_cases h : k = 0 ∨ l.getD k 0 ≠ l.getD (k - 1) 0
    · rw [cpK_yes h, List.mem_append, ih]
      constructor
      · rintro (⟨i, hi, e⟩ | e)
        · exact ⟨i, by omega, e⟩
        · exact ⟨k, by omega, (List.mem_singleton.1 e).symm⟩
      · rintro ⟨i, hi, e⟩
        by_cases hik : i = k
        · subst hik; right; rw [← e]; simp
        · left; exact ⟨i, by omega, e⟩
    · have hk : k ≠ 0 := fun e => h (.inl e)
      have he : l.getD k 0 = l.getD (k - 1) 0 := by by_cases e : l.getD k 0 = l.getD (k - 1) 0; exact e; exact absurd (.inr e) h
      rw [cpK_no hk he, ih]
      constructor
      · rintro ⟨i, hi, e⟩; exact ⟨i, by omega, e⟩
      · rintro ⟨i, hi, e⟩
        by_cases hik : i = k
        · subst hik; exact ⟨i - 1, by omega, by rw [← e, he]⟩
        · exact ⟨i, by omega, e⟩
theorem cpK_inc {l : List Rat} (hs : ∀ i, i + 1 < l.length → l.getD i 0 ≤ l.getD (i + 1) 0) : ∀ k, k ≤ l.length → Inc (cpK l k) ∧ ∀ z ∈ cpK l k, ∀ j, k ≤ j + 1 → j < l.length → z ≤ l.getD j 0
  | 0, _ => by simp [cpK, Inc]
  | k + 1, hk => by
    obtain ⟨h1, h2⟩ := cpK_inc hs k (by omega)
    have hup : ∀ j, k ≤ j → j < l.length → l.getD k 0 ≤ l.getD j 0 := by
      intro j
      induction j with
      | zero => intro a b; obtain rfl : k = 0 := by omega
                exact Rat.le_refl
      | succ j ih =>
        intro a b
        by_cases e : k = j + 1
        · rw [e]; exact Rat.le_refl
        · exact Rat.le_trans (ih (by omega) (by omega)) (hs j b)
    by_cases h : k = 0 ∨ l.getD k 0 ≠ l.getD (k - 1) 0
    · rw [cpK_yes h]
      refine ⟨List.pairwise_append.2 ⟨h1, by simp, fun a ha b hb => ?_⟩, fun z hz j hj hl => ?_⟩
      · rw [List.mem_singleton.1 hb]
        rcases h with h | h
        · subst h; simp [cpK] at ha
        · have hk0 : k ≠ 0 := by rintro rfl; exact h rfl
          have e1 := h2 a ha (k - 1) (by omega) (by omega)
          have e2 := hs (k - 1) (by omega)
          rw [show k - 1 + 1 = k by omega] at e2
          grind
      · rcases List.mem_append.1 hz with hz | hz
        · exact h2 z hz j (by omega) hl
        · rw [List.mem_singleton.1 hz]; exact hup j (by omega) hl
    · have hk0 : k ≠ 0 := fun e => h (.inl e)
      have he : l.getD k 0 = l.getD (k - 1) 0 := by by_cases e : l.getD k 0 = l.getD (k - 1) 0; exact e; exact absurd (.inr e) h
      rw [cpK_no hk0 he]
      exact ⟨h1, fun z hz j hj hl => h2 z hz j (by omega) hl⟩
theorem mem_iff_getD {l : List Rat} {z : Rat} : z ∈ l ↔ ∃ i, i < l.length ∧ l.getD i 0 = z := by
  rw [List.mem_iff_getElem]
  constructor
  · rintro ⟨i, hi, e⟩; exact ⟨i, hi, by rw [← e, List.getD_eq_getElem?_getD, List.getElem?_eq_getElem hi]; rfl⟩
  · rintro ⟨i, hi, e⟩; exact ⟨i, hi, by rw [← e, List.getD_eq_getElem?_getD, List.getElem?_eq_getElem hi]; rfl⟩
/-- Sorting and leaving out equals gives the increasing list. -/
theorem cp_srt {l xs : List Rat} (hs : ∀ i, i + 1 < l.length → l.getD i 0 ≤ l.getD (i + 1) 0) (hp : l.Perm xs) : cpK l l.length = srt xs :=
  srt_uniq (cpK_inc hs l.length (Nat.le_refl _)).1 fun x => by rw [cpK_mem, ← mem_iff_getD]; exact hp.mem_iff
theorem cpK_take {l : List Rat} : ∀ k, k ≤ l.length → (∀ i, i + 1 < k → l.getD (i + 1) 0 ≠ l.getD i 0) → cpK l k = l.take k
  | 0, _, _ => by simp [cpK]
  | k + 1, hk, h => by
    rw [cpK_yes ?_, cpK_take k (by omega) (fun i hi => h i (by omega)), List.take_add_one, List.getElem?_eq_getElem (by omega), List.getD_eq_getElem?_getD, List.getElem?_eq_getElem (by omega)]
    · rfl
    · by_cases h0 : k = 0
      · exact .inl h0
      · right; have := h (k - 1) (by omega); rwa [show k - 1 + 1 = k by omega] at this

/-! ### Points at places -/
def coD (r : Rat) : Bool := coB (qf r)
theorem qf_inj {a b : Rat} (h : qf a = qf b) : a = b := eq_parts.1 ⟨congrArg Prod.fst h, congrArg Prod.snd h⟩
theorem coD_iff {r : Rat} : coD r = true ↔ co r := by
  constructor
  · intro h
    obtain ⟨s, e, hc⟩ := coB_rat h
    rw [qf_inj e]; exact hc
  · exact coB_qf
section
variable (xs : List Rat) (vm : Rat → Option Rat)
/-- The points with the values at the first k places, if there are all. -/
def vK : Nat → Option (List QP)
  | 0 => some []
  | k + 1 => (vK k).bind fun l => (vm (xs.getD k 0)).map fun y => l ++ [(xs.getD k 0, y)]
/-- .. if their coordinates are those of maps. -/
def pK : Nat → Option (List QP)
  | 0 => some []
  | k + 1 => (pK k).bind fun l => (vm (xs.getD k 0)).bind fun y => if coD (xs.getD k 0) && coD y then some (l ++ [(xs.getD k 0, y)]) else none
def coA (l : List QP) : Bool := l.all fun p => coD p.1 && coD p.2
variable {xs vm}
theorem pK_vK : ∀ k, pK xs vm k = (vK xs vm k).bind fun l => if coA l then some l else none
  | 0 => by simp [pK, vK, coA]
  | k + 1 => by
    simp only [pK, vK, pK_vK k]
    cases vK xs vm k with
    | none => rfl
    | some l =>
      cases hv : vm (xs.getD k 0) with
      | none => simp only [Option.bind_some, Option.map_none]; split <;> simp
      | some y =>
        simp only [Option.bind_some, Option.map_some, coA, List.all_append, List.all_cons, List.all_nil, Bool.and_true]
        by_cases hc : (l.all fun p => coD p.1 && coD p.2) = true
        · simp [hc]
        · rw [Bool.not_eq_true] at hc; simp [hc]
theorem pK_none {j k : Nat} (h : pK xs vm k = none) : ∀ d, j = k + d → pK xs vm j = none
  | 0, e => by subst e; exact h
  | d + 1, e => by subst e; show pK xs vm (k + d + 1) = none; simp only [pK, pK_none h d rfl, Option.bind_none]
theorem vK_none {j k : Nat} (h : vK xs vm k = none) : ∀ d, j = k + d → vK xs vm j = none
  | 0, e => by subst e; exact h
  | d + 1, e => by subst e; show vK xs vm (k + d + 1) = none; simp only [vK, vK_none h d rfl, Option.bind_none]
theorem vK_some : ∀ {k : Nat} {l : List QP}, vK xs vm k = some l → l.length = k ∧ ∀ i, i < k → (qAt l i).1 = xs.getD i 0 ∧ vm (xs.getD i 0) = some (qAt l i).2
  | 0, l, h => by simp only [vK, Option.some.injEq] at h; subst h; simp
  | k + 1, l, h => by
    simp only [vK] at h
    cases hk : vK xs vm k with
    | none => rw [hk] at h; cases h
    | some m =>
      rw [hk] at h
      cases hv : vm (xs.getD k 0) with
      | none => rw [hv] at h; cases h
      | some y =>
        rw [hv] at h
        simp only [Option.bind_some, Option.map_some, Option.some.injEq] at h
        subst h
        obtain ⟨h1, h2⟩ := vK_some hk
        refine ⟨by simp [h1], fun i hi => ?_⟩
        by_cases hik : i = k
        · subst hik
          have e : qAt (m ++ [(xs.getD i 0, y)]) i = (xs.getD i 0, y) := by
            unfold qAt; rw [List.getD_eq_getElem?_getD, List.getElem?_append_right (by omega), h1]; simp
          rw [e]; exact ⟨rfl, hv⟩
        · have e : qAt (m ++ [(xs.getD k 0, y)]) i = qAt m i := by
            unfold qAt; simp [List.getD_eq_getElem?_getD, List.getElem?_append_left (show i < m.length by omega)]
          rw [e]; exact h2 i (by omega)
theorem vK_congr {vm' : Rat → Option Rat} : ∀ k, (∀ i, i < k → vm (xs.getD i 0) = vm' (xs.getD i 0)) → vK xs vm k = vK xs vm' k
  | 0, _ => rfl
  | k + 1, h => by simp only [vK]; rw [vK_congr k fun i hi => h i (by omega), h k (by omega)]
end

/-- Points in order with coordinates of maps, of any number within reason. -/
structure SMap (qs : List QP) : Prop where
  lo : 2 ≤ qs.length
  hi : qs.length ≤ 1000
  cx : ∀ i, i < qs.length → co (qAt qs i).1
  cy : ∀ i, i < qs.length → co (qAt qs i).2
  inc : ∀ i, i + 1 < qs.length → (qAt qs i).1 < (qAt qs (i + 1)).1
theorem GMap.s {qs : List QP} (h : GMap qs) : SMap qs := ⟨h.lo, by have := h.hi; omega, h.cx, h.cy, h.inc⟩
theorem inc_mono {qs : List QP} (h : ∀ i, i + 1 < qs.length → (qAt qs i).1 < (qAt qs (i + 1)).1) {i : Nat} : ∀ {j : Nat}, i < j → j < qs.length → (qAt qs i).1 < (qAt qs j).1
  | 0, hij, _ => by omega
  | j + 1, hij, hj => by
    have h1 := h j hj
    rcases Nat.lt_or_eq_of_le (Nat.le_of_lt_succ hij) with hlt | rfl
    · have := inc_mono h hlt (by omega)
      grind
    · exact h1
/-- Is point i kept? -/
def keepB (qs : List QP) (n i : Nat) : Bool := decide (i = 0) || (decide (i + 1 = n) || decide (slopeR (qAt qs (i - 1)) (qAt qs i) ≠ slopeR (qAt qs i) (qAt qs (i + 1))))
def simK (qs : List QP) (n : Nat) : Nat → List QP
  | 0 => []
  | k + 1 => simK qs n k ++ (if keepB qs n k then [qAt qs k] else [])
theorem simK_len (qs : List QP) (n : Nat) : ∀ k, (simK qs n k).length ≤ k
  | 0 => by simp [simK]
  | k + 1 => by
    have := simK_len qs n k
    simp only [simK, List.length_append]
    split <;> simp <;> omega
theorem qAt_elem {qs : List QP} {i : Nat} (h : i < qs.length) : qAt qs i = qs[i] := by unfold qAt; rw [List.getD_eq_getElem?_getD, List.getElem?_eq_getElem h]; rfl
theorem take_snocQ {qs : List QP} {k : Nat} (h : k < qs.length) : qs.take (k + 1) = qs.take k ++ [qAt qs k] := by
  rw [List.take_add_one, List.getElem?_eq_getElem h, qAt_elem h]; rfl
theorem simK_sub (qs : List QP) (n : Nat) : ∀ k, k ≤ qs.length → (simK qs n k).Sublist (qs.take k)
  | 0, _ => by simp [simK]
  | k + 1, h => by
    rw [take_snocQ (by omega)]
    simp only [simK]
    exact (simK_sub qs n k (by omega)).append (by split <;> simp)
theorem simK_head (qs : List QP) (n : Nat) : ∀ k, ∃ t, simK qs n (k + 1) = qAt qs 0 :: t
  | 0 => ⟨[], by simp [simK, keepB]⟩
  | k + 1 => by
    obtain ⟨t, e⟩ := simK_head qs n k
    refine ⟨t ++ (if keepB qs n (k + 1) then [qAt qs (k + 1)] else []), ?_⟩
    rw [show simK qs n (k + 1 + 1) = simK qs n (k + 1) ++ (if keepB qs n (k + 1) then [qAt qs (k + 1)] else []) from rfl, e]; rfl
theorem simK_last (qs : List QP) (k : Nat) : simK qs (k + 1) (k + 1) = simK qs (k + 1) k ++ [qAt qs k] := by
  simp [simK, keepB]
theorem pair_inc {qs : List QP} : qs.Pairwise (fun p q => p.1 < q.1) ↔ ∀ i, i + 1 < qs.length → (qAt qs i).1 < (qAt qs (i + 1)).1 := by
  constructor
  · intro h i hi
    rw [qAt_elem (by omega), qAt_elem hi]
    exact List.pairwise_iff_getElem.1 h i (i + 1) (by omega) hi (by omega)
  · intro h
    refine List.pairwise_iff_getElem.2 fun i j hi hj hij => ?_
    rw [← qAt_elem hi, ← qAt_elem hj]
    exact inc_mono h hij hj
/-- The kept points are a map, but for their number. -/
theorem simK_map {qs : List QP} (h : SMap qs) (h0 : (qAt qs 0).1 = 0) (h1 : (qAt qs (qs.length - 1)).1 = 1) (hl : (simK qs qs.length qs.length).length ≤ 12) : GMap (simK qs qs.length qs.length) := by
  have hlo := h.lo
  have hsub := simK_sub qs qs.length qs.length (Nat.le_refl _)
  rw [List.take_length] at hsub
  obtain ⟨m, hm⟩ : ∃ m, qs.length = m + 1 + 1 := ⟨qs.length - 2, by omega⟩
  have hlast := simK_last qs (m + 1)
  obtain ⟨t, ht⟩ := simK_head qs (m + 1 + 1) m
  rw [hm] at hsub hl ⊢
  have hall : ∀ i, i < (simK qs (m + 1 + 1) (m + 1 + 1)).length → co (qAt (simK qs (m + 1 + 1) (m + 1 + 1)) i).1 ∧ co (qAt (simK qs (m + 1 + 1) (m + 1 + 1)) i).2 := by
    intro i hi
    rw [qAt_elem hi]
    have := hsub.subset (List.getElem_mem hi)
    obtain ⟨j, hj, e⟩ := List.mem_iff_getElem.1 this
    rw [← e, ← qAt_elem hj]
    exact ⟨h.cx j hj, h.cy j hj⟩
  refine ⟨?_, hl, fun i hi => (hall i hi).1, fun i hi => (hall i hi).2, pair_inc.1 ((pair_inc.2 h.inc).sublist hsub), ?_, ?_⟩
  · rw [hlast, ht]; simp
  · rw [hlast, ht]
    show (qAt qs 0).1 = 0
    exact h0
  · rw [hlast, List.length_append, List.length_singleton, Nat.add_sub_cancel]
    have e : qAt (simK qs (m + 1 + 1) (m + 1) ++ [qAt qs (m + 1)]) (simK qs (m + 1 + 1) (m + 1)).length = qAt qs (m + 1) := by
      unfold qAt; rw [List.getD_eq_getElem?_getD, List.getElem?_append_right (Nat.le_refl _)]; simp
    rw [e]
    rw [hm] at h1
    exact h1
theorem simK_mapB {qs : List QP} (h : SMap qs) (h0 : (qAt qs 0).1 = 0) (h1 : (qAt qs (qs.length - 1)).1 = 1) : mapB ((simK qs qs.length qs.length).map qp) = decide ((simK qs qs.length qs.length).length ≤ 12) := by
  by_cases hl : (simK qs qs.length qs.length).length ≤ 12
  · rw [(simK_map h h0 h1 hl).mapB, decide_eq_true hl]
  · rw [decide_eq_false hl]
    exact mapB_len (by rw [List.length_map]; omega)

/-- Places of a map: in order, from 0 to 1. -/
structure Pl (xs : List Rat) : Prop where
  inc : Inc xs
  un : ∀ x ∈ xs, Un x
  zero : 0 ∈ xs
  one : 1 ∈ xs
theorem inc_get {xs : List Rat} (h : Inc xs) {i j : Nat} (hij : i < j) (hj : j < xs.length) : xs.getD i 0 < xs.getD j 0 := by
  rw [List.getD_eq_getElem?_getD, List.getD_eq_getElem?_getD, List.getElem?_eq_getElem (by omega), List.getElem?_eq_getElem hj]
  exact List.pairwise_iff_getElem.1 h i j (by omega) hj hij
theorem Pl.len {xs : List Rat} (h : Pl xs) : 2 ≤ xs.length := by
  obtain ⟨i, hi, e⟩ := mem_iff_getD.1 h.zero
  obtain ⟨j, hj, e'⟩ := mem_iff_getD.1 h.one
  by_cases hij : i = j
  · subst hij; rw [e] at e'; exact absurd e' (by decide +kernel)
  · omega
theorem Pl.first {xs : List Rat} (h : Pl xs) : xs.getD 0 0 = 0 := by
  obtain ⟨i, hi, e⟩ := mem_iff_getD.1 h.zero
  rcases Nat.eq_zero_or_pos i with rfl | hp
  · exact e
  · have h1 := inc_get h.inc hp hi
    have h2 := (h.un _ (mem_iff_getD.2 ⟨0, by omega, rfl⟩)).lo
    rw [e] at h1; grind
theorem Pl.last {xs : List Rat} (h : Pl xs) : xs.getD (xs.length - 1) 0 = 1 := by
  obtain ⟨i, hi, e⟩ := mem_iff_getD.1 h.one
  by_cases hp : i = xs.length - 1
  · rw [← hp]; exact e
  · have h1 := inc_get h.inc (show i < xs.length - 1 by omega) (by omega)
    have h2 := (h.un _ (mem_iff_getD.2 ⟨xs.length - 1, by omega, rfl⟩)).hi
    rw [e] at h1; grind
theorem Pl.points {xs : List Rat} {vm : Rat → Option Rat} {l : List QP} (h : Pl xs) (hn : xs.length ≤ 1000) (hv : vK xs vm xs.length = some l) (hc : coA l = true) : SMap l ∧ (qAt l 0).1 = 0 ∧ (qAt l (l.length - 1)).1 = 1 := by
  obtain ⟨h1, h2⟩ := vK_some hv
  have hlen := h.len
  have hco : ∀ i, i < l.length → coD (qAt l i).1 = true ∧ coD (qAt l i).2 = true := by
    intro i hi
    have := List.all_eq_true.1 hc _ (List.getElem_mem hi)
    rw [← qAt_elem hi] at this
    simpa using this
  refine ⟨⟨by omega, by omega, fun i hi => coD_iff.1 (hco i hi).1, fun i hi => coD_iff.1 (hco i hi).2, fun i hi => ?_⟩, ?_, ?_⟩
  · rw [(h2 i (by omega)).1, (h2 (i + 1) (by omega)).1]; exact inc_get h.inc (by omega) (by omega)
  · rw [(h2 0 (by omega)).1]; exact h.first
  · rw [h1, (h2 _ (by omega)).1]; exact h.last
theorem srt_pl {xs : List Rat} (hu : ∀ x ∈ xs, Un x) (h0 : 0 ∈ xs) (h1 : 1 ∈ xs) : Pl (srt xs) :=
  ⟨srt_inc xs, fun x hx => hu x (srt_mem.1 hx), srt_mem.2 h0, srt_mem.2 h1⟩
/-- The map with the fewest points, if it is one. -/
def smO (l : List QP) : Option (List QP) := if (simK l l.length l.length).length ≤ 12 then some (simK l l.length l.length) else none
/-- The map with values at places. -/
def mmO (xs : List Rat) (vm : Rat → Option Rat) : Option (List QP) := (pK xs vm xs.length).bind smO
/-- .. of points given. -/
def ifO (l : List QP) : Option (List QP) := if coA l then smO l else none
theorem mmO_if (xs : List Rat) (vm : Rat → Option Rat) : mmO xs vm = (vK xs vm xs.length).bind ifO := by
  unfold mmO
  rw [pK_vK]
  cases vK xs vm xs.length with
  | none => rfl
  | some l => simp only [Option.bind_some, ifO]; split <;> simp
theorem mmO_map {xs : List Rat} {vm : Rat → Option Rat} {r : List QP} (h : Pl xs) (hn : xs.length ≤ 1000) (hr : mmO xs vm = some r) : GMap r := by
  rw [mmO_if] at hr
  cases hv : vK xs vm xs.length with
  | none => rw [hv] at hr; cases hr
  | some l =>
    rw [hv] at hr
    simp only [Option.bind_some, ifO] at hr
    split at hr
    · rename_i hc
      obtain ⟨h1, h2, h3⟩ := h.points hn hv hc
      unfold smO at hr
      split at hr
      · injection hr with hr; subst hr; exact simK_map h1 h2 h3 (by assumption)
      · cases hr
    · cases hr

/-! ### Values at points -/
theorem GMap.un {qs : List QP} (h : GMap qs) {i : Nat} (hi : i < qs.length) : Un (qAt qs i).1 ∧ Un (qAt qs i).2 :=
  ⟨⟨co_fits (h.cx i hi), (h.cx i hi).1, (h.cx i hi).2.1⟩, ⟨co_fits (h.cy i hi), (h.cy i hi).1, (h.cy i hi).2.1⟩⟩
theorem onR_left {p q : QP} (h2 : co p.2) : onR p q p.1 = some p.2 := by
  have e : osub (some p.1) (some p.1) = some 0 := by simp only [osub, Option.bind_some]; rw [Rat.sub_self]; rfl
  unfold onR
  rw [e]
  have e2 : omul (some (slopeR p q)) (some 0) = some 0 := by simp only [omul, Option.bind_some, Rat.mul_zero]; rfl
  rw [e2]
  simp only [oadd, Option.bind_some, Rat.add_zero]
  exact keep_fits (co_fits h2)
theorem onR_right {p q : QP} (hlt : p.1 < q.1) (h1 : co p.1) (h2 : co p.2) (h3 : co q.1) (h4 : co q.2) : onR p q q.1 = some q.2 := by
  unfold onR
  rw [osub_co h3 h1]
  have hne : q.1 - p.1 ≠ 0 := by grind
  have e : slopeR p q * (q.1 - p.1) = q.2 - p.2 := by unfold slopeR; grind
  have e2 : omul (some (slopeR p q)) (some (q.1 - p.1)) = some (q.2 - p.2) := by
    simp only [omul, Option.bind_some, e]; exact keep_fits (sub_fits h4 h2)
  rw [e2]
  simp only [oadd, Option.bind_some]
  rw [show p.2 + (q.2 - p.2) = q.2 by grind]
  exact keep_fits (co_fits h4)
theorem vAt_point {qs : List QP} (h : GMap qs) {i : Nat} (hi : i < qs.length) : vAt qs (qAt qs i).1 = some (qAt qs i).2 := by
  have hlo := h.lo
  cases i with
  | zero =>
    rw [vAt_eq (i := 0) (by omega) (fun j hj => absurd hj (by omega)) (fun _ => by have := h.inc 0 (by omega); grind)]
    exact onR_left (h.cy 0 hi)
  | succ i =>
    rw [vAt_eq (i := i) hi (fun j hj => h.mono (by omega) hi) (fun _ => Rat.lt_irrefl)]
    exact onR_right (h.inc i hi) (h.cx i (by omega)) (h.cy i (by omega)) (h.cx _ hi) (h.cy _ hi)

/-! ### Places before values -/
section
variable (bq : Rat → Option (List Rat)) (ys : List Rat)
def bK : Nat → Option (List Rat)
  | 0 => some []
  | k + 1 => (bK k).bind fun l => (bq (ys.getD k 0)).map (l ++ ·)
def sK (l0 : List Rat) : Nat → Option (List Rat)
  | 0 => some l0
  | k + 1 => (sK l0 k).bind fun l => (bq (ys.getD k 0)).map fun b => b.foldl putL l
variable {bq ys}
theorem sK_bK (l0 : List Rat) : ∀ k, sK bq ys l0 k = (bK bq ys k).map fun b => b.foldl putL l0
  | 0 => rfl
  | k + 1 => by
    simp only [sK, bK, sK_bK l0 k]
    cases bK bq ys k with
    | none => rfl
    | some l =>
      cases bq (ys.getD k 0) with
      | none => rfl
      | some b => simp [List.foldl_append]
theorem bK_none {j k : Nat} (h : bK bq ys k = none) : ∀ d, j = k + d → bK bq ys j = none
  | 0, e => by subst e; exact h
  | d + 1, e => by subst e; show bK bq ys (k + d + 1) = none; simp only [bK, bK_none h d rfl, Option.bind_none]
theorem sK_none {l0 : List Rat} {j k : Nat} (h : sK bq ys l0 k = none) : ∀ d, j = k + d → sK bq ys l0 j = none
  | 0, e => by subst e; exact h
  | d + 1, e => by subst e; show sK bq ys l0 (k + d + 1) = none; simp only [sK, sK_none h d rfl, Option.bind_none]
theorem bK_all {p : Rat → Prop} (hb : ∀ y b, bq y = some b → ∀ z ∈ b, p z) : ∀ {k : Nat} {l : List Rat}, bK bq ys k = some l → ∀ z ∈ l, p z
  | 0, l, h => by simp only [bK, Option.some.injEq] at h; subst h; simp
  | k + 1, l, h => by
    simp only [bK] at h
    cases hk : bK bq ys k with
    | none => rw [hk] at h; cases h
    | some m =>
      rw [hk] at h
      cases hv : bq (ys.getD k 0) with
      | none => rw [hv] at h; cases h
      | some b =>
        rw [hv] at h
        simp only [Option.bind_some, Option.map_some, Option.some.injEq] at h
        subst h
        intro z hz
        rcases List.mem_append.1 hz with h1 | h1
        · exact bK_all hb hk z h1
        · exact hb _ _ hv z h1
theorem bK_len {N : Nat} (hb : ∀ y b, bq y = some b → b.length ≤ N) : ∀ {k : Nat} {l : List Rat}, bK bq ys k = some l → l.length ≤ k * N
  | 0, l, h => by simp only [bK, Option.some.injEq] at h; subst h; simp
  | k + 1, l, h => by
    simp only [bK] at h
    cases hk : bK bq ys k with
    | none => rw [hk] at h; cases h
    | some m =>
      rw [hk] at h
      cases hv : bq (ys.getD k 0) with
      | none => rw [hv] at h; cases h
      | some b =>
        rw [hv] at h
        simp only [Option.bind_some, Option.map_some, Option.some.injEq] at h
        subst h
        have h1 := bK_len hb hk
        have h2 := hb _ _ hv
        rw [List.length_append, Nat.add_mul]; omega
end
/-- The X of the points. -/
def xsOf (qs : List QP) : List Rat := qs.map Prod.fst
theorem xsOf_get {qs : List QP} {i : Nat} (h : i < qs.length) : (xsOf qs).getD i 0 = (qAt qs i).1 := by
  unfold xsOf qAt; simp [h]
theorem xsOf_len (qs : List QP) : (xsOf qs).length = qs.length := List.length_map ..
theorem xsOf_inc {qs : List QP} (h : GMap qs) : Inc (xsOf qs) := List.pairwise_map.2 (pair_inc.2 h.inc)
theorem xsOf_un {qs : List QP} (h : GMap qs) : ∀ x ∈ xsOf qs, Un x := by
  intro x hx
  obtain ⟨i, hi, e⟩ := mem_iff_getD.1 hx
  rw [xsOf_len] at hi
  rw [← e, xsOf_get hi]; exact (h.un hi).1
theorem xsOf_zero {qs : List QP} (h : GMap qs) : (0 : Rat) ∈ xsOf qs := by
  have := h.lo
  exact mem_iff_getD.2 ⟨0, by rw [xsOf_len]; omega, by rw [xsOf_get (by omega)]; exact h.first⟩
theorem xsOf_one {qs : List QP} (h : GMap qs) : (1 : Rat) ∈ xsOf qs := by
  have := h.lo
  exact mem_iff_getD.2 ⟨qs.length - 1, by rw [xsOf_len]; omega, by rw [xsOf_get (by omega)]; exact h.last⟩
end Go.Proofs.Ythccdooacbablab.Rm

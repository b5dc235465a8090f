/-
  Chapter 2: reading a map's text: the program's way and the model's way, as plain functions; they agree.
-/
import Derived.Test.YtmkejopkmdcfeabDoorParseM
import Derived.Test.YtmkejopkmdcfeabDoorMt
namespace Go.Proofs.YtmkejopkmdcfeabDoor
open Go.RowKit Rm

theorem ratTxt_no (n d : Int) : ∀ c ∈ ratTxt n d, c ≠ 32 ∧ c ≠ 59 := by
  have dig : ∀ {x : UInt8}, 48 ≤ (x.toNat : Int) ∧ (x.toNat : Int) ≤ 57 → x ≠ 32 ∧ x ≠ 59 := by
    intro x h
    have h32 : ((32 : UInt8).toNat : Int) = 32 := rfl
    have h59 : ((59 : UInt8).toNat : Int) = 59 := rfl
    constructor
    · rintro rfl; omega
    · rintro rfl; omega
  have key : ∀ m : Int, ∀ c ∈ Lib.itoa m, c ≠ 32 ∧ c ≠ 59 := by
    intro m c hc
    unfold Lib.itoa at hc
    split at hc
    · rcases List.mem_cons.1 hc with rfl | hc
      · exact ⟨by decide, by decide⟩
      · exact dig (dec_mem _ _ (Nat.le_refl _) c hc)
    · exact dig (dec_mem _ _ (Nat.le_refl _) c hc)
  intro c hc
  unfold ratTxt at hc
  rcases List.mem_append.1 hc with hc | hc
  · exact key n c hc
  · rcases List.mem_cons.1 hc with rfl | hc
    · exact ⟨by decide, by decide⟩
    · exact key d c hc

/-- What ParseRat gives, whether it fails or not. -/
def prF (l : List UInt8) : Fr := (specP l).getD (0, 0)
theorem prF_txt {n d : Int} (h : good n d = true) : prF (ratTxt n d) = (n, d) := by unfold prF; rw [spec_reads h]; rfl
/-- The program's reading: the points so far, the last x, the bytes since the last mark. -/
def rdI : List UInt8 → List Pt → Fr → List UInt8 → Option (List Pt)
  | [], acc, _, _ => some acc
  | c :: r, acc, px, cur =>
    if c = 32 then rdI r acc (prF cur) []
    else if c = 59 then (if acc.length = 12 then none else rdI r (acc ++ [(px, prF cur)]) px [])
    else rdI r acc px (cur ++ [c])
theorem rdI_skip (r : List UInt8) (acc : List Pt) (px : Fr) : ∀ (x cur : List UInt8), (∀ c ∈ x, c ≠ 32 ∧ c ≠ 59) → rdI (x ++ r) acc px cur = rdI r acc px (cur ++ x) := by
  intro x
  induction x with
  | nil => intro cur _; simp
  | cons c y ih =>
    intro cur h
    have hc := h c (by simp)
    rw [List.cons_append, rdI, if_neg hc.1, if_neg hc.2, ih _ (fun z hz => h z (by simp [hz]))]
    simp
theorem ptT_eq (p : Pt) (r : List UInt8) : ptT p ++ r = ratTxt p.1.1 p.1.2 ++ 32 :: (ratTxt p.2.1 p.2.2 ++ 59 :: r) := by unfold ptT; simp
theorem rdI_line (p : Pt) (r : List UInt8) (acc : List Pt) (px : Fr) (h1 : good p.1.1 p.1.2 = true) (h2 : good p.2.1 p.2.2 = true) (ha : acc.length < 12) :
    rdI (ptT p ++ r) acc px [] = rdI r (acc ++ [p]) p.1 [] := by
  rw [ptT_eq, rdI_skip _ _ _ _ _ (ratTxt_no _ _), rdI, if_pos rfl, rdI_skip _ _ _ _ _ (ratTxt_no _ _), rdI, if_neg (by decide), if_pos rfl, if_neg (by omega)]
  rw [List.nil_append, List.nil_append, prF_txt h1, prF_txt h2]
def firstP (ps : List Pt) (j : Nat) : List Pt := (List.range j).map (pAt ps)
theorem firstP_snoc (ps : List Pt) (j : Nat) : firstP ps (j + 1) = firstP ps j ++ [pAt ps j] := by unfold firstP; rw [List.range_succ, List.map_append]; rfl
theorem firstP_len (ps : List Pt) (j : Nat) : (firstP ps j).length = j := by unfold firstP; simp
theorem firstP_all (ps : List Pt) : firstP ps ps.length = ps := by
  unfold firstP
  refine List.ext_getElem (by simp) fun i h1 h2 => ?_
  rw [List.getElem_map, List.getElem_range]
  unfold pAt
  simp [List.getD_eq_getElem?_getD, h2]
theorem rdI_map {ps : List Pt} {n : Nat} (hg : Goods ps n) (hn : n ≤ 12) : ∀ j, j ≤ n → ∀ r, ∃ px, rdI (mpT ps j ++ r) [] (0, 0) [] = rdI r (firstP ps j) px [] := by
  intro j
  induction j with
  | zero => intro _ r; exact ⟨(0, 0), rfl⟩
  | succ j ih =>
    intro hj r
    obtain ⟨px, h⟩ := ih (by omega) (ptT (pAt ps j) ++ r)
    refine ⟨(pAt ps j).1, ?_⟩
    show rdI ((mpT ps j ++ ptT (pAt ps j)) ++ r) [] (0, 0) [] = _
    rw [List.append_assoc, h, rdI_line _ _ _ _ (hg j (by omega)).1 (hg j (by omega)).2 (by rw [firstP_len]; omega), firstP_snoc]
theorem rdI_reads {ps : List Pt} (h : mapB ps = true) : rdI (mpT ps ps.length) [] (0, 0) [] = some ps := by
  obtain ⟨hg, h12, _⟩ := goods_map h
  obtain ⟨px, e⟩ := rdI_map hg h12 ps.length (Nat.le_refl _) []
  rw [List.append_nil] at e
  rw [e, firstP_all]; rfl

/-- The model's reading of a part, and of all. -/
def rdP (l : List UInt8) : Option Pt := match sp 32 [] l with
  | [x, y] => (specP x).bind fun a => (specP y).map fun b => (a, b)
  | _ => none
def rdL : List (List UInt8) → Option (List Pt)
  | [] => some []
  | l :: r => (rdP l).bind fun p => (rdL r).map (p :: ·)
def rdS (s : List UInt8) : Option (List Pt) := if 13 < (sp 59 [] s).length then none else rdL (sp 59 [] s).dropLast
theorem sp_cons (b : UInt8) (y : List UInt8) : ∀ (x cur : List UInt8), (∀ c ∈ x, c ≠ b) → sp b cur (x ++ b :: y) = (cur ++ x) :: sp b [] y := by
  intro x
  induction x with
  | nil => intro cur _; simp [sp]
  | cons c r ih =>
    intro cur h
    rw [List.cons_append, sp, if_neg (h c (by simp)), ih _ (fun z hz => h z (by simp [hz]))]
    simp
def lnT (p : Pt) : List UInt8 := ratTxt p.1.1 p.1.2 ++ 32 :: ratTxt p.2.1 p.2.2
theorem rdP_line {p : Pt} (h1 : good p.1.1 p.1.2 = true) (h2 : good p.2.1 p.2.2 = true) : rdP (lnT p) = some p := by
  unfold rdP lnT
  rw [sp_one 32 _ (fun c hc => (ratTxt_no _ _ c hc).1) _ _ (fun c hc => (ratTxt_no _ _ c hc).1), List.nil_append]
  simp only [spec_reads h1, spec_reads h2, Option.bind_some, Option.map_some]
theorem lnT_no (p : Pt) : ∀ c ∈ lnT p, c ≠ 59 := by
  intro c hc
  unfold lnT at hc
  rcases List.mem_append.1 hc with hc | hc
  · exact (ratTxt_no _ _ c hc).2
  · rcases List.mem_cons.1 hc with rfl | hc
    · decide
    · exact (ratTxt_no _ _ c hc).2
theorem sp_lines (ps : List Pt) : ∀ j r, sp 59 [] (mpT ps j ++ r) = (firstP ps j).map lnT ++ sp 59 [] r := by
  intro j
  induction j with
  | zero => intro r; rfl
  | succ j ih =>
    intro r
    show sp 59 [] ((mpT ps j ++ ptT (pAt ps j)) ++ r) = _
    have e : ptT (pAt ps j) ++ r = lnT (pAt ps j) ++ 59 :: r := by rw [ptT_eq]; unfold lnT; simp
    rw [List.append_assoc, ih, e, sp_cons 59 r _ _ (lnT_no _), firstP_snoc, List.map_append]
    simp
theorem rdL_lines : ∀ l : List Pt, (∀ p ∈ l, good p.1.1 p.1.2 = true ∧ good p.2.1 p.2.2 = true) → rdL (l.map lnT) = some l := by
  intro l
  induction l with
  | nil => intro _; rfl
  | cons p r ih =>
    intro h
    have hp := h p (by simp)
    rw [List.map_cons, rdL, rdP_line hp.1 hp.2, ih (fun q hq => h q (by simp [hq]))]
    rfl
theorem rdS_reads {ps : List Pt} (h : mapB ps = true) : rdS (mpT ps ps.length) = some ps := by
  obtain ⟨hg, h12, _⟩ := goods_map h
  have e := sp_lines ps ps.length []
  rw [List.append_nil, firstP_all] at e
  have e' : sp 59 [] (mpT ps ps.length) = ps.map lnT ++ [[]] := e
  unfold rdS
  rw [e', if_neg (by simp; omega), List.dropLast_concat]
  refine rdL_lines ps fun p hp => ?_
  obtain ⟨i, hi, rfl⟩ := List.getElem_of_mem hp
  have := hg i hi
  unfold pAt at this
  simpa [List.getD_eq_getElem?_getD, hi] using this

/-- What is answered, given what has been read: nothing, if the text of it is another. -/
def finM (s : List UInt8) (o : Option (List Pt)) : List Pt × Bool := match o with
  | some f => if mapB f = true ∧ mpT f f.length = s then (f, true) else ([], false)
  | none => ([], false)
theorem finM_no {s : List UInt8} (h : ¬ ∃ ps, mapB ps = true ∧ mpT ps ps.length = s) (o : Option (List Pt)) : finM s o = ([], false) := by
  cases o with
  | none => rfl
  | some f => exact if_neg fun k => h ⟨f, k⟩
theorem readings_agree (s : List UInt8) : finM s (rdI s [] (0, 0) []) = finM s (rdS s) := by
  by_cases h : ∃ ps, mapB ps = true ∧ mpT ps ps.length = s
  · obtain ⟨ps, hm, rfl⟩ := h
    rw [rdI_reads hm, rdS_reads hm]
  · rw [finM_no h, finM_no h]
end Go.Proofs.YtmkejopkmdcfeabDoor

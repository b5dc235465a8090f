/-
  Chapter 2: maps of the interval over lists of fractions (two integers) and over lists of rational numbers. No Go here.
-/
import Derived.Test.YthccdooacbablabQ
namespace Go.Proofs.Ythccdooacbablab.Rm

abbrev Fr := Int × Int
abbrev Pt := Fr × Fr
abbrev QP := Rat × Rat
def qf (r : Rat) : Fr := (r.num, (r.den : Int))
def qp (p : QP) : Pt := (qf p.1, qf p.2)
/-- Point i of a list. -/
def pAt (ps : List Pt) (i : Nat) : Pt := ps.getD i ((0, 1), (0, 1))
def qAt (qs : List QP) (i : Nat) : QP := qs.getD i (0, 0)
theorem qp_zero : qp (0, 0) = ((0, 1), (0, 1)) := rfl
theorem pAt_map (qs : List QP) (i : Nat) : pAt (qs.map qp) i = qp (qAt qs i) := by
  unfold pAt qAt
  rw [← qp_zero, List.getD_eq_getElem?_getD, List.getD_eq_getElem?_getD, List.getElem?_map]
  cases qs[i]? <;> rfl

/-- A coordinate. -/
def coB (x : Fr) : Bool := good x.1 x.2 && (decide (0 ≤ x.1) && (decide (x.1 ≤ x.2) && decide (x.2 ≤ 100)))
def ltF (x y : Fr) : Bool := decide (x.1 * y.2 < y.1 * x.2)
/-- What the loop over the points asks at point i. -/
def okAt (ps : List Pt) (i : Nat) : Bool := coB (pAt ps i).1 && (coB (pAt ps i).2 && (decide (i = 0) || ltF (pAt ps (i - 1)).1 (pAt ps i).1))
/-- A map. -/
def mapB (ps : List Pt) : Bool :=
  decide (2 ≤ ps.length ∧ ps.length ≤ 12) && ((List.range ps.length).all (okAt ps) && ((pAt ps 0).1 == (0, 1) && (pAt ps (ps.length - 1)).1 == (1, 1)))
theorem mapB_len {ps : List Pt} (h : ¬ (2 ≤ ps.length ∧ ps.length ≤ 12)) : mapB ps = false := by simp only [mapB, decide_eq_false h, Bool.false_and]
theorem mapB_at {ps : List Pt} {i : Nat} (hi : i < ps.length) (h : okAt ps i = false) : mapB ps = false := by
  have : (List.range ps.length).all (okAt ps) = false := by
    rw [List.all_eq_false]
    exact ⟨i, List.mem_range.2 hi, by simp [h]⟩
  simp only [mapB, this, Bool.false_and, Bool.and_false]
theorem mapB_all {ps : List Pt} (hl : 2 ≤ ps.length ∧ ps.length ≤ 12) (h : ∀ i, i < ps.length → okAt ps i = true) : mapB ps = ((pAt ps 0).1 == (0, 1) && (pAt ps (ps.length - 1)).1 == (1, 1)) := by
  have : (List.range ps.length).all (okAt ps) = true := by
    rw [List.all_eq_true]
    exact fun i hi => h i (List.mem_range.1 hi)
  simp only [mapB, this, decide_eq_true hl, Bool.true_and]

def co (r : Rat) : Prop := 0 ≤ r ∧ r ≤ 1 ∧ (r.den : Int) ≤ 100
structure GMap (qs : List QP) : Prop where
  lo : 2 ≤ qs.length
  hi : qs.length ≤ 12
  cx : ∀ i, i < qs.length → co (qAt qs i).1
  cy : ∀ i, i < qs.length → co (qAt qs i).2
  inc : ∀ i, i + 1 < qs.length → (qAt qs i).1 < (qAt qs (i + 1)).1
  first : (qAt qs 0).1 = 0
  last : (qAt qs (qs.length - 1)).1 = 1

theorem coB_rat {x : Fr} (h : coB x = true) : ∃ r : Rat, x = qf r ∧ co r := by
  simp only [coB, Bool.and_eq_true, decide_eq_true_eq] at h
  obtain ⟨hg, h0, h1, h2⟩ := h
  obtain ⟨r, e1, e2, _⟩ := rat_of_good hg
  refine ⟨r, Prod.ext e1.symm e2.symm, ?_, ?_, by rw [e2]; exact h2⟩
  · rw [← Rat.num_nonneg, e1]; exact h0
  · rw [Rat.le_iff]; simp; omega
theorem co_le {r : Rat} (h : co r) : 0 ≤ r.num ∧ r.num ≤ r.den := by
  obtain ⟨h0, h1, _⟩ := h
  have := Rat.num_nonneg.2 h0
  rw [Rat.le_iff] at h1
  simp at h1
  omega
theorem co_fits {r : Rat} (h : co r) : fits r = true := by
  have h3 := co_le h
  have h2 := h.2.2
  rw [fits_iff]; omega
theorem coB_qf {r : Rat} (h : co r) : coB (qf r) = true := by
  have h3 := co_le h
  have h2 := h.2.2
  have hg : good (qf r).1 (qf r).2 = true := by rw [show good (qf r).1 (qf r).2 = fits r from good_rat r]; exact co_fits h
  simp only [coB, hg, Bool.true_and, Bool.and_eq_true, decide_eq_true_eq]
  exact ⟨h3.1, h3.2, h2⟩
theorem ltF_qf (a b : Rat) : ltF (qf a) (qf b) = decide (a < b) := by
  unfold ltF qf
  rw [decide_eq_decide, Rat.lt_iff]
theorem lift_list {α β : Type} {f : β → α} {p : β → Prop} : ∀ {l : List α}, (∀ x ∈ l, ∃ y, x = f y ∧ p y) → ∃ m : List β, l = m.map f ∧ ∀ y ∈ m, p y
  | [], _ => ⟨[], rfl, by simp⟩
  | x :: l, h => by
    obtain ⟨y, rfl, hy⟩ := h x (by simp)
    obtain ⟨m, rfl, hm⟩ := lift_list (l := l) fun z hz => h z (by simp [hz])
    exact ⟨y :: m, rfl, by simpa using ⟨hy, hm⟩⟩
theorem pAt_mem {ps : List Pt} {p : Pt} (h : p ∈ ps) : ∃ i, i < ps.length ∧ pAt ps i = p := by
  obtain ⟨i, hi, rfl⟩ := List.mem_iff_getElem.1 h
  exact ⟨i, hi, by simp [pAt, hi]⟩
theorem gmap_of {ps : List Pt} (h : mapB ps = true) : ∃ qs, ps = qs.map qp ∧ GMap qs := by
  simp only [mapB, Bool.and_eq_true, decide_eq_true_eq, List.all_eq_true, List.mem_range, beq_iff_eq] at h
  obtain ⟨⟨h1, h2⟩, h3, h4, h5⟩ := h
  have hok : ∀ i, i < ps.length → coB (pAt ps i).1 = true ∧ coB (pAt ps i).2 = true := fun i hi => by
    have := h3 i hi
    simp only [okAt, Bool.and_eq_true] at this
    exact ⟨this.1, this.2.1⟩
  obtain ⟨qs, rfl, hq⟩ := lift_list (l := ps) (f := qp) (p := fun q => co q.1 ∧ co q.2) fun p hp => by
    obtain ⟨i, hi, rfl⟩ := pAt_mem hp
    obtain ⟨a, ea, ha⟩ := coB_rat (hok i hi).1
    obtain ⟨b, eb, hb⟩ := coB_rat (hok i hi).2
    exact ⟨(a, b), Prod.ext ea eb, ha, hb⟩
  rw [List.length_map] at h1 h2 h3 h5
  have hat : ∀ i, i < qs.length → qAt qs i ∈ qs := fun i hi => by
    unfold qAt; rw [List.getD_eq_getElem?_getD, List.getElem?_eq_getElem hi]; exact List.getElem_mem hi
  refine ⟨qs, rfl, h1, h2, fun i hi => (hq _ (hat i hi)).1, fun i hi => (hq _ (hat i hi)).2, fun i hi => ?_, ?_, ?_⟩
  · have := h3 (i + 1) hi
    simp only [okAt, Bool.and_eq_true, Bool.or_eq_true, decide_eq_true_eq] at this
    rcases this.2.2 with h0 | h0
    · omega
    · rw [Nat.add_sub_cancel, pAt_map, pAt_map] at h0
      have h0' : ltF (qf (qAt qs i).1) (qf (qAt qs (i + 1)).1) = true := h0
      rw [ltF_qf] at h0'
      exact of_decide_eq_true h0'
  · rw [pAt_map] at h4
    have e1 : (qAt qs 0).1.num = 0 := congrArg Prod.fst h4
    exact Rat.num_eq_zero.1 e1
  · rw [pAt_map] at h5
    have e1 : (qAt qs (qs.length - 1)).1.num = 1 := congrArg Prod.fst h5
    have e2 : ((qAt qs (qs.length - 1)).1.den : Int) = 1 := congrArg Prod.snd h5
    exact Rat.ext e1 (by show (qAt qs (qs.length - 1)).1.den = 1; omega)
theorem GMap.mapB {qs : List QP} (h : GMap qs) : mapB (qs.map qp) = true := by
  have hl : (qs.map qp).length = qs.length := List.length_map ..
  rw [mapB_all (by rw [hl]; exact ⟨h.lo, h.hi⟩)]
  · rw [hl, pAt_map, pAt_map]
    show (qf (qAt qs 0).1 == (0, 1) && qf (qAt qs (qs.length - 1)).1 == (1, 1)) = true
    rw [h.first, h.last]
    rfl
  · intro i hi
    rw [hl] at hi
    unfold okAt
    rw [pAt_map, pAt_map]
    show (coB (qf (qAt qs i).1) && (coB (qf (qAt qs i).2) && (decide (i = 0) || ltF (qf (qAt qs (i - 1)).1) (qf (qAt qs i).1)))) = true
    rw [coB_qf (h.cx i hi), coB_qf (h.cy i hi), ltF_qf]
    rcases Nat.eq_zero_or_pos i with rfl | hp
    · rfl
    · have := h.inc (i - 1) (by omega)
      rw [show i - 1 + 1 = i by omega] at this
      simp [this]
theorem GMap.mono {qs : List QP} (h : GMap qs) {i : Nat} : ∀ {j : Nat}, i < j → j < qs.length → (qAt qs i).1 < (qAt qs j).1
  | 0, hij, _ => by omega
  | j + 1, hij, hj => by
    have h1 := h.inc j hj
    rcases Nat.lt_or_eq_of_le (Nat.le_of_lt_succ hij) with hlt | rfl
    · have := h.mono hlt (by omega)
      grind
    · exact h1

/-! ### What fits -/
theorem small_of {r : Rat} {n d : Int} (hd : d ≠ 0) (e : r = Rat.divInt n d) (B C : Int) (hn : -B ≤ n ∧ n ≤ B) (hdd : -C ≤ d ∧ d ≤ C) (hB : B ≤ 1000000000) (hC : C ≤ 1000000000) : fits r = true := by
  subst e
  rw [← mok_rat hd]
  have h1 := mN_bound (n := n) hd B hn.1 hn.2
  have h2 := mD_bound (n := n) hd C hdd.1 hdd.2
  unfold mok
  rw [decide_eq_true_eq]
  exact ⟨hd, by omega, by omega, by omega⟩
theorem co_parts {a : Rat} (h : co a) : 0 ≤ a.num ∧ a.num ≤ a.den ∧ 1 ≤ (a.den : Int) ∧ (a.den : Int) ≤ 100 := ⟨(co_le h).1, (co_le h).2, den_pos' a, h.2.2⟩
/-- Difference of two coordinates: numerator and denominator. -/
theorem sub_parts {a b : Rat} (ha : co a) (hb : co b) : ∃ n d : Int, 1 ≤ d ∧ d ≤ 10000 ∧ -10000 ≤ n ∧ n ≤ 10000 ∧ a - b = Rat.divInt n d := by
  obtain ⟨a0, a1, a2, a3⟩ := co_parts ha
  obtain ⟨b0, b1, b2, b3⟩ := co_parts hb
  refine ⟨a.num * b.den - b.num * a.den, a.den * b.den, ?_, ?_, ?_, ?_, (divInt_sub a b).symm⟩
  · have := prod_pos a2 b2; omega
  · have := (mul_bd (a := a.den) (d := b.den) (A := 100) (D := 100) (by omega) (by omega) (by omega) (by omega)).2; omega
  all_goals
    have k1 := mul_bd (a := a.num) (d := b.den) (A := 100) (D := 100) (by omega) (by omega) (by omega) (by omega)
    have k2 := mul_bd (a := b.num) (d := a.den) (A := 100) (D := 100) (by omega) (by omega) (by omega) (by omega)
    have k3 : 0 ≤ a.num * b.den := Int.mul_nonneg a0 (by omega)
    have k4 : 0 ≤ b.num * a.den := Int.mul_nonneg b0 (by omega)
    omega
theorem sub_fits {a b : Rat} (ha : co a) (hb : co b) : fits (a - b) = true := by
  obtain ⟨n, d, h1, h2, h3, h4, e⟩ := sub_parts ha hb
  exact small_of (by omega) e 10000 10000 ⟨h3, h4⟩ ⟨by omega, h2⟩ (by omega) (by omega)
theorem osub_co {a b : Rat} (ha : co a) (hb : co b) : osub (some a) (some b) = some (a - b) := keep_fits (sub_fits ha hb)
/-- The slope of a piece. -/
def slopeR (p q : QP) : Rat := (q.2 - p.2) / (q.1 - p.1)
theorem slope_fits {p q : QP} (h1 : co p.1) (h2 : co p.2) (h3 : co q.1) (h4 : co q.2) (hlt : p.1 < q.1) : fits (slopeR p q) = true := by
  obtain ⟨n, d, a1, a2, a3, a4, e⟩ := sub_parts h4 h2
  obtain ⟨m, c, b1, b2, b3, b4, f⟩ := sub_parts h3 h1
  have hm : m ≠ 0 := by
    rintro rfl
    rw [Rat.zero_divInt] at f
    grind
  have hd : d * m ≠ 0 := Int.mul_ne_zero (by omega) hm
  have k1 := mul_bd (a := n) (d := c) (A := 10000) (D := 10000) (by omega) (by omega) (by omega) (by omega)
  have k2 := mul_bd (a := d) (d := m) (A := 10000) (D := 10000) (by omega) (by omega) (by omega) (by omega)
  refine small_of hd (n := n * c) ?_ 100000000 100000000 (by omega) (by omega) (by omega) (by omega)
  unfold slopeR
  rw [e, f, Rat.div_def, Rat.inv_divInt, Rat.divInt_mul_divInt]
theorem odiv_slope {p q : QP} (h1 : co p.1) (h2 : co p.2) (h3 : co q.1) (h4 : co q.2) (hlt : p.1 < q.1) : odiv (some (q.2 - p.2)) (some (q.1 - p.1)) = some (slopeR p q) := by
  have hne : q.1 - p.1 ≠ 0 := by grind
  show (if q.1 - p.1 = 0 then none else keep ((q.2 - p.2) / (q.1 - p.1))) = _
  rw [if_neg hne]
  exact keep_fits (slope_fits h1 h2 h3 h4 hlt)
theorem omul_comm (x y : Option Rat) : omul x y = omul y x := by
  cases x <;> cases y <;> simp [omul, Rat.mul_comm]

/-- The value at x on the line of a piece. -/
def onR (p q : QP) (x : Rat) : Option Rat := oadd (some p.2) (omul (some (slopeR p q)) (osub (some x) (some p.1)))
/-- The value of a map. -/
def vAt : List QP → Rat → Option Rat
  | p :: q :: r :: l, x => if q.1 < x then vAt (q :: r :: l) x else onR p q x
  | p :: q :: [], x => onR p q x
  | _, _ => none
theorem vAt_eq {x : Rat} : ∀ {qs : List QP} {i : Nat}, i + 1 < qs.length → (∀ j, j < i → (qAt qs (j + 1)).1 < x) → (i + 2 < qs.length → ¬ (qAt qs (i + 1)).1 < x) → vAt qs x = onR (qAt qs i) (qAt qs (i + 1)) x
  | [], i, h, _, _ => by simp at h
  | [p], i, h, _, _ => by simp at h
  | [p, q], 0, _, _, _ => rfl
  | [p, q], i + 1, h, _, _ => by simp at h; omega
  | p :: q :: r :: l, 0, _, _, h => by
    have := h (by simp)
    have h' : ¬ q.1 < x := this
    simp only [vAt, if_neg h']
    rfl
  | p :: q :: r :: l, i + 1, hi, hj, h => by
    have h0 : q.1 < x := hj 0 (by omega)
    simp only [vAt, if_pos h0]
    exact vAt_eq (qs := q :: r :: l) (i := i) (by simpa using hi) (fun j hj' => hj (j + 1) (by omega)) (fun k => h (by simpa using k))
/-- The slopes of the first k pieces. -/
def slopesK (qs : List QP) (k : Nat) : List Rat := (List.range k).map fun i => slopeR (qAt qs i) (qAt qs (i + 1))
theorem slopesK_succ (qs : List QP) (k : Nat) : slopesK qs (k + 1) = slopesK qs k ++ [slopeR (qAt qs k) (qAt qs (k + 1))] := by
  unfold slopesK; rw [List.range_succ, List.map_append]; rfl
end Go.Proofs.Ythccdooacbablab.Rm

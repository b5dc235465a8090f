/-
  Chapter 6: laps of a map, lap maps, addresses, signs: no Go here.
-/
import Derived.Test.YthccdooacbablabLp
namespace Go.Proofs.Ythccdooacbablab
open Go.RowKit Rm

/-- What is told of a lap among k pieces. -/
structure LapOK (d : Nat → Int) (k : Nat) (r : Lap) : Prop where
  lt : r.1 < r.2.1
  le : r.2.1 ≤ k
  dir : ∀ j, r.1 ≤ j → j < r.2.1 → d j = r.2.2
theorem LapOK.mono {d : Nat → Int} {k k' : Nat} {r : Lap} (h : LapOK d k r) (hk : k ≤ k') : LapOK d k' r := ⟨h.lt, by have := h.le; omega, h.dir⟩
theorem lapLast_snd (d : Nat → Int) : ∀ k, (lapLast d k).2.1 = k + 1
  | 0 => rfl
  | k + 1 => by unfold lapLast; split <;> rfl
theorem lapLast_ok (d : Nat → Int) : ∀ k, LapOK d (k + 1) (lapLast d k)
  | 0 => ⟨Nat.zero_lt_one, Nat.le_refl _, fun j h1 h2 => by
      have h2' : j < 1 := h2
      obtain rfl : j = 0 := by omega
      rfl⟩
  | k + 1 => by
    have ih := lapLast_ok d k
    have h2 := lapLast_snd d k
    have h3 := lapLast_dir (d := d) k
    unfold lapLast
    split
    · rename_i he
      refine ⟨?_, Nat.le_refl _, fun j hj1 hj2 => ?_⟩
      · show (lapLast d k).1 < k + 2
        have := ih.lt; omega
      · have hj2' : j < k + 2 := hj2
        have hj1' : (lapLast d k).1 ≤ j := hj1
        show d j = d (k + 1)
        rcases Nat.lt_or_ge j (k + 1) with h | h
        · rw [ih.dir j hj1' (by omega), h3, he]
        · obtain rfl : j = k + 1 := by omega
          rfl
    · refine ⟨by show k + 1 < k + 2; omega, Nat.le_refl _, fun j hj1 hj2 => ?_⟩
      have hj2' : j < k + 2 := hj2
      have hj1' : k + 1 ≤ j := hj1
      obtain rfl : j = k + 1 := by omega
      rfl
theorem lapInit_ok (d : Nat → Int) : ∀ k, ∀ r ∈ lapInit d k, LapOK d k r
  | 0, r, h => by simp [lapInit] at h
  | k + 1, r, h => by
    unfold lapInit at h
    split at h
    · exact (lapInit_ok d k r h).mono (by omega)
    · rcases List.mem_append.1 h with h | h
      · exact (lapInit_ok d k r h).mono (by omega)
      · rw [List.mem_singleton.1 h]; exact lapLast_ok d k
theorem lapsK_ok (d : Nat → Int) : ∀ k, ∀ r ∈ lapsK d k, LapOK d k r
  | 0, r, h => by simp [lapsK] at h
  | k + 1, r, h => by
    rcases List.mem_append.1 h with h | h
    · exact (lapInit_ok d k r h).mono (by omega)
    · rw [List.mem_singleton.1 h]; exact lapLast_ok d k
/-- What holds of the directions of all laps holds of those of all pieces. -/
theorem lapsK_all (d : Nat → Int) (P : Int → Prop) : ∀ k, (∀ r ∈ lapsK d k, P r.2.2) ↔ ∀ j, j < k → P (d j)
  | 0 => ⟨fun _ j h => by omega, fun _ r h => by simp [lapsK] at h⟩
  | 1 => ⟨fun h j hj => by
      obtain rfl : j = 0 := by omega
      exact h (0, 1, d 0) (by simp [lapsK, lapInit, lapLast]), fun h r hr => by
      have : r = (0, 1, d 0) := by simpa [lapsK, lapInit, lapLast] using hr
      subst this
      exact h 0 (by omega)⟩
  | k + 2 => by
    have ih := lapsK_all d P (k + 1)
    have e0 : lapsK d (k + 1) = lapInit d k ++ [lapLast d k] := rfl
    have e1 : lapsK d (k + 2) = lapInit d (k + 1) ++ [lapLast d (k + 1)] := rfl
    have hd0 := lapLast_dir (d := d) k
    have hd1 := lapLast_dir (d := d) (k + 1)
    rw [e0] at ih
    rw [e1]
    have hstep : (∀ j, j < k + 2 → P (d j)) ↔ ((∀ j, j < k + 1 → P (d j)) ∧ P (d (k + 1))) :=
      ⟨fun h => ⟨fun j hj => h j (by omega), h _ (by omega)⟩, fun h j hj => by
        rcases Nat.lt_or_ge j (k + 1) with h1 | h1
        · exact h.1 j h1
        · obtain rfl : j = k + 1 := by omega
          exact h.2⟩
    rw [hstep, ← ih, show lapInit d (k + 1) = if d k = d (k + 1) then lapInit d k else lapInit d k ++ [lapLast d k] from rfl]
    split
    · rename_i he
      refine ⟨fun h => ⟨fun r hr => ?_, ?_⟩, fun h r hr => ?_⟩
      · rcases List.mem_append.1 hr with hr | hr
        · exact h r (List.mem_append_left _ hr)
        · rw [List.mem_singleton.1 hr, hd0, he, ← hd1]
          exact h _ (List.mem_append_right _ (List.mem_singleton.2 rfl))
      · rw [← hd1]; exact h _ (List.mem_append_right _ (List.mem_singleton.2 rfl))
      · rcases List.mem_append.1 hr with hr | hr
        · exact h.1 r (List.mem_append_left _ hr)
        · rw [List.mem_singleton.1 hr, hd1]; exact h.2
    · refine ⟨fun h => ⟨fun r hr => h r (List.mem_append_left _ hr), ?_⟩, fun h r hr => ?_⟩
      · rw [← hd1]; exact h _ (List.mem_append_right _ (List.mem_singleton.2 rfl))
      · rcases List.mem_append.1 hr with hr | hr
        · exact h.1 r hr
        · rw [List.mem_singleton.1 hr, hd1]; exact h.2
theorem lapsK_last (d : Nat → Int) (k : Nat) : (lapsK d (k + 1))[(lapsK d (k + 1)).length - 1]? = some (lapLast d k) := by
  unfold lapsK
  simp

/-- A map with no slope 0. -/
def lmB (ps : List Pt) : Bool := mapB ps && (List.range (ps.length - 1)).all fun k => decide (dirR (dec ps) k ≠ 0)
theorem lmB_map {qs : List QP} (hg : GMap qs) : lmB (qs.map qp) = (List.range (qs.length - 1)).all fun k => decide (dirR qs k ≠ 0) := by
  unfold lmB; rw [hg.mapB, dec_qp, List.length_map]; rfl
theorem lmB_no {ps : List Pt} (h : mapB ps = false) : lmB ps = false := by unfold lmB; rw [h]; rfl
structure LMap (qs : List QP) : Prop extends GMap qs where
  dirs : ∀ k, k + 1 < qs.length → dirR qs k ≠ 0
theorem lmB_yes {qs : List QP} (hg : GMap qs) : lmB (qs.map qp) = true ↔ LMap qs := by
  rw [lmB_map hg, List.all_eq_true]
  refine ⟨fun h => ⟨hg, fun k hk => of_decide_eq_true (h k (List.mem_range.2 (by omega)))⟩, fun h k hk => decide_eq_true (h.dirs k (by have := List.mem_range.1 hk; omega))⟩
theorem lmB_of {ps : List Pt} (h : lmB ps = true) : ∃ qs, ps = qs.map qp ∧ LMap qs := by
  have hm : mapB ps = true := by unfold lmB at h; cases hm : mapB ps <;> simp_all
  obtain ⟨qs, rfl, hg⟩ := gmap_of hm
  exact ⟨qs, rfl, (lmB_yes hg).1 h⟩
theorem LMap.lmB {qs : List QP} (h : LMap qs) : lmB (qs.map qp) = true := (lmB_yes h.toGMap).2 h
/-- The laps of a map. -/
def lapsQ (qs : List QP) : List Lap := lapsK (dirR qs) (qs.length - 1)
theorem LMap.lap {qs : List QP} (h : LMap qs) {r : Lap} (hr : r ∈ lapsQ qs) : LapOK (dirR qs) (qs.length - 1) r ∧ r.2.2 ≠ 0 := by
  refine ⟨lapsK_ok _ _ r hr, ?_⟩
  exact (lapsK_all (dirR qs) (fun x => x ≠ 0) (qs.length - 1)).2 (fun j hj => h.dirs j (by omega)) r hr
theorem lapsQ_dirs {qs : List QP} (hg : GMap qs) : LMap qs ↔ ∀ r ∈ lapsQ qs, r.2.2 ≠ 0 := by
  refine ⟨fun h r hr => (h.lap hr).2, fun h => ⟨hg, fun k hk => ?_⟩⟩
  exact (lapsK_all (dirR qs) (fun x => x ≠ 0) (qs.length - 1)).1 h k (by omega)

theorem cq_trans' {a b c : Rat} {e : Int} (h1 : cq b a = e) (h2 : cq c b = e) : cq c a = e := by
  unfold cq at *
  by_cases a1 : b < a
  · rw [if_pos a1] at h1
    by_cases b1 : c < b
    · rw [if_pos (by grind)]; exact h1
    · rw [if_neg b1] at h2
      split at h2 <;> omega
  · rw [if_neg a1] at h1
    by_cases a2 : a < b
    · rw [if_pos a2] at h1
      by_cases b1 : c < b
      · rw [if_pos b1] at h2; omega
      · rw [if_neg b1] at h2
        by_cases b2 : b < c
        · rw [if_neg (by grind), if_pos (by grind)]; exact h1
        · rw [if_neg b2] at h2; omega
    · rw [if_neg a2] at h1
      have : a = b := by grind
      subst this
      exact h2
/-- From the first to the last point of a lap the values go in its direction. -/
theorem dir_far {qs : List QP} {e : Int} {a : Nat} : ∀ n, (∀ j, a ≤ j → j < a + n + 1 → dirR qs j = e) → cq (qAt qs (a + n + 1)).2 (qAt qs a).2 = e
  | 0, h => h a (Nat.le_refl _) (by omega)
  | n + 1, h => cq_trans' (dir_far n fun j h1 h2 => h j h1 (by omega)) (h (a + n + 1) (by omega) (by omega))
theorem LapOK.sign {qs : List QP} {k : Nat} {r : Lap} (h : LapOK (dirR qs) k r) : cq (qAt qs r.2.1).2 (qAt qs r.1).2 = r.2.2 := by
  have h1 := h.lt
  have h2 := dir_far (qs := qs) (e := r.2.2) (a := r.1) (r.2.1 - r.1 - 1) fun j h3 h4 => h.dir j h3 (by omega)
  rw [show r.1 + (r.2.1 - r.1 - 1) + 1 = r.2.1 by omega] at h2
  exact h2

/-- The address of a fraction. -/
def adQ (qs : List QP) (x : Rat) : Nat := (lapsQ qs).findIdx fun r => !decide ((qAt qs r.2.1).1 < x)
theorem lapsQ_lastX {qs : List QP} (hg : GMap qs) : ∃ r, (lapsQ qs)[(lapsQ qs).length - 1]? = some r ∧ r.2.1 + 1 = qs.length := by
  have hlo := hg.lo
  obtain ⟨k, hk⟩ : ∃ k, qs.length - 1 = k + 1 := ⟨qs.length - 2, by omega⟩
  refine ⟨lapLast (dirR qs) k, ?_, ?_⟩
  · unfold lapsQ; rw [hk]; exact lapsK_last _ _
  · rw [lapLast_snd]; omega
theorem lapsQ_pos {qs : List QP} (hg : GMap qs) : 1 ≤ (lapsQ qs).length := by
  obtain ⟨r, hr, _⟩ := lapsQ_lastX hg
  rcases Nat.lt_or_ge 0 (lapsQ qs).length with h | h
  · exact h
  · rw [List.getElem?_eq_none (by omega)] at hr; cases hr
theorem lapsQ_len {qs : List QP} (hg : GMap qs) : (lapsQ qs).length ≤ 11 := by
  have := hg.hi
  have h1 := hg.lo
  obtain ⟨k, hk⟩ : ∃ k, qs.length - 1 = k + 1 := ⟨qs.length - 2, by omega⟩
  have h2 := lapInit_len (d := dirR qs) k
  unfold lapsQ; rw [hk]
  show (lapInit (dirR qs) k ++ [lapLast (dirR qs) k]).length ≤ 11
  rw [List.length_append, List.length_singleton]; omega
theorem adQ_lt {qs : List QP} (hg : GMap qs) {x : Rat} (hx : x ≤ 1) : adQ qs x < (lapsQ qs).length := by
  unfold adQ
  obtain ⟨r, hr, hl⟩ := lapsQ_lastX hg
  refine List.findIdx_lt_length_of_exists ⟨r, List.mem_iff_getElem?.2 ⟨_, hr⟩, ?_⟩
  have hlast := hg.last
  rw [show qs.length - 1 = r.2.1 by omega] at hlast
  simp only [hlast, Bool.not_eq_true', decide_eq_false_iff_not]
  grind
/-- The first lap from place k on that has it is the address, if none before has. -/
theorem adQ_at {qs : List QP} {x : Rat} {k : Nat} {r : Lap} (hr : (lapsQ qs)[k]? = some r) (h1 : ∀ j s, j < k → (lapsQ qs)[j]? = some s → (qAt qs s.2.1).1 < x) (h2 : ¬ (qAt qs r.2.1).1 < x) : adQ qs x = k := by
  have hk : k < (lapsQ qs).length := by
    rcases Nat.lt_or_ge k (lapsQ qs).length with h | h
    · exact h
    · rw [List.getElem?_eq_none h] at hr; cases hr
  have e : (lapsQ qs)[k] = r := by rw [List.getElem?_eq_getElem hk] at hr; exact Option.some.inj hr
  unfold adQ
  rw [List.findIdx_eq hk]
  refine ⟨by rw [e]; simpa using h2, fun j hj => ?_⟩
  have := h1 j (lapsQ qs)[j] hj (List.getElem?_eq_getElem _)
  simpa using this
end Go.Proofs.Ythccdooacbablab

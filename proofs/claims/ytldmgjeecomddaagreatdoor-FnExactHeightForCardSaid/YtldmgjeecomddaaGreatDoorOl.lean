/-
  Chapter 4: LimitCycle of both; the cycle of a fraction that is met again.
-/
import Derived.Test.YtldmgjeecomddaaGreatDoorOq
import Derived.Test.YtldmgjeecomddaaGreatDoorRs
namespace Go.Proofs.YtldmgjeecomddaaGreatDoor
open Go.RowKit Rm

/-- The cycle of an orbit. -/
def cyL (l : List Rat) (r : Nat × Nat) : List Rat := (l.drop r.1).take r.2
def lcO (ps : List Pt) (a b m : Int) : Option (List Rat) := (orbO ps a b m).bind fun l => (perO l).map (cyL l)
theorem lcO_none {ps : List Pt} {a b m : Int} (h : peO ps a b m = none) : lcO ps a b m = none := by
  unfold peO at h
  unfold lcO
  cases ho : orbO ps a b m with
  | none => rfl
  | some l =>
    rw [ho] at h
    have h' : perO l = none := h
    show (perO l).map (cyL l) = none
    rw [h']; rfl
theorem lcO_some {ps : List Pt} {a b m : Int} {l : List Rat} {r : Nat × Nat} (ho : orbO ps a b m = some l) (h : perO l = some r) : lcO ps a b m = some (cyL l r) := by
  unfold lcO; rw [ho]
  show (perO l).map (cyL l) = _
  rw [h]; rfl
theorem cyL_len {l : List Rat} {a b : Nat} (h : a + b ≤ l.length) : (cyL l (a, b)).length = b := by
  unfold cyL; simp; omega
theorem cyL_get {l : List Rat} {a b i : Nat} (hi : i < b) : (cyL l (a, b)).getD i 0 = l.getD (a + i) 0 := by
  unfold cyL
  simp only [List.getD_eq_getElem?_getD, List.getElem?_take, if_pos hi, List.getElem?_drop]
theorem cyL_take {l : List Rat} {a b : Nat} : cyL (l.take (a + b + 1)) (a, b) = cyL l (a, b) := by
  unfold cyL
  show ((l.take (a + b + 1)).drop a).take b = (l.drop a).take b
  rw [List.drop_take, List.take_take, show min b (a + b + 1 - a) = b by omega]
/-- What is known where an orbit has a period. -/
theorem per_parts {qs : List QP} {x : Rat} {k a b : Nat} (hO : Orb qs x k (run qs k x)) (h : perO (run qs k x) = some (a, b)) : 1 ≤ b ∧ a + b ≤ k ∧ Orb qs x (a + b) (run qs (a + b) x) ∧ run qs (a + b) x = (run qs k x).take (a + b + 1) ∧ (run qs k x).getD a 0 = (run qs k x).getD (a + b) 0 ∧ ∀ t, t < a → (run qs k x).getD t 0 ≠ (run qs k x).getD (a + b) 0 := by
  unfold perO at h
  obtain ⟨h1, h2, h3, _⟩ := perK_bd h
  rw [hO.len] at h2
  obtain ⟨i1, i2, i3⟩ := ixOf_lt _ _ _ h3
  have ht := run_take qs k (a + b) x (by omega) hO.len
  have hk := hO.hk
  refine ⟨h1, by omega, ⟨hO.map, hO.un, by omega, rfl, ?_, fun i hi => ?_⟩, ht, ?_, fun t ht' => ?_⟩
  · rw [ht, List.length_take, hO.len]; omega
  · rw [ht, getD_take hi]; exact hO.all i (by omega)
  · rw [getD_take (by omega)] at i2; exact i2
  · have := i3 t ht'; rw [getD_take (by omega)] at this; exact this
theorem orb_full {qs : List QP} {x : Rat} {k : Nat} (hO : Orb qs x k (run qs k x)) : orbO (qs.map qp) x.num x.den k = some (run qs k x) := by
  unfold orbO
  rw [runO_map hO.map hO.un hO.hk]
  show (if _ then _ else _) = _
  rw [if_pos (by rw [hO.len]; simp)]

theorem rsl_part {w : World} {base gs N d a b : Nat} {l : List Rat} (h : w.ownsRow base 23 2 (.slice (some ⟨gs, 0, none⟩) N d) N (frcs (l.map qf))) (hab : a + b ≤ N) : RSl w base (some ⟨gs, a * 2, none⟩) b ((cyL l (a, b)).map qf) := by
  have hl := own_lenR h
  have hC := rcells_own h
  have hcl := cyL_len (l := l) (a := a) (b := b) (by omega)
  refine ⟨by rw [List.length_map, hcl], .inr ⟨gs, a * 2, rfl, (h.lt gs rfl).1, (h.lt gs rfl).2, fun i hi => ?_⟩⟩
  rw [qAtR _ _ (by rw [hcl]; exact hi), cyL_get hi, show a * 2 + i * 2 = (a + i) * 2 by omega]
  exact ⟨hC.at0 (a + i) (by omega), hC.at1 (a + i) (by omega)⟩
theorem rsl_none (w : World) (base : Nat) : RSl w base none 0 [] := ⟨rfl, .inl ⟨rfl, rfl⟩⟩

theorem LimitCycle_len (ps : List Pt) (a b m : Int) : (((lcO ps a b m).getD []).map qf).length ≤ 1048576 := by
  rcases hp : peO ps a b m with _ | ⟨pa, pb⟩
  · rw [lcO_none hp]; simp
  · rcases orb_cases ps a b m with ⟨_, _, ho⟩ | ⟨qs, x, k, rfl, hg, rfl, rfl, hx, rfl, hk, hr, _, ⟨_, _, ho⟩ | ⟨hO, ho⟩⟩
    · rw [peO_none ho] at hp; cases hp
    · rw [peO_none ho] at hp; cases hp
    · rw [peO_some ho] at hp
      rw [lcO_some ho hp]
      obtain ⟨hb1, hab, _, _, _, _⟩ := per_parts hO hp
      simp only [Option.getD_some, List.length_map]
      rw [cyL_len (by rw [hO.len]; omega)]
      omega
end Go.Proofs.YtldmgjeecomddaaGreatDoor

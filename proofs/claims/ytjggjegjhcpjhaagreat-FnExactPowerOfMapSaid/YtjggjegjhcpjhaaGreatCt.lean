/-
  Chapter 5: slices.SortFunc at fractions in order, off the library's own contract.
-/
import Derived.Test.YtjggjegjhcpjhaaGreatShelf
import Derived.Test.YtjggjegjhcpjhaaGreatO
import Derived.Test.YtjggjegjhcpjhaaGreatFc
import Derived.Test.YtjggjegjhcpjhaaGreatCm
namespace Go.Proofs.YtjggjegjhcpjhaaGreat
open Go.RowKit Rm

set_option maxRecDepth 100000 in
theorem orderOf_ex (a b c d : Int) (w : World) (a1 : -1000000000 ≤ a) (a2 : a ≤ 1000000000) (b1 : 0 ≤ b) (b2 : b ≤ 1000000000) (c1 : -1000000000 ≤ c) (c2 : c ≤ 1000000000) (d1 : 0 ≤ d) (d2 : d ≤ 1000000000) :
    Calls Tryz.prog 89 #[.agg #[.int .i64 (a), .int .i64 (b)], .agg #[.int .i64 (c), .int .i64 (d)]] w fun e w' => e = .returned (.int .i64 (cmpI (a * d) (c * b))) ∧ ∃ q os', w' = Go.Sort.grow (w.drewN q) os' := by
  obtain ⟨e1, e2⟩ := prod_bd (a := a) (d := d) (by omega) (by omega) (by omega) (by omega)
  obtain ⟨e3, e4⟩ := prod_bd (a := c) (d := b) (by omega) (by omega) (by omega) (by omega)
  go_enter Tryz.func89, Tryz.ntmps89
  go_wp2_with (go_at_call 70; (with_reducible refine (compare_any _ _ _).mono ?_); rintro e w' ⟨rfl, rfl⟩)
  go_ret
  exact ⟨rfl, 0, _, by rw [Go.Sort.alloc_eq_grow, Go.Sort.alloc_eq_grow, Go.Sort.grow_grow]; rfl⟩
/-- Fractions of bounded size. -/
abbrev FR : Type := {r : Rat // fits r = true}
instance : Inhabited FR := ⟨⟨0, by decide +kernel⟩⟩
def encF (x : FR) : List Value := [.int .i64 x.1.num, .int .i64 x.1.den]
def cfF (x y : FR) : Int := cq x.1 y.1
theorem ltF_of (x y : FR) : Go.Proofs.ltOf cfF x y = decide (x.1 < y.1) := by
  unfold Go.Proofs.ltOf cfF
  by_cases h : x.1 < y.1
  · rw [decide_eq_true (cq_lt.2 h), decide_eq_true h]
  · rw [decide_eq_false (fun e => h (cq_lt.1 e)), decide_eq_false h]
theorem swoF : Go.Sort.SWO (Go.Proofs.ltOf cfF) where
  irrefl x := by rw [ltF_of]; exact decide_eq_false Rat.lt_irrefl
  trans x y z h1 h2 := by rw [ltF_of] at *; have := of_decide_eq_true h1; have := of_decide_eq_true h2; exact decide_eq_true (by grind)
  ntrans x y z h1 h2 := by rw [ltF_of] at *; have := of_decide_eq_false h1; have := of_decide_eq_false h2; exact decide_eq_false (by grind)
theorem cmpF (blk off size : Nat) (w : World) : Go.Proofs.CmpLays Tryz.prog 89 #[] encF 2 cfF blk off size w := by
  intro m os dk _ x y
  have h1 := fits_iff.1 x.2
  have h2 := fits_iff.1 y.2
  have h3 := den_pos' x.1
  have h4 := den_pos' y.1
  refine (orderOf_ex x.1.num x.1.den y.1.num y.1.den _ (by omega) (by omega) (by omega) (by omega) (by omega) (by omega) (by omega) (by omega)).mono ?_
  rintro e w' ⟨rfl, h⟩
  exact ⟨by rw [cmpI_cq]; rfl, h⟩
theorem flat_get2 (d : Array FR) (t : Nat) (h : t < d.size * 2) : (Go.Sort.flatK encF 2 d).toList[t]? = some ((encF d[t / 2]!)[t % 2]!) := by
  unfold Go.Sort.flatK
  simp [h]
theorem flat_frcs (d : Array FR) : (Go.Sort.flatK encF 2 d).toList = frcs ((d.toList.map (·.1)).map qf) := by
  apply List.ext_getElem?
  intro t
  by_cases ht : t < d.size * 2
  · rw [flat_get2 d t ht]
    have hi : t / 2 < d.size := by omega
    have e : t = t / 2 * 2 + t % 2 := by omega
    conv => rhs; rw [e]
    rw [frcs_get _ (t / 2) (t % 2) (by simpa using hi) (by omega)]
    have ef : fAt ((d.toList.map (·.1)).map qf) (t / 2) = qf d[t / 2]!.1 := by simp [fAt, hi]
    rw [ef]
    have hm : t % 2 = 0 ∨ t % 2 = 1 := by omega
    rcases hm with h | h <;> rw [h] <;> rfl
  · rw [List.getElem?_eq_none (by simp [Go.Sort.flatK]; omega), List.getElem?_eq_none (by rw [frcs_len]; simp; omega)]
/-- A list of fractions of bounded size as an array. -/
def arF (l : List Rat) (h : ∀ z ∈ l, fits z = true) : Array FR := (l.attach.map fun z => (⟨z.1, h z.1 z.2⟩ : FR)).toArray
theorem arF_list (l : List Rat) (h : ∀ z ∈ l, fits z = true) : (arF l h).toList.map (·.1) = l := by
  show List.map _ (List.map _ l.attach) = l
  rw [List.map_map]
  exact List.attach_map_subtype_val l
theorem arF_size (l : List Rat) (h : ∀ z ∈ l, fits z = true) : (arF l h).size = l.length := by
  show (l.attach.map _).length = l.length
  rw [List.length_map, List.length_attach]
theorem holdsF {w : World} {base g n c : Nat} {l : List Rat} (ha : w.ownsRow base 37 2 (.slice (some ⟨g, 0, none⟩) n c) n (frcs (l.map qf))) (h : ∀ z ∈ l, fits z = true) : Go.Sort.HoldsK encF 2 w g 0 (arF l h) := by
  intro j hj
  rw [Go.Sort.size_flatK, arF_size] at hj
  have hl : l.length * 2 = n * 2 := by have := ha.1; rw [frcs_len, List.length_map] at this; exact this
  refine ⟨?_, ?_⟩
  · rw [Nat.zero_add, ha.cellAt j (by omega)]
    have e := flat_frcs (arF l h)
    rw [arF_list] at e
    rw [← e]
    have hs : j < (Go.Sort.flatK encF 2 (arF l h)).size := by rw [Go.Sort.size_flatK, arF_size]; exact hj
    rw [Array.getElem?_toList, Array.getElem?_eq_getElem hs, getElem!_pos _ j hs]
    rfl
  · rw [Nat.zero_add]; exact ha.frozenAt j
theorem putF {w : World} {base g n c m : Nat} {xs : List Value} {d : Array FR} {os : Array Obj} (ha : w.ownsRow base 37 2 (.slice (some ⟨g, 0, none⟩) n c) n xs) (hd : d.size = n) :
    (Go.Proofs.sortWorldK encF 2 w g 0 m d os).ownsRow base 37 2 (.slice (some ⟨g, 0, none⟩) n c) n (frcs ((d.toList.map (·.1)).map qf)) ∧ w.grownBy (Go.Proofs.sortWorldK encF 2 w g 0 m d os) (some g) := by
  have hlt := (ha.lt g rfl).2
  have hheap : ∀ k, k < w.heap.size → (Go.Proofs.sortWorldK encF 2 w g 0 m d os).heap[k]? = (w.heap.modify g (Go.Sort.onCells (Go.Sort.putCells id 0 (Go.Sort.flatK encF 2 d))))[k]? := by
    intro k hk
    show ((w.heap.modify g (Go.Sort.onCells (Go.Sort.putCells id 0 (Go.Sort.flatK encF 2 d)))) ++ os)[k]? = _
    rw [Array.getElem?_append_left (by simpa using hk)]
  refine ⟨?_, ⟨rfl, rfl, rfl, ?_, fun k hk hne => ?_⟩⟩
  · rcases ha.2 with ⟨hv, _⟩ | ⟨g', cap, cur, hv, hB, hh, h1, h2, h3, h4⟩
    · cases hv
    · injection hv with e1 _ e3
      obtain rfl : g = g' := (Addr.mk.inj (Option.some.inj e1)).1
      subst e3
      refine ⟨by rw [frcs_len]; simp [hd], .inr ⟨g, c, Go.Sort.putCells id 0 (Go.Sort.flatK encF 2 d) cur, rfl, hB, ?_, h1, h2, by simp [Go.Sort.putCells, h3], ?_⟩⟩
      · rw [hheap g hlt, Array.getElem?_modify, if_pos rfl, hh]; rfl
      · rw [← flat_frcs]
        apply List.ext_getElem?
        intro t
        by_cases ht : t < n * 2
        · have htc : t < cur.size := by rw [h3]; have := Nat.mul_le_mul_right 2 h1; omega
          rw [List.getElem?_take, if_pos ht, flat_get2 d t (by omega)]
          simp only [Go.Sort.putCells, Array.getElem?_toList, Array.getElem?_mapIdx, Array.getElem?_eq_getElem htc, Option.map_some]
          rw [if_pos ⟨Nat.zero_le _, by rw [Go.Sort.size_flatK]; omega⟩, Nat.sub_zero, Go.Sort.get_flatK _ _ _ _ (by omega)]
          rfl
        · rw [List.getElem?_take, if_neg ht, List.getElem?_eq_none (by simp [Go.Sort.flatK]; omega)]
  · show w.heap.size ≤ ((w.heap.modify g (Go.Sort.onCells (Go.Sort.putCells id 0 (Go.Sort.flatK encF 2 d)))) ++ os).size
    simp
  · rw [hheap k hk, Array.getElem?_modify, if_neg (fun e => hne (by rw [e]))]
/-- slices.SortFunc by orderOf: the same fractions in order. -/
theorem sortRat_any (g n c base : Nat) (l : List Rat) (w : World) (ha : w.ownsRow base 37 2 (.slice (some ⟨g, 0, none⟩) n c) n (frcs (l.map qf))) (hf : ∀ z ∈ l, fits z = true) (hn : n ≤ 100000) :
    Calls Tryz.prog 138 #[.slice (some ⟨g, 0, none⟩) n c, .func (.func 89) #[] #[]] w fun e w' => e = .returned (.tuple #[]) ∧
      (∃ l' : List Rat, l'.Perm l ∧ (∀ i, i + 1 < l'.length → l'.getD i 0 ≤ l'.getD (i + 1) 0) ∧ w'.ownsRow base 37 2 (.slice (some ⟨g, 0, none⟩) n c) n (frcs (l'.map qf))) ∧ w.grownBy w' (some g) := by
  have hsz : (arF l hf).size = n := by have := ha.1; rw [frcs_len, List.length_map] at this; rw [arF_size]; omega
  have eg : ∀ args w, (callFunc 89 args).run Tryz.prog w = .ok (.enter 89 args) w := enters_of Tryz.func89 (by kernel_rfl) rfl
  have h := Go.Proofs.AnyQ.slices_SortFunc Go.Proofs.Tryz.sortRat 2 Tryz.isAgg37 Tryz.sizeOf37 encF (fun _ => rfl) (fun x v hv => by simp only [encF, List.mem_cons, List.not_mem_nil, or_false] at hv; rcases hv with rfl | rfl <;> rfl) cfF swoF 89 #[] g 0 c (arF l hf) w eg (cmpF g 0 _ w) (holdsF ha hf) (ha.lt g rfl).2 (by omega)
  rw [hsz] at h
  change Calls Tryz.prog 138 _ _ _ at h
  refine h.mono ?_
  rintro e w' ⟨rfl, d', m, os, hp, hs, rfl⟩
  have hd : d'.size = n := hp.1.trans hsz
  obtain ⟨h1, h2⟩ := putF (m := m) (os := os) ha hd
  refine ⟨rfl, ⟨d'.toList.map (·.1), ?_, ?_, h1⟩, h2⟩
  · have hp' := hp.2.2
    rw [show d'.extract 0 n = d' by rw [← hd]; exact Array.extract_size .., show (arF l hf).extract 0 n = arF l hf by rw [← hsz]; exact Array.extract_size ..] at hp'
    have := hp'.map (·.1)
    rwa [arF_list] at this
  · intro i hi
    rw [List.length_map, Array.length_toList] at hi
    have h3 := hs i (i + 1) (Nat.zero_le _) (by omega) (by omega)
    rw [ltF_of] at h3
    have h4 := of_decide_eq_false h3
    have e : ∀ j, j < d'.size → (d'.toList.map (·.1)).getD j 0 = d'[j]!.1 := fun j hj => by simp [hj]
    rw [e i (by omega), e (i + 1) hi]
    exact Rat.not_lt.1 h4
end Go.Proofs.YtjggjegjhcpjhaaGreat

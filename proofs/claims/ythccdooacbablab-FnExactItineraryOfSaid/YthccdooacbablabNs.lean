/-
  Slices of integers, and slices of such slices that the call has made.
-/
import Derived.Test.YthccdooacbablabSl
import Derived.Deep.Onto
namespace Go.Proofs.Ythccdooacbablab
open Go.RowKit Rm

def ints (r : List Int) : List Value := r.map (Value.int .i64)
theorem ints_len (r : List Int) : (ints r).length = r.length := List.length_map ..
theorem ints_at {r : List Int} {k : Nat} {x : Int} (h : r[k]? = some x) : (ints r)[k]? = some (.int .i64 x) := by unfold ints; rw [List.getElem?_map, h]; rfl
theorem iInt : (Try.prog.info? 3).map (fun i => (i.zero, i.size, i.bytes)) = some (some (.int .i64 0), 1, 8) := by kernel_rfl
theorem iInts : (Try.prog.info? 26).map (fun i => (i.zero, i.size, i.bytes)) = some (some (.slice none 0 0), 1, 24) := by kernel_rfl
/-- The cell of element k. -/
theorem int_cell {w : World} {base : Nat} {A : Option Addr} {n c : Nat} {r : List Int} {k : Nat} {x : Int} (h : w.ownsRow base 3 1 (.slice A n c) n (ints r)) (hk : r[k]? = some x) :
    ∃ g, A = some ⟨g, 0, none⟩ ∧ g < w.heap.size ∧ base ≤ g ∧ w.cell? ⟨g, k, none⟩ = some (.int .i64 x) ∧ w.frozen? ⟨g, k, none⟩ = false := by
  have hl : r.length = n := by have := h.1; rw [ints_len] at this; omega
  have hkn : k < n := by
    rcases Nat.lt_or_ge k r.length with h1 | h1
    · omega
    · rw [List.getElem?_eq_none h1] at hk; cases hk
  obtain ⟨g, cap, hv, _, hlt⟩ := h.form (by omega)
  have hA : A = some ⟨g, 0, none⟩ ∧ c = cap := by injection hv with h1 _ h2; exact ⟨h1, h2⟩
  obtain ⟨rfl, rfl⟩ := hA
  exact ⟨g, rfl, hlt, (h.lt g rfl).1, (h.cellAt k (by omega)).trans (ints_at hk), h.frozenAt k⟩

/-- The value of a row of integers that lies alone in a block. -/
def rowV (b : Nat) (r : List Int) : Value := .slice (some ⟨b, 0, none⟩) r.length r.length
/-- A slice of rows of integers in new memory: each row has a block of its own. -/
structure Nest (W : World) (B : Nat) (v : Value) (bs : List Nat) (rows : List (List Int)) : Prop where
  len : bs.length = rows.length
  outer : W.ownsRow B 26 1 v rows.length (List.zipWith rowV bs rows)
  row : ∀ (i b : Nat) (r : List Int), bs[i]? = some b → rows[i]? = some r → W.ownsRow B 3 1 (rowV b r) r.length (ints r)
  sep : ∀ b ∈ bs, v.ownBlock ≠ some b
  nodup : bs.Nodup
theorem own_kept' {w w' : World} {base : Nat} {e : TypeId} {size : Nat} {v : Value} {n : Nat} {xs : List Value} {row : Option Nat} (h : w.ownsRow base e size v n xs) (hg : w.grownBy w' row) (hne : ∀ k, v.ownBlock = some k → some k ≠ row) : w'.ownsRow base e size v n xs := by
  refine h.kept hg ?_
  cases hv : v.ownBlock with
  | none => exact .inl rfl
  | some k => exact .inr (hne k hv)
theorem Nest.kept {W W' : World} {B : Nat} {v : Value} {bs : List Nat} {rows : List (List Int)} {row : Option Nat} (h : Nest W B v bs rows) (hg : W.grownBy W' row)
    (hv : ∀ k, v.ownBlock = some k → some k ≠ row) (hb : ∀ b ∈ bs, some b ≠ row) : Nest W' B v bs rows :=
  ⟨h.len, own_kept' h.outer hg hv, fun i b r h1 h2 => own_kept' (h.row i b r h1 h2) hg (fun k hk => by
    obtain rfl : b = k := Option.some.inj hk
    exact hb b (List.mem_iff_getElem?.2 ⟨i, h1⟩)), h.sep, h.nodup⟩
theorem Nest.below {W W' : World} {B : Nat} {v : Value} {bs : List Nat} {rows : List (List Int)} (h : Nest W B v bs rows) (hb : Below W.heap.size W W') : Nest W' B v bs rows :=
  h.kept (row := none) ⟨hb.os, hb.tape, hb.output, hb.size, fun i hi _ => hb.block i hi⟩ (fun _ _ => by simp) (fun _ _ => by simp)
theorem Nest.mono {W : World} {B B' : Nat} {v : Value} {bs : List Nat} {rows : List (List Int)} (h : Nest W B v bs rows) (hb : B' ≤ B) : Nest W B' v bs rows :=
  ⟨h.len, h.outer.mono hb, fun i b r h1 h2 => (h.row i b r h1 h2).mono hb, h.sep, h.nodup⟩
theorem Nest.lt {W : World} {B : Nat} {v : Value} {bs : List Nat} {rows : List (List Int)} (h : Nest W B v bs rows) {b : Nat} (hb : b ∈ bs) : B ≤ b ∧ b < W.heap.size := by
  obtain ⟨i, hi⟩ := List.mem_iff_getElem?.1 hb
  have hil : i < bs.length := by
    rcases Nat.lt_or_ge i bs.length with h1 | h1
    · exact h1
    · rw [List.getElem?_eq_none h1] at hi; cases hi
  have hr : rows[i]? = some (rows[i]'(by rw [← h.len]; exact hil)) := List.getElem?_eq_getElem _
  exact (h.row i b _ hi hr).lt b rfl
theorem Nest.nil (W : World) (B : Nat) : Nest W B (.slice none 0 0) [] [] := ⟨rfl, World.ownsRow_nil _ _ _ _, fun i b r h _ => by simp at h, fun b h => by simp at h, List.nodup_nil⟩
/-- Row i. -/
theorem Nest.at {W : World} {B : Nat} {A : Option Addr} {n c : Nat} {bs : List Nat} {rows : List (List Int)} (h : Nest W B (.slice A n c) bs rows) {i : Nat} {r : List Int} (hr : rows[i]? = some r) :
    ∃ go b : Nat, A = some ⟨go, 0, none⟩ ∧ bs[i]? = some b ∧ i < n ∧ n = rows.length ∧ go < W.heap.size ∧ b < W.heap.size ∧ B ≤ b ∧ go ≠ b ∧ W.cell? ⟨go, i, none⟩ = some (.slice (some ⟨b, 0, none⟩) r.length r.length) ∧
      (∀ (k : Nat) (x : Int), r[k]? = some x → W.cell? ⟨b, k, none⟩ = some (.int .i64 x) ∧ W.frozen? ⟨b, k, none⟩ = false) := by
  have hil : i < rows.length := by
    rcases Nat.lt_or_ge i rows.length with h1 | h1
    · exact h1
    · rw [List.getElem?_eq_none h1] at hr; cases hr
  obtain ⟨go, cap, hv, _, hlt⟩ := h.outer.form (by omega)
  have hA : A = some ⟨go, 0, none⟩ ∧ n = rows.length ∧ c = cap := by injection hv with h1 h0 h2; exact ⟨h1, h0, h2⟩
  obtain ⟨rfl, rfl, rfl⟩ := hA
  have hib : i < bs.length := by rw [h.len]; exact hil
  have hb : bs[i]? = some bs[i] := List.getElem?_eq_getElem hib
  have hm : bs[i] ∈ bs := List.getElem_mem hib
  have hl := h.lt hm
  have hc := h.outer.cellAt i (by omega)
  rw [List.getElem?_zipWith, hb, hr] at hc
  refine ⟨go, bs[i], rfl, hb, hil, rfl, hlt, hl.2, hl.1, fun e => h.sep _ hm (by rw [← e]; rfl), hc, fun k x hx => ?_⟩
  obtain ⟨g, hg, _, _, h1, h2⟩ := int_cell (h.row i _ r hb hr) hx
  obtain rfl : bs[i] = g := (Addr.mk.inj (Option.some.inj hg)).1
  exact ⟨h1, h2⟩
theorem zipWith_snoc {α β γ : Type} (f : α → β → γ) : ∀ (xs : List α) (ys : List β) (a : α) (b : β), xs.length = ys.length → List.zipWith f (xs ++ [a]) (ys ++ [b]) = List.zipWith f xs ys ++ [f a b]
  | [], [], _, _, _ => rfl
  | [], _ :: _, _, _, h => by simp at h
  | _ :: _, [], _, _, h => by simp at h
  | x :: xs, y :: ys, a, b, h => by simp only [List.cons_append, List.zipWith_cons_cons, zipWith_snoc f xs ys a b (by simpa using h)]
/-- A row appended: its own block, a block that holds it for append, and append. -/
theorem Nest.snoc {W w4 : World} {B : Nat} {v : Value} {bs : List Nat} {rows : List (List Int)} (h : Nest W B v bs rows) (r : List Int) (cs : Array Value) (hcs : cs.toList = ints r) (hr : r.length ≤ maxLen) (hB : B ≤ W.heap.size) (o : Obj) {g n cap : Nat}
    (hown : w4.ownsRow B 26 1 (.slice (some ⟨g, 0, none⟩) n cap) (rows.length + 1) (List.zipWith rowV bs rows ++ [rowV W.heap.size r]))
    (hgrow : ((W.alloc (.cells cs 3)).alloc o).grownBy w4 v.ownBlock) (hat : v.ownBlock = some g ∨ g = W.heap.size + 1 + 1) :
    Nest w4 B (.slice (some ⟨g, 0, none⟩) n cap) (bs ++ [W.heap.size]) (rows ++ [r]) := by
  have hsz : ∀ k, v.ownBlock = some k → k < W.heap.size := fun k hk => (h.outer.lt k hk).2
  have hnew : (W.alloc (.cells cs 3)).ownsRow B 3 1 (rowV W.heap.size r) r.length (ints r) := by
    have := World.ownsRow_lit (base := B) (e := 3) (size := 1) W cs r.length hB hr (by rw [← Array.length_toList, hcs, ints_len]; omega)
    rw [hcs] at this
    exact this
  refine ⟨by simp [h.len], ?_, fun i b s hb hs => ?_, fun b hb e => ?_, ?_⟩
  · rw [zipWith_snoc _ _ _ _ _ h.len, List.length_append]; exact hown
  · rcases Nat.lt_trichotomy i bs.length with hi | hi | hi
    · rw [List.getElem?_append_left hi] at hb
      rw [List.getElem?_append_left (by rw [← h.len]; exact hi)] at hs
      have hm : b ∈ bs := List.mem_iff_getElem?.2 ⟨i, hb⟩
      exact own_kept' (((h.row i b s hb hs).alloc _).alloc _) hgrow (fun k hk e => by
        obtain rfl : b = k := Option.some.inj hk
        exact h.sep b hm e.symm)
    · subst hi
      have e1 : b = W.heap.size := by simpa using hb.symm
      have e2 : s = r := by rw [h.len] at hs; simpa using hs.symm
      subst e1 e2
      exact own_kept' (hnew.alloc _) hgrow (fun k hk e => by
        obtain rfl : W.heap.size = k := Option.some.inj hk
        have := hsz _ e.symm; omega)
    · rw [List.getElem?_eq_none (by simp; omega)] at hb; cases hb
  · have e' : g = b := Option.some.inj e
    subst e'
    rcases List.mem_append.1 hb with hm | hm
    · rcases hat with h1 | h1
      · exact h.sep _ hm h1
      · have := (h.lt hm).2; omega
    · have e1 : g = W.heap.size := by simpa using hm
      rcases hat with h1 | h1
      · have := hsz _ h1; omega
      · omega
  · rw [List.nodup_append]
    refine ⟨h.nodup, by simp, fun a ha b hb => ?_⟩
    have := (h.lt ha).2
    have e1 : b = W.heap.size := by simpa using hb
    omega
/-- An element of the last row stored. -/
theorem Nest.put {W : World} {B : Nat} {v : Value} {bs : List Nat} {rows : List (List Int)} {r : List Int} {b : Nat} (h : Nest W B v bs (rows ++ [r])) (hb : bs[rows.length]? = some b) (j : Nat) (x : Int) :
    Nest (W.setCell ⟨b, j, none⟩ (.int .i64 x)) B v bs (rows ++ [r.set j x]) := by
  have hg : W.grownBy (W.setCell ⟨b, j, none⟩ (.int .i64 x)) (some b) := grown_set (World.grownBy.refl W (some b)) j _
  have hlen : bs.length = rows.length + 1 := by rw [h.len, List.length_append]; rfl
  have hm : b ∈ bs := List.mem_iff_getElem?.2 ⟨_, hb⟩
  have hz : List.zipWith rowV bs (rows ++ [r.set j x]) = List.zipWith rowV bs (rows ++ [r]) := by
    apply List.ext_getElem?
    intro i
    rw [List.getElem?_zipWith, List.getElem?_zipWith]
    cases hi : bs[i]? with
    | none => rfl
    | some c =>
      rcases Nat.lt_trichotomy i rows.length with h1 | h1 | h1
      · rw [List.getElem?_append_left h1, List.getElem?_append_left h1]
      · subst h1; simp [rowV]
      · rw [List.getElem?_eq_none (by simp; omega), List.getElem?_eq_none (by simp; omega)]
  refine ⟨by rw [h.len]; simp, ?_, fun i c s hc hs => ?_, h.sep, h.nodup⟩
  · rw [hz]
    have := own_kept' h.outer hg (fun k hk e => h.sep b hm (by rw [hk]; exact e))
    simpa using this
  · rcases Nat.lt_trichotomy i rows.length with h1 | h1 | h1
    · rw [List.getElem?_append_left h1] at hs
      refine own_kept' (h.row i c s hc (by rw [List.getElem?_append_left h1]; exact hs)) hg (fun k hk e => ?_)
      obtain rfl : c = k := Option.some.inj hk
      have e1 : c = b := Option.some.inj e
      subst e1
      have hi1 : i < bs.length := by omega
      have hi2 : rows.length < bs.length := by omega
      have g1 : bs[i] = c := by rw [List.getElem?_eq_getElem hi1] at hc; exact Option.some.inj hc
      have g2 : bs[rows.length] = c := by rw [List.getElem?_eq_getElem hi2] at hb; exact Option.some.inj hb
      have := (List.getElem_inj (h₀ := hi1) (h₁ := hi2) h.nodup).1 (g1.trans g2.symm)
      omega
    · subst h1
      have e1 : c = b := by rw [hb] at hc; exact (Option.some.inj hc).symm
      have e2 : s = r.set j x := by simpa using hs.symm
      subst e1 e2
      have h2 := h.row rows.length c r hb (by simp)
      have h3 := (h2.stored j (.int .i64 x)).1
      have e3 : ints (r.set j x) = (ints r).set j (.int .i64 x) := by unfold ints; rw [List.map_set]
      have e4 : rowV c (r.set j x) = rowV c r := by simp [rowV]
      rw [e3, e4, List.length_set]
      exact h3
    · rw [List.getElem?_eq_none (by simp; omega)] at hs; cases hs
end Go.Proofs.Ythccdooacbablab

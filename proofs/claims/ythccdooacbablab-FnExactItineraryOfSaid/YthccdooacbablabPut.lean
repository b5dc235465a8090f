/-
  Chapter 2's model: a fraction put in its place in a slice of fractions.
-/
import Derived.Test.YthccdooacbablabFm
import Derived.Test.YthccdooacbablabLawS
namespace Go.Proofs.Ythccdooacbablab
open Go.RowKit Rm

/-! ### append of a slice that lies anywhere -/
/-- The value is a slice of m elements whose cells are the given ones. -/
def Lies (w : World) (x : Value) (m : Nat) (news : List Value) : Prop :=
  (x = .slice none 0 0 ∧ m = 0 ∧ news = []) ∨ ∃ (ad : Addr) (c : Nat), x = .slice (some ad) m c ∧ ∀ (j : Nat) (u : Value), news[j]? = some u → w.cell? (ad.add j) = some u
section
variable {P : Program} {w : World}
theorem wp_append_any {o : Oper} {a : Act} {K : Act → World → Prop} {Q : Exit → Act → World → Prop} (s x : Operand) (t : TypeId)
    (ho : o.op = .call { callee := .builtin .append, args := #[s, x], argTypes := #[t, t] })
    (base : Nat) (e : TypeId) (i : TypeInfo) (z : Value) (size bytes : Nat) (ht : P.underlying t = some (.slice e)) (hi : P.info? e = some i) (hz : i.zero = some z)
    (hsize : i.size = size) (hby : i.bytes = bytes) (hzs : z.cells.size = size) (hsz : 0 < size)
    (v : Value) (n : Nat) (xs : List Value) (hs : a.eval s = v) (hown : w.ownsRow base e size v n xs)
    (xv : Value) (m : Nat) (news : List Value) (hx : a.eval x = xv) (hlie : Lies w xv m news) (hl : news.length = m * size) (h1 : ∀ u ∈ news, u.oneCell' = true)
    (h63 : n + m ≤ maxLen) (hbytes : (n + m) * bytes ≤ 140737488355328) (hbase : base ≤ w.heap.size) (N : Nat) (hN : n + m = N)
    (h : ∀ (A : Option Addr) (c : Nat) (w' : World), w'.ownsRow base e size (.slice A N c) N (xs ++ news) → w.grownBy w' v.ownBlock → K (a.put o.dst (.slice A N c)) w') : o.wp P a w K Q := by
  subst hN
  have hrun : ∃ v' w', (Builtin.append_ #[t, t] o.type #[v, xv]).run P w = .ok v' w' ∧ w'.ownsRow base e size v' (n + m) (xs ++ news) ∧ w.grownBy w' v.ownBlock := by
    rcases hlie with ⟨rfl, rfl, rfl⟩ | ⟨ad, c, rfl, hnews⟩
    · exact ⟨v, w, run_append_owned_none w base t o.type e i size ht hi v n xs hown, by simpa using hown, World.grownBy.refl _ _⟩
    · obtain ⟨v', w', hr, h2, h3, _⟩ := run_append_own (P := P) w base t o.type e i z size bytes ht hi hz hsize hby hzs hsz v n xs hown ad m c news hl hnews h1 h63 hbytes hbase
      exact ⟨v', w', hr, h2, h3⟩
  obtain ⟨v', w', hr, h2, h3⟩ := hrun
  obtain ⟨A, c, rfl⟩ := own_slice h2
  unfold Oper.wp execOp
  simp only [ho, resolve, invoke, builtin, Sem.run_bind, Sem.run_pure, Result.andThen_ok, List.map_toArray, List.map_cons, List.map_nil, hs, hx, hr]
  exact h A c w' h2 h3
theorem step_append_any {ops : Array Oper} {o : Oper} {a : Act} {K : Act → World → Prop} {Q : Exit → Act → World → Prop} {E : Prop} (hgd : o.guard = none) (s x : Operand) (t : TypeId)
    (ho : o.op = .call { callee := .builtin .append, args := #[s, x], argTypes := #[t, t] })
    (base : Nat) (e : TypeId) (i : TypeInfo) (z : Value) (size bytes : Nat) (ht : P.underlying t = some (.slice e)) (hi : P.info? e = some i) (hz : i.zero = some z)
    (hsize : i.size = size) (hby : i.bytes = bytes) (hzs : z.cells.size = size) (hsz : 0 < size)
    (v : Value) (n : Nat) (xs : List Value) (hs : a.eval s = v) (hown : w.ownsRow base e size v n xs)
    (xv : Value) (m : Nat) (news : List Value) (hx : a.eval x = xv) (hlie : Lies w xv m news) (hl : news.length = m * size) (h1 : ∀ u ∈ news, u.oneCell' = true)
    (h63 : n + m ≤ maxLen) (hbytes : (n + m) * bytes ≤ 140737488355328) (hbase : base ≤ w.heap.size) (N : Nat) (hN : n + m = N)
    (h : ∀ (A : Option Addr) (c : Nat) (w' : World), w'.ownsRow base e size (.slice A N c) N (xs ++ news) → w.grownBy w' v.ownBlock → K (a.put o.dst (.slice A N c)) w') :
    if Region.wanted o (yielded ops a.tmps) = true then Oper.wp P o a w K Q else E := by
  have hw : Region.wanted o (yielded ops a.tmps) = true := by simp [Region.wanted, hgd]
  rw [if_pos hw]
  exact wp_append_any s x t ho base e i z size bytes ht hi hz hsize hby hzs hsz v n xs hs hown xv m news hx hlie hl h1 h63 hbytes hbase N hN h
end
theorem maxLen_ge : 1048576 ≤ maxLen := by unfold maxLen; omega
theorem lit0 (W : World) (B : Nat) (e : TypeId) (X : Nat) (hX : X = W.heap.size) (hB : B ≤ W.heap.size) : (W.alloc (.cells #[] e)).ownsRow B e 2 (.slice (some ⟨X, 0, none⟩) 0 0) 0 [] := by
  subst hX
  exact World.ownsRow_lit W #[] 0 hB (by simp [maxLen]) (by simp)
theorem add_at (g k j : Nat) : (⟨g, k, none⟩ : Addr).add j = ⟨g, k + j, none⟩ := by unfold Addr.add; split <;> simp_all
theorem lies2 {W : World} {Y c : Nat} {a b : Value} (h0 : W.cell? ⟨Y, 0, none⟩ = some a) (h1 : W.cell? ⟨Y, 1, none⟩ = some b) : Lies W (.slice (some ⟨Y, 0, none⟩) 1 c) 1 [a, b] := by
  refine .inr ⟨_, _, rfl, fun j u hu => ?_⟩
  rw [add_at]
  match j, hu with
  | 0, hu => simp only [List.getElem?_cons_zero, Option.some.injEq] at hu; subst hu; exact h0
  | 1, hu => simp only [List.getElem?_cons_succ, List.getElem?_cons_zero, Option.some.injEq] at hu; subst hu; exact h1
  | j + 2, hu => simp at hu
theorem lies_part {W : World} {base g n c d k m : Nat} {e : TypeId} {xs : List Value} (h : W.ownsRow base e 2 (.slice (some ⟨g, 0, none⟩) n c) n xs) (hkm : k + m ≤ n) : Lies W (.slice (some ⟨g, k * 2, none⟩) m d) m ((xs.drop (k * 2)).take (m * 2)) := by
  refine .inr ⟨_, _, rfl, fun j u hu => ?_⟩
  rw [add_at]
  have hj : j < m * 2 := by
    rcases Nat.lt_or_ge j (m * 2) with h1 | h1
    · exact h1
    · rw [List.getElem?_eq_none (by simp; omega)] at hu; cases hu
  rw [List.getElem?_take, if_pos hj, List.getElem?_drop] at hu
  rw [h.cellAt (k * 2 + j) (by omega)]
  exact hu
theorem lies_none (W : World) (ad : Addr) (d : Nat) : Lies W (.slice (some ad) 0 d) 0 [] := .inr ⟨ad, d, rfl, fun j u hu => by simp at hu⟩

/-! ### The place of a fraction -/
def pIdx : List Rat → Rat → Nat
  | [], _ => 0
  | y :: l, x => if y < x then pIdx l x + 1 else 0
theorem pIdx_le : ∀ (l : List Rat) (x : Rat), pIdx l x ≤ l.length
  | [], _ => Nat.le_refl _
  | y :: l, x => by have := pIdx_le l x; unfold pIdx; split <;> simp <;> omega
theorem pIdx_lt : ∀ (l : List Rat) (x : Rat) (i : Nat), i < pIdx l x → l.getD i 0 < x
  | [], _, i, h => by simp [pIdx] at h
  | y :: l, x, i, h => by
    unfold pIdx at h
    split at h
    · match i, h with
      | 0, _ => assumption
      | i + 1, h => exact pIdx_lt l x i (by omega)
    · omega
theorem pIdx_at : ∀ (l : List Rat) (x : Rat), pIdx l x < l.length → ¬ l.getD (pIdx l x) 0 < x
  | [], _, h => by simp [pIdx] at h
  | y :: l, x, h => by
    by_cases hy : y < x
    · have e : pIdx (y :: l) x = pIdx l x + 1 := by simp only [pIdx, if_pos hy]
      rw [e] at h ⊢
      exact pIdx_at l x (by simpa using h)
    · have e : pIdx (y :: l) x = 0 := by simp only [pIdx, if_neg hy]
      rw [e]
      exact hy
theorem putL_same : ∀ (l : List Rat) (x : Rat), pIdx l x < l.length → l.getD (pIdx l x) 0 = x → putL l x = l
  | [], _, h, _ => by simp [pIdx] at h
  | y :: l, x, h, h2 => by
    by_cases hy : y < x
    · have e : pIdx (y :: l) x = pIdx l x + 1 := by simp only [pIdx, if_pos hy]
      rw [e] at h h2
      simp only [putL, if_pos hy]
      rw [putL_same l x (by simpa using h) h2]
    · have e : pIdx (y :: l) x = 0 := by simp only [pIdx, if_neg hy]
      rw [e] at h2
      have h3 : y = x := h2
      simp only [putL, if_neg hy, if_pos h3]
theorem putL_new : ∀ (l : List Rat) (x : Rat), (pIdx l x < l.length → ¬ l.getD (pIdx l x) 0 = x) → putL l x = l.take (pIdx l x) ++ x :: l.drop (pIdx l x)
  | [], _, _ => rfl
  | y :: l, x, h => by
    by_cases hy : y < x
    · have e : pIdx (y :: l) x = pIdx l x + 1 := by simp only [pIdx, if_pos hy]
      rw [e] at h ⊢
      simp only [putL, if_pos hy, List.take_succ_cons, List.drop_succ_cons, List.cons_append]
      rw [putL_new l x (fun hl => h (by simpa using hl))]
    · have e : pIdx (y :: l) x = 0 := by simp only [pIdx, if_neg hy]
      rw [e] at h ⊢
      have h3 : ¬ y = x := h (by simp)
      simp only [putL, if_neg hy, if_neg h3, List.take_zero, List.drop_zero, List.nil_append]
theorem frcs_take (xs : List Fr) (k : Nat) : frcs (xs.take k) = (frcs xs).take (k * 2) := by
  induction xs generalizing k with
  | nil => simp [frcs]
  | cons x xs ih =>
    cases k with
    | zero => simp [frcs]
    | succ k =>
      rw [List.take_succ_cons, show (k + 1) * 2 = k * 2 + 1 + 1 by omega]
      show frc x ++ frcs (xs.take k) = (frc x ++ frcs xs).take (k * 2 + 1 + 1)
      rw [ih]; rfl
theorem frcs_drop (xs : List Fr) (k : Nat) : frcs (xs.drop k) = (frcs xs).drop (k * 2) := by
  induction xs generalizing k with
  | nil => simp [frcs]
  | cons x xs ih =>
    cases k with
    | zero => simp
    | succ k =>
      rw [List.drop_succ_cons, show (k + 1) * 2 = k * 2 + 1 + 1 by omega]
      show frcs (xs.drop k) = (frc x ++ frcs xs).drop (k * 2 + 1 + 1)
      rw [ih]; rfl
theorem frcs_one {xs : List Value} : ∀ {ys : List Fr}, xs = frcs ys → ∀ u ∈ xs, u.oneCell' = true := by
  rintro ys rfl u hu
  unfold frcs at hu
  obtain ⟨y, _, hy⟩ := List.mem_flatMap.1 hu
  simp only [frc, List.mem_cons, List.not_mem_nil, or_false] at hy
  rcases hy with rfl | rfl <;> rfl
theorem qAtR (l : List Rat) (k : Nat) (hk : k < l.length) : fAt (l.map qf) k = ((l.getD k 0).num, ((l.getD k 0).den : Int)) := by
  unfold fAt
  simp [hk, qf]

theorem own_cap {w : World} {base n c : Nat} {A : Option Addr} {e : TypeId} {size : Nat} {xs : List Value} (h : w.ownsRow base e size (.slice A n c) n xs) : n ≤ c := by
  rcases h.2 with ⟨hv, h0⟩ | ⟨g, cap, _, hv, _, _, h3, _⟩
  · injection hv with _ h1 h2; omega
  · injection hv with _ h1 h2; omega
theorem own_lenR {w : World} {base n : Nat} {v : Value} {l : List Rat} (h : w.ownsRow base 31 2 v n (frcs (l.map qf))) : l.length = n := by
  have := h.1
  rw [frcs_len, List.length_map] at this
  omega
end Go.Proofs.Ythccdooacbablab

/-
  Chapter 4: orbits of the program (a label and a goto) and of the model.
-/
import Derived.Test.YthccdooacbablabVa
import Derived.Test.YthccdooacbablabPut
import Derived.WalkMore
import Derived.ScopeJumps
namespace Go.Proofs.Ythccdooacbablab
open Go.RowKit Rm

/-- As Q; by a goto to a label l: J l. -/
def Exit.jumps (J : Nat → Act → World → Prop) (Q : Exit → Act → World → Prop) : Exit → Act → World → Prop
  | .goto l, a, w => J l a w
  | e, a, w => Q e a w
section
variable {P : Program} {a : Act} {w : World} {Q : Exit → Act → World → Prop}
/-- A scope with labels: what holds at every jump, and a measure that every jump lowers. -/
theorem wp_scope_many {c : Code} (J : Nat → Act → World → Prop) (μ : Nat → Act → World → Nat)
    (first : c.wp P (Exit.jumps J Q) a w)
    (pass : ∀ l a w, J l a w → ∃ rest, findLabel c l = some rest ∧ rest.wp P (Exit.jumps (fun l' a' w' => J l' a' w' ∧ μ l' a' w' < μ l a w) Q) a w) : (Code.scope c).wp P Q a w := by
  intro b k cs
  have key : ∀ n l a w, μ l a w = n → J l a w → ∃ e a' w' rest, findLabel c l = some rest ∧ Q e a' w' ∧ Arrives P (lone (b.at a (.code rest :: .inScope c :: k)) cs w) b k cs e a' w' := by
    intro n
    induction n using Nat.strongRecOn with
    | _ n ih =>
      intro l a w hn hJ
      obtain ⟨rest, hf, hp⟩ := pass l a w hJ
      obtain ⟨e, a₁, w₁, hq, harr⟩ := hp b (.inScope c :: k) cs
      cases e with
      | normal => exact ⟨.normal, a₁, w₁, rest, hf, hq, Steps.trans harr (.one step_inScope)⟩
      | exit id => exact ⟨.exit id, a₁, w₁, rest, hf, hq, fun k' hk => harr k' (by simp [exitTo, hk])⟩
      | goto l' =>
        obtain ⟨hJ', hlt⟩ := hq
        obtain ⟨e₂, a₂, w₂, rest₂, hf₂, hq₂, harr₂⟩ := ih _ (by omega) l' a₁ w₁ rfl hJ'
        have hg : gotoIn l' (.inScope c :: k) = some (.code rest₂ :: .inScope c :: k) := by simp [gotoIn, hf₂]
        exact ⟨e₂, a₂, w₂, rest, hf, hq₂, .of_steps (harr _ hg) harr₂⟩
      | ret => exact ⟨_, a₁, w₁, rest, hf, hq, harr⟩
      | panic ch => exact ⟨_, a₁, w₁, rest, hf, hq, harr⟩
      | outgrown => exact ⟨_, a₁, w₁, rest, hf, hq, harr⟩
  obtain ⟨e, a₁, w₁, hq, harr⟩ := first b (.inScope c :: k) cs
  cases e with
  | normal => exact ⟨.normal, a₁, w₁, hq, .head step_scope (Steps.trans harr (.one step_inScope))⟩
  | exit id => exact ⟨.exit id, a₁, w₁, hq, fun k' hk => .head step_scope (harr k' (by simp [exitTo, hk]))⟩
  | goto l' =>
    obtain ⟨e₂, a₂, w₂, rest₂, hf₂, hq₂, harr₂⟩ := key _ l' a₁ w₁ rfl hq
    have hg : gotoIn l' (.inScope c :: k) = some (.code rest₂ :: .inScope c :: k) := by simp [gotoIn, hf₂]
    exact ⟨e₂, a₂, w₂, hq₂, .of_steps (.head step_scope (harr _ hg)) harr₂⟩
  | ret => exact ⟨_, a₁, w₁, hq, .of_steps (.one step_scope) harr⟩
  | panic ch => exact ⟨_, a₁, w₁, hq, .of_steps (.one step_scope) harr⟩
  | outgrown => exact ⟨_, a₁, w₁, hq, .of_steps (.one step_scope) harr⟩
end

def lenOf : Value → Nat | .slice _ n _ => n | _ => 0
section
variable {P : Program} {w : World}
theorem wpList_append_any {ops : Array Oper} {rest : List Oper} {o : Oper} {a : Act} {Q : Exit → Act → World → Prop} (hgd : o.guard = none) (s x : Operand) (t : TypeId)
    (ho : o.op = .call { callee := .builtin .append, args := #[s, x], argTypes := #[t, t] })
    (base : Nat) (e : TypeId) (i : TypeInfo) (z : Value) (size bytes : Nat) (ht : P.underlying t = some (.slice e)) (hi : P.info? e = some i) (hz : i.zero = some z)
    (hsize : i.size = size) (hby : i.bytes = bytes) (hzs : z.cells.size = size) (hsz : 0 < size)
    (v : Value) (n : Nat) (xs : List Value) (hs : a.eval s = v) (hown : w.ownsRow base e size v n xs)
    (xv : Value) (m : Nat) (news : List Value) (hx : a.eval x = xv) (hlie : Lies w xv m news) (hl : news.length = m * size) (h1 : ∀ u ∈ news, u.oneCell' = true)
    (h63 : n + m ≤ maxLen) (hbytes : (n + m) * bytes ≤ 140737488355328) (hbase : base ≤ w.heap.size) (N : Nat) (hN : n + m = N)
    (h : ∀ (A : Option Addr) (c : Nat) (w' : World), w'.ownsRow base e size (.slice A N c) N (xs ++ news) → w.grownBy w' v.ownBlock → wpList P ops Q rest (a.put o.dst (.slice A N c)) w') : wpList P ops Q (o :: rest) a w :=
  wpList_plain hgd fun _ hK => wp_append_any s x t ho base e i z size bytes ht hi hz hsize hby hzs hsz v n xs hs hown xv m news hx hlie hl h1 h63 hbytes hbase N hN fun A c w' h2 h3 => hK _ _ (h A c w' h2 h3)
end
theorem own_form0 {w : World} {base n c : Nat} {A : Option Addr} {e : TypeId} {size : Nat} {xs : List Value} (h : w.ownsRow base e size (.slice A n c) n xs) (hn : 0 < n) : ∃ g, A = some ⟨g, 0, none⟩ := by
  obtain ⟨g, cap, hv, _, _⟩ := h.form hn
  injection hv with h1 _ _
  exact ⟨g, h1⟩
theorem one_own (W : World) (B X : Nat) (x : Rat) {a b : Int} (hX : X = W.heap.size) (hB : B ≤ W.heap.size) (ha : a = x.num) (hb : b = (x.den : Int)) :
    (W.alloc (.cells #[.int .i64 a, .int .i64 b] 31)).ownsRow B 31 2 (.slice (some ⟨X, 0, none⟩) 1 1) 1 (frcs (([] ++ [x]).map qf)) := by
  subst hX ha hb
  exact World.ownsRow_lit W #[.int .i64 x.num, .int .i64 x.den] 1 hB (by simp [maxLen]) (by simp)
theorem frq_sn (l : List Rat) (x : Rat) : frcs (l.map qf) ++ [.int .i64 x.num, .int .i64 x.den] = frcs ((l ++ [x]).map qf) := by
  rw [List.map_append, ← frcs_snoc]; rfl
theorem uB_un {x : Rat} (h : Un x) : uB x.num x.den = true := by
  have h0 := Rat.num_nonneg.2 h.lo
  have h1 := h.hi
  rw [Rat.le_iff] at h1
  simp at h1
  unfold uB
  rw [good_rat, h.fit]
  simp only [Bool.true_and, Bool.and_eq_true, decide_eq_true_eq]
  omega
/-- The cells of the last element of an orbit's slice. -/
theorem own_last {w : World} {base gs j c : Nat} {init : List Rat} {y : Rat} (h : w.ownsRow base 31 2 (.slice (some ⟨gs, 0, none⟩) (j + 1) c) (j + 1) (frcs ((init ++ [y]).map qf))) :
    j = init.length ∧ gs < w.heap.size ∧ w.cell? ⟨gs, j * 2, none⟩ = some (.int .i64 y.num) ∧ w.cell? ⟨gs, j * 2 + 1, none⟩ = some (.int .i64 y.den) := by
  have hl := own_lenR h
  simp at hl
  have e : fAt ((init ++ [y]).map qf) j = (y.num, (y.den : Int)) := by
    have hj : j = init.length := by omega
    subst hj
    unfold fAt
    simp [qf]
  obtain ⟨g, hA, hg, _, h0, h1⟩ := frs_cells h (k := j) (by omega) e
  obtain rfl : gs = g := (Addr.mk.inj (Option.some.inj hA)).1
  exact ⟨by omega, hg, h0, h1⟩

end Go.Proofs.Ythccdooacbablab

/-
  Slices of points and of fractions: the laws' copies.
-/
import Derived.Test.YtldmgjeecomddaaGreatDoorRat
import Derived.Test.YtldmgjeecomddaaGreatDoorM
import Derived.Lib.Hide
import Derived.Laws.OwnMore
import Derived.Maps.AppendAt
import Derived.OwnWalk
import Derived.Deep.DrawnRows
import Derived.RegionTactic
import Derived.Deep.DeepCutAuto
import Derived.Deep.Draws
import Derived.Deep.AppendLies
namespace Go.Proofs.YtldmgjeecomddaaGreatDoor
open Go.RowKit Rm

/-! ### Lists of cells -/
def ptc (p : Pt) : List Value := [.int .i64 p.1.1, .int .i64 p.1.2, .int .i64 p.2.1, .int .i64 p.2.2]
def frc (x : Fr) : List Value := [.int .i64 x.1, .int .i64 x.2]
def ptcs (ps : List Pt) : List Value := ps.flatMap ptc
def frcs (xs : List Fr) : List Value := xs.flatMap frc
theorem flat_len {α β : Type} {f : α → List β} {m : Nat} (hm : ∀ x, (f x).length = m) : ∀ l : List α, (l.flatMap f).length = l.length * m
  | [] => by simp
  | x :: l => by simp only [List.flatMap_cons, List.length_append, hm, flat_len hm l, List.length_cons, Nat.add_mul]; omega
theorem flat_get {α β : Type} {f : α → List β} {m : Nat} (hm : ∀ x, (f x).length = m) : ∀ (l : List α) (i r : Nat), r < m → (l.flatMap f)[i * m + r]? = l[i]?.bind fun x => (f x)[r]?
  | [], i, r, _ => by simp
  | x :: l, 0, r, hr => by
    have h := hm x
    simp only [List.flatMap_cons, Nat.zero_mul, Nat.zero_add]
    rw [List.getElem?_append_left (by omega)]
    rfl
  | x :: l, i + 1, r, hr => by
    have h := hm x
    simp only [List.flatMap_cons]
    rw [List.getElem?_append_right (by rw [h, Nat.add_mul]; omega), h, show (i + 1) * m + r - m = i * m + r by rw [Nat.add_mul]; omega, flat_get hm l i r hr]
    rfl
theorem ptcs_len (ps : List Pt) : (ptcs ps).length = ps.length * 4 := flat_len (f := ptc) (fun _ => rfl) ps
theorem frcs_len (xs : List Fr) : (frcs xs).length = xs.length * 2 := flat_len (f := frc) (fun _ => rfl) xs
theorem block_add (a : Addr) (n : Nat) : (a.add n).block = a.block := by unfold Addr.add; split <;> rfl
theorem ptcs_get (ps : List Pt) (i r : Nat) (hi : i < ps.length) (hr : r < 4) : (ptcs ps)[i * 4 + r]? = (ptc (pAt ps i))[r]? := by
  unfold ptcs
  rw [flat_get (m := 4) (fun _ => rfl) ps i r hr]
  simp [pAt, hi]
def fAt (xs : List Fr) (i : Nat) : Fr := xs.getD i (0, 1)
theorem frcs_get (xs : List Fr) (i r : Nat) (hi : i < xs.length) (hr : r < 2) : (frcs xs)[i * 2 + r]? = (frc (fAt xs i))[r]? := by
  unfold frcs
  rw [flat_get (m := 2) (fun _ => rfl) xs i r hr]
  simp [fAt, hi]

theorem own_below {w w' : World} {base : Nat} {e : TypeId} {size : Nat} {v : Value} {n : Nat} {xs : List Value} (h : w.ownsRow base e size v n xs) (hb : Below w.heap.size w w') : w'.ownsRow base e size v n xs :=
  h.kept (row := none) ⟨hb.os, hb.tape, hb.output, hb.size, fun i hi _ => hb.block i hi⟩ (by cases hv : v.ownBlock <;> simp)
theorem own_set4 {w : World} {base : Nat} {e : TypeId} {g n cap : Nat} {xs : List Value} (h : w.ownsRow base e 4 (.slice (some ⟨g, 0, none⟩) n cap) n xs) (j : Nat) (a b c d : Value) :
    ((((w.setCell ⟨g, j, none⟩ a).setCell ⟨g, j + 1, none⟩ b).setCell ⟨g, j + 2, none⟩ c).setCell ⟨g, j + 3, none⟩ d).ownsRow base e 4 (.slice (some ⟨g, 0, none⟩) n cap) n ((((xs.set j a).set (j + 1) b).set (j + 2) c).set (j + 3) d) :=
  ((((h.stored j a).1.stored (j + 1) b).1.stored (j + 2) c).1.stored (j + 3) d).1
theorem set4_agree {xs ys : List Value} {k : Nat} {a b c d : Value} (h : ∀ j, j < k * 4 → xs[j]? = ys[j]?) (hl : k * 4 + 3 < xs.length) (h0 : ys[k * 4]? = some a) (h1 : ys[k * 4 + 1]? = some b) (h2 : ys[k * 4 + 2]? = some c) (h3 : ys[k * 4 + 3]? = some d) :
    ∀ j, j < (k + 1) * 4 → ((((xs.set (k * 4) a).set (k * 4 + 1) b).set (k * 4 + 2) c).set (k * 4 + 3) d)[j]? = ys[j]? := by
  intro j hj
  simp only [List.getElem?_set, List.length_set]
  have hcase : j < k * 4 ∨ j = k * 4 ∨ j = k * 4 + 1 ∨ j = k * 4 + 2 ∨ j = k * 4 + 3 := by omega
  rcases hcase with hlt | rfl | rfl | rfl | rfl
  · rw [if_neg (by omega), if_neg (by omega), if_neg (by omega), if_neg (by omega)]; exact h j hlt
  · rw [if_neg (by omega), if_neg (by omega), if_neg (by omega), if_pos rfl, if_pos (by omega), h0]
  · rw [if_neg (by omega), if_neg (by omega), if_pos rfl, if_pos (by omega), h1]
  · rw [if_neg (by omega), if_pos rfl, if_pos (by omega), h2]
  · rw [if_pos rfl, if_pos (by omega), h3]
theorem agree_all {xs ys : List Value} {n : Nat} (h : ∀ j, j < n → xs[j]? = ys[j]?) (hx : xs.length = n) (hy : ys.length = n) : xs = ys := by
  apply List.ext_getElem?
  intro j
  by_cases hj : j < n
  · exact h j hj
  · rw [List.getElem?_eq_none (by omega), List.getElem?_eq_none (by omega)]
theorem ptcs_at {ps : List Pt} {k : Nat} {a b c d : Int} (hk : k < ps.length) (hp : pAt ps k = ((a, b), (c, d))) :
    (ptcs ps)[k * 4]? = some (.int .i64 a) ∧ (ptcs ps)[k * 4 + 1]? = some (.int .i64 b) ∧ (ptcs ps)[k * 4 + 2]? = some (.int .i64 c) ∧ (ptcs ps)[k * 4 + 3]? = some (.int .i64 d) := by
  refine ⟨?_, ?_, ?_, ?_⟩
  · have := ptcs_get ps k 0 hk (by omega); rw [hp] at this; exact this
  · have := ptcs_get ps k 1 hk (by omega); rw [hp] at this; exact this
  · have := ptcs_get ps k 2 hk (by omega); rw [hp] at this; exact this
  · have := ptcs_get ps k 3 hk (by omega); rw [hp] at this; exact this

/-- A slice of points that came in: the law's own, of whatever address. -/
def ArgP (w : World) (A : Option Addr) (n : Nat) (ps : List Pt) : Prop :=
  ps.length = n ∧ (0 < n → ∃ ad, A = some ad ∧ ad.block < w.heap.size ∧ ∀ i, i < n → w.cell? (ad.add (i * 4)) = some (.int .i64 (pAt ps i).1.1) ∧ w.cell? ((ad.add (i * 4)).add 1) = some (.int .i64 (pAt ps i).1.2) ∧
    w.cell? ((ad.add (i * 4)).add 2) = some (.int .i64 (pAt ps i).2.1) ∧ w.cell? ((ad.add (i * 4)).add 3) = some (.int .i64 (pAt ps i).2.2))

theorem ArgP.below {w w' : World} {A : Option Addr} {n : Nat} {ps : List Pt} (h : ArgP w A n ps) (hb : Below w.heap.size w w') : ArgP w' A n ps :=
  ⟨h.1, fun hn => by
    obtain ⟨ad, e, hl, hc⟩ := h.2 hn
    have hbl : ∀ i j, ((ad.add i).add j).block < w.heap.size := fun i j => by rw [block_add, block_add]; exact hl
    refine ⟨ad, e, Nat.lt_of_lt_of_le hl hb.size, fun i hi => ?_⟩
    obtain ⟨h0, h1, h2, h3⟩ := hc i hi
    exact ⟨(hb.cell (by rw [block_add]; exact hl)).trans h0, (hb.cell (hbl _ _)).trans h1, (hb.cell (hbl _ _)).trans h2, (hb.cell (hbl _ _)).trans h3⟩⟩

theorem iPoint : (Tryz.prog.info? 50).map (fun i => (i.zero, i.size, i.bytes)) = some (some (.agg #[.int .i64 0, .int .i64 0, .int .i64 0, .int .i64 0]), 4, 32) := by kernel_rfl
theorem iRat : (Tryz.prog.info? 23).map (fun i => (i.zero, i.size, i.bytes)) = some (some (.agg #[.int .i64 0, .int .i64 0]), 2, 16) := by kernel_rfl
theorem iPoints : (Tryz.prog.info? 32).map (fun i => (i.zero, i.size, i.bytes)) = some (some (.slice none 0 0), 1, 24) := by kernel_rfl

set_option maxRecDepth 100000 in
theorem eqRat_same (a b : Int) (w : World) :
    Calls Tryz.prog 6 #[.agg #[.int .i64 (a), .int .i64 (b)], .agg #[.int .i64 (a), .int .i64 (b)]] w fun e w' => e = .returned (.bool true) ∧ Below w.heap.size w w' := by
  go_enter Tryz.func6, Tryz.ntmps6
  go_wp2
  go_ret
  exact ⟨rfl, (by repeat (first | with_reducible exact Below.refl _ _ | with_reducible assumption | (with_reducible refine Below.trans ?_ (Below.mono (by assumption) (by first | omega | (simp <;> omega)))) | with_reducible apply Below.drew | with_reducible apply below_drewN | (with_reducible refine Below.alloc ?_ (by first | omega | (simp <;> omega)) _) | (with_reducible refine Below.setCell ?_ (by first | omega | (simp <;> omega)) _)))⟩
theorem frcs_at {xs : List Fr} {k : Nat} {a b : Int} (hk : k < xs.length) (hp : fAt xs k = (a, b)) : (frcs xs)[k * 2]? = some (.int .i64 a) ∧ (frcs xs)[k * 2 + 1]? = some (.int .i64 b) := by
  refine ⟨?_, ?_⟩
  · have := frcs_get xs k 0 hk (by omega); rw [hp] at this; exact this
  · have := frcs_get xs k 1 hk (by omega); rw [hp] at this; exact this
/-- The cells of element k of a slice of fractions. -/
theorem frs_cells {w : World} {base : Nat} {A : Option Addr} {n c : Nat} {xs : List Fr} {k : Nat} {a b : Int} (h : w.ownsRow base 23 2 (.slice A n c) n (frcs xs)) (hk : k < n) (hp : fAt xs k = (a, b)) :
    ∃ g, A = some ⟨g, 0, none⟩ ∧ g < w.heap.size ∧ base ≤ g ∧ w.cell? ⟨g, k * 2, none⟩ = some (.int .i64 a) ∧ w.cell? ⟨g, k * 2 + 1, none⟩ = some (.int .i64 b) := by
  obtain ⟨g, cap, hv, _, hlt⟩ := h.form (by omega)
  have hA : A = some ⟨g, 0, none⟩ ∧ c = cap := by injection hv with h1 _ h2; exact ⟨h1, h2⟩
  obtain ⟨rfl, rfl⟩ := hA
  have hl : xs.length = n := by have := h.1; rw [frcs_len] at this; omega
  obtain ⟨k0, k1⟩ := frcs_at (by omega) hp
  exact ⟨g, rfl, hlt, (h.lt g rfl).1, (h.cellAt (k * 2) (by omega)).trans k0, (h.cellAt (k * 2 + 1) (by omega)).trans k1⟩
theorem pts_cells {w : World} {base : Nat} {A : Option Addr} {n c : Nat} {ps : List Pt} {k : Nat} {a b p q : Int} (h : w.ownsRow base 50 4 (.slice A n c) n (ptcs ps)) (hk : k < n) (hp : pAt ps k = ((a, b), (p, q))) :
    ∃ g, A = some ⟨g, 0, none⟩ ∧ g < w.heap.size ∧ base ≤ g ∧ w.cell? ⟨g, k * 4, none⟩ = some (.int .i64 a) ∧ w.cell? ⟨g, k * 4 + 1, none⟩ = some (.int .i64 b) ∧ w.cell? ⟨g, k * 4 + 2, none⟩ = some (.int .i64 p) ∧ w.cell? ⟨g, k * 4 + 3, none⟩ = some (.int .i64 q) := by
  obtain ⟨g, cap, hv, _, hlt⟩ := h.form (by omega)
  have hA : A = some ⟨g, 0, none⟩ ∧ c = cap := by injection hv with h1 _ h2; exact ⟨h1, h2⟩
  obtain ⟨rfl, rfl⟩ := hA
  have hl : ps.length = n := by have := h.1; rw [ptcs_len] at this; omega
  obtain ⟨k0, k1, k2, k3⟩ := ptcs_at (by omega) hp
  exact ⟨g, rfl, hlt, (h.lt g rfl).1, (h.cellAt (k * 4) (by omega)).trans k0, (h.cellAt (k * 4 + 1) (by omega)).trans k1, (h.cellAt (k * 4 + 2) (by omega)).trans k2, (h.cellAt (k * 4 + 3) (by omega)).trans k3⟩

/-! ### Marks -/
def mkF (n : Nat) : List Fr := (List.range n).map fun i : Nat => (1 + 2 * (i : Int), 1 + 2 * (i : Int) + 1)
def mkP (n : Nat) : List Pt := (List.range n).map fun i : Nat => ((1 + 4 * (i : Int), 1 + 4 * (i : Int) + 1), (1 + 4 * (i : Int) + 1 + 1, 1 + 4 * (i : Int) + 1 + 1 + 1))
theorem mkF_len (n : Nat) : (mkF n).length = n := by simp [mkF]
theorem mkP_len (n : Nat) : (mkP n).length = n := by simp [mkP]
theorem mkF_at {n k : Nat} (h : k < n) : fAt (mkF n) k = (1 + 2 * (k : Int), 1 + 2 * (k : Int) + 1) := by simp [mkF, fAt, h]
theorem mkP_at {n k : Nat} (h : k < n) : pAt (mkP n) k = ((1 + 4 * (k : Int), 1 + 4 * (k : Int) + 1), (1 + 4 * (k : Int) + 1 + 1, 1 + 4 * (k : Int) + 1 + 1 + 1)) := by simp [mkP, pAt, h]
theorem own_set2 {w : World} {base : Nat} {e : TypeId} {g n cap : Nat} {xs : List Value} (h : w.ownsRow base e 2 (.slice (some ⟨g, 0, none⟩) n cap) n xs) (j : Nat) (a b : Value) :
    ((w.setCell ⟨g, j, none⟩ a).setCell ⟨g, j + 1, none⟩ b).ownsRow base e 2 (.slice (some ⟨g, 0, none⟩) n cap) n ((xs.set j a).set (j + 1) b) := ((h.stored j a).1.stored (j + 1) b).1
theorem set2_agree {xs ys : List Value} {k : Nat} {a b : Value} (h : ∀ j, j < k * 2 → xs[j]? = ys[j]?) (hl : k * 2 + 1 < xs.length) (h0 : ys[k * 2]? = some a) (h1 : ys[k * 2 + 1]? = some b) :
    ∀ j, j < (k + 1) * 2 → ((xs.set (k * 2) a).set (k * 2 + 1) b)[j]? = ys[j]? := by
  intro j hj
  simp only [List.getElem?_set, List.length_set]
  have hcase : j < k * 2 ∨ j = k * 2 ∨ j = k * 2 + 1 := by omega
  rcases hcase with hlt | rfl | rfl
  · rw [if_neg (by omega), if_neg (by omega)]; exact h j hlt
  · rw [if_neg (by omega), if_pos rfl, if_pos (by omega), h0]
  · rw [if_pos rfl, if_pos (by omega), h1]
theorem grown_set {a w : World} {g : Nat} (h : a.grownBy w (some g)) (j : Nat) (u : Value) : a.grownBy (w.setCell ⟨g, j, none⟩ u) (some g) :=
  ⟨h.os, h.tape, h.output, by simpa [World.setCell] using h.size, fun i hi hne => (Below.heap_setCell w ⟨g, j, none⟩ u i (fun e => hne (by rw [e]))).trans (h.block i hi hne)⟩

end Go.Proofs.YtldmgjeecomddaaGreatDoor

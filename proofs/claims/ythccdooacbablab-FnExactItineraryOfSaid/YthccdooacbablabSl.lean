/-
  Slices of points and of fractions: the laws' copies.
-/
import Derived.Test.YthccdooacbablabRat
import Derived.Test.YthccdooacbablabM
import Derived.Lib.Hide
import Derived.Laws.OwnMore
import Derived.Maps.AppendAt
import Derived.OwnWalk
import Derived.Deep.DrawnRows
import Derived.RegionTactic
import Derived.Deep.DeepCutAuto
import Derived.Deep.Draws
import Derived.Deep.AppendLies
namespace Go.Proofs.Ythccdooacbablab
open Go.RowKit Rm

theorem toRat_any (a b : Int) (w : World) :
    Calls Try.prog 7 #[.agg #[.int .i64 (a), .int .i64 (b)]] w fun e w' => e = .returned (.agg #[.int .i64 (a), .int .i64 (b)]) ∧ Below w.heap.size w w' := by
  go_enter Try.func7, Try.ntmps7
  go_wp2
  exact bodyPost_ret (v := .agg #[.int .i64 (a), .int .i64 (b)]) (by simp [results, Try.results7, go_sem]) rfl ⟨rfl, (by repeat (first | with_reducible exact Below.refl _ _ | with_reducible assumption | (with_reducible refine Below.trans ?_ (Below.mono (by assumption) (by first | omega | (simp <;> omega)))) | with_reducible apply Below.drew | with_reducible apply below_drewN | (with_reducible refine Below.alloc ?_ (by first | omega | (simp <;> omega)) _) | (with_reducible refine Below.setCell ?_ (by first | omega | (simp <;> omega)) _)))⟩

set_option maxHeartbeats 400000 in
set_option maxRecDepth 100000 in
theorem toPoint_any (a b c d : Int) (w : World) :
    Calls Try.prog 19 #[.agg #[.int .i64 (a), .int .i64 (b), .int .i64 (c), .int .i64 (d)]] w fun e w' => e = .returned (.agg #[.int .i64 (a), .int .i64 (b), .int .i64 (c), .int .i64 (d)]) ∧ Below w.heap.size w w' := by
  go_enter Try.func19, Try.ntmps19
  go_wp2_with (first | (go_at_call 7; (with_reducible refine (toRat_any a b _).mono ?_); rintro e w1 ⟨rfl, hbw1⟩; obtain ⟨hcw1, hfw1⟩ := bcell hbw1; have hzw1 := hbw1.size; (try simp at hzw1); (try ((have kw1w0 := (bnew hbw1) (w.heap.size) ?pf); (case pf => (first | omega | (simp; done) | (simp; omega))); obtain ⟨kcw1w0, kfw1w0, klw1w0⟩ := kw1w0)); (try ((have kw1w1 := (bnew hbw1) (w.heap.size + 1) ?pf); (case pf => (first | omega | (simp; done) | (simp; omega))); obtain ⟨kcw1w1, kfw1w1, klw1w1⟩ := kw1w1)); (try ((have kw1w2 := (bnew hbw1) (w.heap.size + 1 + 1) ?pf); (case pf => (first | omega | (simp; done) | (simp; omega))); obtain ⟨kcw1w2, kfw1w2, klw1w2⟩ := kw1w2))) | (go_at_call 7; (with_reducible refine (toRat_any c d _).mono ?_); rintro e w2 ⟨rfl, hbw2⟩; obtain ⟨hcw2, hfw2⟩ := bcell hbw2; have hzw2 := hbw2.size; (try simp at hzw2); (try ((have kw2w0 := (bnew hbw2) (w.heap.size) ?pf); (case pf => (first | omega | (simp; done) | (simp; omega))); obtain ⟨kcw2w0, kfw2w0, klw2w0⟩ := kw2w0)); (try ((have kw2w1 := (bnew hbw2) (w.heap.size + 1) ?pf); (case pf => (first | omega | (simp; done) | (simp; omega))); obtain ⟨kcw2w1, kfw2w1, klw2w1⟩ := kw2w1)); (try ((have kw2w2 := (bnew hbw2) (w.heap.size + 1 + 1) ?pf); (case pf => (first | omega | (simp; done) | (simp; omega))); obtain ⟨kcw2w2, kfw2w2, klw2w2⟩ := kw2w2)); (try ((have kw2w10 := (bnew hbw2) (w1.heap.size) ?pf); (case pf => (first | omega | (simp; done) | (simp; omega))); obtain ⟨kcw2w10, kfw2w10, klw2w10⟩ := kw2w10))))
  exact bodyPost_ret (v := .agg #[.int .i64 (a), .int .i64 (b), .int .i64 (c), .int .i64 (d)]) (by simp [results, Try.results19, go_sem, *]) rfl ⟨rfl, (by repeat (first | with_reducible exact Below.refl _ _ | with_reducible assumption | (with_reducible refine Below.trans ?_ (Below.mono (by assumption) (by first | omega | (simp <;> omega)))) | with_reducible apply Below.drew | with_reducible apply below_drewN | (with_reducible refine Below.alloc ?_ (by first | omega | (simp <;> omega)) _) | (with_reducible refine Below.setCell ?_ (by first | omega | (simp <;> omega)) _)))⟩

/-! ### Lists of cells -/
def ptc (p : Pt) : List Value := [.int .i64 p.1.1, .int .i64 p.1.2, .int .i64 p.2.1, .int .i64 p.2.2]
def frc (x : Fr) : List Value := [.int .i64 x.1, .int .i64 x.2]
def ptcs (ps : List Pt) : List Value := ps.flatMap ptc
def frcs (xs : List Fr) : List Value := xs.flatMap frc
theorem flat_len {α β : Type} {f : α → List β} {m : Nat} (hm : ∀ x, (f x).length = m) : ∀ l : List α, (l.flatMap f).length = l.length * m
  | [] => by simp
  | x :: l => by simp only [List.flatMap_cons, List.length_append, hm, flat_len hm l, List.length_cons, Nat.add_mul]; omega
theorem flat_get {α β : Type} {f : α → List β} {m : Nat} (hm : ∀ x, (f x).length = m) : ∀ (l : List α) (i r : Nat), r < m → (l.flatMap f)[i * m + r]? = l[i]?.bind fun x => (f x)[r]?
  | [], i, r, _ => by simp
  | x :: l, 0, r, hr => by
    have h := hm x
    simp only [List.flatMap_cons, Nat.zero_mul, Nat.zero_add]
    rw [List.getElem?_append_left (by omega)]
    rfl
  | x :: l, i + 1, r, hr => by
    have h := hm x
    simp only [List.flatMap_cons]
    rw [List.getElem?_append_right (by rw [h, Nat.add_mul]; omega), h, show (i + 1) * m + r - m = i * m + r by rw [Nat.add_mul]; omega, flat_get hm l i r hr]
    rfl
theorem ptcs_len (ps : List Pt) : (ptcs ps).length = ps.length * 4 := flat_len (f := ptc) (fun _ => rfl) ps
theorem frcs_len (xs : List Fr) : (frcs xs).length = xs.length * 2 := flat_len (f := frc) (fun _ => rfl) xs
theorem block_add (a : Addr) (n : Nat) : (a.add n).block = a.block := by unfold Addr.add; split <;> rfl
theorem ptcs_get (ps : List Pt) (i r : Nat) (hi : i < ps.length) (hr : r < 4) : (ptcs ps)[i * 4 + r]? = (ptc (pAt ps i))[r]? := by
  unfold ptcs
  rw [flat_get (m := 4) (fun _ => rfl) ps i r hr]
  simp [pAt, hi]
def fAt (xs : List Fr) (i : Nat) : Fr := xs.getD i (0, 1)
theorem frcs_get (xs : List Fr) (i r : Nat) (hi : i < xs.length) (hr : r < 2) : (frcs xs)[i * 2 + r]? = (frc (fAt xs i))[r]? := by
  unfold frcs
  rw [flat_get (m := 2) (fun _ => rfl) xs i r hr]
  simp [fAt, hi]

theorem own_below {w w' : World} {base : Nat} {e : TypeId} {size : Nat} {v : Value} {n : Nat} {xs : List Value} (h : w.ownsRow base e size v n xs) (hb : Below w.heap.size w w') : w'.ownsRow base e size v n xs :=
  h.kept (row := none) ⟨hb.os, hb.tape, hb.output, hb.size, fun i hi _ => hb.block i hi⟩ (by cases hv : v.ownBlock <;> simp)
theorem own_set4 {w : World} {base : Nat} {e : TypeId} {g n cap : Nat} {xs : List Value} (h : w.ownsRow base e 4 (.slice (some ⟨g, 0, none⟩) n cap) n xs) (j : Nat) (a b c d : Value) :
    ((((w.setCell ⟨g, j, none⟩ a).setCell ⟨g, j + 1, none⟩ b).setCell ⟨g, j + 2, none⟩ c).setCell ⟨g, j + 3, none⟩ d).ownsRow base e 4 (.slice (some ⟨g, 0, none⟩) n cap) n ((((xs.set j a).set (j + 1) b).set (j + 2) c).set (j + 3) d) :=
  ((((h.stored j a).1.stored (j + 1) b).1.stored (j + 2) c).1.stored (j + 3) d).1
theorem set4_agree {xs ys : List Value} {k : Nat} {a b c d : Value} (h : ∀ j, j < k * 4 → xs[j]? = ys[j]?) (hl : k * 4 + 3 < xs.length) (h0 : ys[k * 4]? = some a) (h1 : ys[k * 4 + 1]? = some b) (h2 : ys[k * 4 + 2]? = some c) (h3 : ys[k * 4 + 3]? = some d) :
    ∀ j, j < (k + 1) * 4 → ((((xs.set (k * 4) a).set (k * 4 + 1) b).set (k * 4 + 2) c).set (k * 4 + 3) d)[j]? = ys[j]? := by
  intro j hj
  simp only [List.getElem?_set, List.length_set]
  have hcase : j < k * 4 ∨ j = k * 4 ∨ j = k * 4 + 1 ∨ j = k * 4 + 2 ∨ j = k * 4 + 3 := by omega
  rcases hcase with hlt | rfl | rfl | rfl | rfl
  · rw [if_neg (by omega), if_neg (by omega), if_neg (by omega), if_neg (by omega)]; exact h j hlt
  · rw [if_neg (by omega), if_neg (by omega), if_neg (by omega), if_pos rfl, if_pos (by omega), h0]
  · rw [if_neg (by omega), if_neg (by omega), if_pos rfl, if_pos (by omega), h1]
  · rw [if_neg (by omega), if_pos rfl, if_pos (by omega), h2]
  · rw [if_pos rfl, if_pos (by omega), h3]
theorem agree_all {xs ys : List Value} {n : Nat} (h : ∀ j, j < n → xs[j]? = ys[j]?) (hx : xs.length = n) (hy : ys.length = n) : xs = ys := by
  apply List.ext_getElem?
  intro j
  by_cases hj : j < n
  · exact h j hj
  · rw [List.getElem?_eq_none (by omega), List.getElem?_eq_none (by omega)]
theorem ptcs_at {ps : List Pt} {k : Nat} {a b c d : Int} (hk : k < ps.length) (hp : pAt ps k = ((a, b), (c, d))) :
    (ptcs ps)[k * 4]? = some (.int .i64 a) ∧ (ptcs ps)[k * 4 + 1]? = some (.int .i64 b) ∧ (ptcs ps)[k * 4 + 2]? = some (.int .i64 c) ∧ (ptcs ps)[k * 4 + 3]? = some (.int .i64 d) := by
  refine ⟨?_, ?_, ?_, ?_⟩
  · have := ptcs_get ps k 0 hk (by omega); rw [hp] at this; exact this
  · have := ptcs_get ps k 1 hk (by omega); rw [hp] at this; exact this
  · have := ptcs_get ps k 2 hk (by omega); rw [hp] at this; exact this
  · have := ptcs_get ps k 3 hk (by omega); rw [hp] at this; exact this

/-- A slice of points that came in: the law's own, of whatever address. -/
def ArgP (w : World) (A : Option Addr) (n : Nat) (ps : List Pt) : Prop :=
  ps.length = n ∧ (0 < n → ∃ ad, A = some ad ∧ ad.block < w.heap.size ∧ ∀ i, i < n → w.cell? (ad.add (i * 4)) = some (.int .i64 (pAt ps i).1.1) ∧ w.cell? ((ad.add (i * 4)).add 1) = some (.int .i64 (pAt ps i).1.2) ∧
    w.cell? ((ad.add (i * 4)).add 2) = some (.int .i64 (pAt ps i).2.1) ∧ w.cell? ((ad.add (i * 4)).add 3) = some (.int .i64 (pAt ps i).2.2))

theorem ArgP.below {w w' : World} {A : Option Addr} {n : Nat} {ps : List Pt} (h : ArgP w A n ps) (hb : Below w.heap.size w w') : ArgP w' A n ps :=
  ⟨h.1, fun hn => by
    obtain ⟨ad, e, hl, hc⟩ := h.2 hn
    have hbl : ∀ i j, ((ad.add i).add j).block < w.heap.size := fun i j => by rw [block_add, block_add]; exact hl
    refine ⟨ad, e, Nat.lt_of_lt_of_le hl hb.size, fun i hi => ?_⟩
    obtain ⟨h0, h1, h2, h3⟩ := hc i hi
    exact ⟨(hb.cell (by rw [block_add]; exact hl)).trans h0, (hb.cell (hbl _ _)).trans h1, (hb.cell (hbl _ _)).trans h2, (hb.cell (hbl _ _)).trans h3⟩⟩

set_option maxHeartbeats 400000 in
theorem szPointS_any (A : Option Addr) (n c : Nat) (hn : n ≤ maxLen) (w : World) :
    Calls Try.prog 4 #[.slice A n c, .int .i64 1048576] w fun e w' => e = .returned (.int .i64 (if n ≤ 1048576 then 1048576 - (n : Int) else -1)) ∧ w = w' := by
  unfold maxLen at hn
  by_cases h : n ≤ 1048576
  · rw [if_pos h]
    go_enter Try.func4, Try.ntmps4
    go_wp2
    go_ret
    exact ⟨rfl, rfl⟩
  · rw [if_neg h]
    go_enter Try.func4, Try.ntmps4
    go_wp2
    go_ret
    exact ⟨rfl, rfl⟩

theorem iPoint : (Try.prog.info? 45).map (fun i => (i.zero, i.size, i.bytes)) = some (some (.agg #[.int .i64 0, .int .i64 0, .int .i64 0, .int .i64 0]), 4, 32) := by kernel_rfl
theorem iRat : (Try.prog.info? 31).map (fun i => (i.zero, i.size, i.bytes)) = some (some (.agg #[.int .i64 0, .int .i64 0]), 2, 16) := by kernel_rfl
theorem iPoints : (Try.prog.info? 29).map (fun i => (i.zero, i.size, i.bytes)) = some (some (.slice none 0 0), 1, 24) := by kernel_rfl

set_option maxHeartbeats 800000 in
set_option maxRecDepth 100000 in
theorem toPointS_any (A : Option Addr) (n c : Nat) (ps : List Pt) (w : World) (ha : ArgP w A n ps) (hn : n ≤ 1048576) :
    Calls Try.prog 6 #[.slice A n c] w fun e w' => ∃ g : Nat, e = .returned (.slice (some ⟨g, 0, none⟩) n n) ∧ w'.ownsRow w.heap.size 45 4 (.slice (some ⟨g, 0, none⟩) n n) n (ptcs ps) ∧ Below w.heap.size w w' := by
  obtain ⟨i0, hi0, hz0, hz1, hz2⟩ := info_parts iPoint
  have hmk := fun W : World => run_make_full (P := Try.prog) W W.heap.size 29 45 i0 _ 4 Try.underlying29 hi0 hz0 hz1 .i64 .i64 n (by rw [hz2]; omega) (by unfold maxLen; omega) (Nat.le_refl _)
  obtain ⟨w1, hr1, ho1, hg1⟩ := hmk w
  clear hmk
  have HA := hide ha
  have HO := hide ho1
  have HG := hide hg1
  clear ha ho1 hg1
  go_enter Try.func6, Try.ntmps6
  go_wp2
  go_loopw [4] (fun i wr => ∃ (k : Nat) (xs : List Value), i = .int .i64 k ∧ k ≤ n ∧ wr.ownsRow w.heap.size 45 4 (.slice (some ⟨w.heap.size, 0, none⟩) n n) n xs ∧ Hid (∀ j, j < k * 4 → xs[j]? = (ptcs ps)[j]?) ∧ Below w.heap.size w wr) (fun i _ => n - (intOf i).toNat)
  case atStart => exact ⟨0, _, rfl, Nat.zero_le _, HO.out, hide (fun j hj => absurd hj (by omega)), (Below.refl _ _).grown HG.out (Nat.le_refl _) (by simp)⟩
  case round =>
    obtain ⟨k, xs, rfl, hk, hown, hxs, hb⟩ := hrel
    by_cases hlt : k < n
    · obtain ⟨ad, rfl, hbl, hcell⟩ := (HA.out).2 (by omega)
      obtain ⟨h0, h1, h2, h3⟩ := hcell k hlt
      clear hcell
      rcases hp : pAt ps k with ⟨⟨a, b⟩, ⟨c', d⟩⟩
      rw [hp] at h0 h1 h2 h3
      have HP := Lib.hid hp
      replace h0 : wr.cell? (ad.add (k * 4)) = some (.int .i64 a) := (hb.cell (by rw [block_add]; exact hbl)).trans h0
      replace h1 : wr.cell? ⟨(ad.add (k * 4)).block, (ad.add (k * 4)).off + 1, none⟩ = some (.int .i64 b) := (hb.cell (by show (ad.add (k * 4)).block < _; rw [block_add]; exact hbl)).trans h1
      replace h2 : wr.cell? ⟨(ad.add (k * 4)).block, (ad.add (k * 4)).off + 2, none⟩ = some (.int .i64 c') := (hb.cell (by show (ad.add (k * 4)).block < _; rw [block_add]; exact hbl)).trans h2
      replace h3 : wr.cell? ⟨(ad.add (k * 4)).block, (ad.add (k * 4)).off + 3, none⟩ = some (.int .i64 d) := (hb.cell (by show (ad.add (k * 4)).block < _; rw [block_add]; exact hbl)).trans h3
      clear hp hr1
      have HB := hide hb
      have HOW := hide hown
      have hbs := hb.size
      obtain ⟨hg0, hgl⟩ := hown.lt w.heap.size rfl
      have hff := fun j => hown.frozenAt (g := w.heap.size) (n := n) (cap := n) j
      have hc0 := hown.cellAt (g := w.heap.size) (n := n) (cap := n) (k * 4) (by omega)
      have hc1 := hown.cellAt (g := w.heap.size) (n := n) (cap := n) (k * 4 + 1) (by omega)
      have hc2 := hown.cellAt (g := w.heap.size) (n := n) (cap := n) (k * 4 + 2) (by omega)
      have hc3 := hown.cellAt (g := w.heap.size) (n := n) (cap := n) (k * 4 + 3) (by omega)
      have hlen := hown.1
      rw [List.getElem?_eq_getElem (by omega)] at hc0 hc1 hc2 hc3
      clear hb hown
      go_wp2_with (go_at_call 19; (with_reducible refine (toPoint_any a b c' d _).mono ?_); rintro e w2 ⟨rfl, hbw2⟩; obtain ⟨hcw2, hfw2⟩ := bcell hbw2; have hzw2 := hbw2.size; (try simp at hzw2))
      have hpl := (HA.out).1
      obtain ⟨k0, k1, k2, k3⟩ := ptcs_at (by omega) HP.out
      have hb := unhide HB
      clear h0 h1 h2 h3 hc0 hc1 hc2 hc3 hff hcw2 hfw2
      go_roundw
      case rel => exact ⟨k + 1, _, by go_num, by omega, own_set4 (own_below (unhide HOW) hbw2) (k * 4) _ _ _ _, hide (set4_agree (unhide hxs) (by omega) k0 k1 k2 k3), (by repeat (first | with_reducible exact Below.refl _ _ | with_reducible assumption | (with_reducible refine Below.trans ?_ (Below.mono (by assumption) (by first | omega | (simp <;> omega)))) | with_reducible apply Below.drew | with_reducible apply below_drewN | (with_reducible refine Below.alloc ?_ (by first | omega | (simp <;> omega)) _) | (with_reducible refine Below.setCell ?_ (by first | omega | (simp <;> omega)) _)))⟩
      case measure => simp [intOf]; omega
    · obtain rfl : k = n := by omega
      have hpl := (HA.out).1
      have e : xs = ptcs ps := agree_all (unhide hxs) hown.1 (by rw [ptcs_len, hpl])
      subst e
      have HOW := hide hown
      have HB := hide hb
      clear hown hb
      go_wp2
      go_ret
      exact ⟨w.heap.size, rfl, unhide HOW, unhide HB⟩

set_option maxRecDepth 100000 in
theorem eqRat_same (a b : Int) (w : World) :
    Calls Try.prog 37 #[.agg #[.int .i64 (a), .int .i64 (b)], .agg #[.int .i64 (a), .int .i64 (b)]] w fun e w' => e = .returned (.bool true) ∧ Below w.heap.size w w' := by
  go_enter Try.func37, Try.ntmps37
  go_wp2
  go_ret
  exact ⟨rfl, (by repeat (first | with_reducible exact Below.refl _ _ | with_reducible assumption | (with_reducible refine Below.trans ?_ (Below.mono (by assumption) (by first | omega | (simp <;> omega)))) | with_reducible apply Below.drew | with_reducible apply below_drewN | (with_reducible refine Below.alloc ?_ (by first | omega | (simp <;> omega)) _) | (with_reducible refine Below.setCell ?_ (by first | omega | (simp <;> omega)) _)))⟩
set_option maxRecDepth 100000 in
theorem eqPoint_same (a b c d : Int) (w : World) :
    Calls Try.prog 24 #[.agg #[.int .i64 (a), .int .i64 (b), .int .i64 (c), .int .i64 (d)], .agg #[.int .i64 (a), .int .i64 (b), .int .i64 (c), .int .i64 (d)]] w fun e w' => e = .returned (.bool true) ∧ Below w.heap.size w w' := by
  go_enter Try.func24, Try.ntmps24
  go_wp2_with (first | (go_at_call 37; (with_reducible refine (eqRat_same a b _).mono ?_); rintro e w1 ⟨rfl, hbw1⟩; obtain ⟨hcw1, hfw1⟩ := bcell hbw1; have hzw1 := hbw1.size; (try simp at hzw1); (try ((have kw1w0 := (bnew hbw1) (w.heap.size) ?pf); (case pf => (first | omega | (simp; done) | (simp; omega))); obtain ⟨kcw1w0, kfw1w0, klw1w0⟩ := kw1w0)); (try ((have kw1w1 := (bnew hbw1) (w.heap.size + 1) ?pf); (case pf => (first | omega | (simp; done) | (simp; omega))); obtain ⟨kcw1w1, kfw1w1, klw1w1⟩ := kw1w1))) | (go_at_call 37; (with_reducible refine (eqRat_same c d _).mono ?_); rintro e w2 ⟨rfl, hbw2⟩; obtain ⟨hcw2, hfw2⟩ := bcell hbw2; have hzw2 := hbw2.size; (try simp at hzw2); (try ((have kw2w0 := (bnew hbw2) (w.heap.size) ?pf); (case pf => (first | omega | (simp; done) | (simp; omega))); obtain ⟨kcw2w0, kfw2w0, klw2w0⟩ := kw2w0)); (try ((have kw2w1 := (bnew hbw2) (w.heap.size + 1) ?pf); (case pf => (first | omega | (simp; done) | (simp; omega))); obtain ⟨kcw2w1, kfw2w1, klw2w1⟩ := kw2w1))))
  go_ret
  exact ⟨rfl, (by repeat (first | with_reducible exact Below.refl _ _ | with_reducible assumption | (with_reducible refine Below.trans ?_ (Below.mono (by assumption) (by first | omega | (simp <;> omega)))) | with_reducible apply Below.drew | with_reducible apply below_drewN | (with_reducible refine Below.alloc ?_ (by first | omega | (simp <;> omega)) _) | (with_reducible refine Below.setCell ?_ (by first | omega | (simp <;> omega)) _)))⟩

theorem frcs_at {xs : List Fr} {k : Nat} {a b : Int} (hk : k < xs.length) (hp : fAt xs k = (a, b)) : (frcs xs)[k * 2]? = some (.int .i64 a) ∧ (frcs xs)[k * 2 + 1]? = some (.int .i64 b) := by
  refine ⟨?_, ?_⟩
  · have := frcs_get xs k 0 hk (by omega); rw [hp] at this; exact this
  · have := frcs_get xs k 1 hk (by omega); rw [hp] at this; exact this
/-- The cells of element k of a slice of fractions. -/
theorem frs_cells {w : World} {base : Nat} {A : Option Addr} {n c : Nat} {xs : List Fr} {k : Nat} {a b : Int} (h : w.ownsRow base 31 2 (.slice A n c) n (frcs xs)) (hk : k < n) (hp : fAt xs k = (a, b)) :
    ∃ g, A = some ⟨g, 0, none⟩ ∧ g < w.heap.size ∧ base ≤ g ∧ w.cell? ⟨g, k * 2, none⟩ = some (.int .i64 a) ∧ w.cell? ⟨g, k * 2 + 1, none⟩ = some (.int .i64 b) := by
  obtain ⟨g, cap, hv, _, hlt⟩ := h.form (by omega)
  have hA : A = some ⟨g, 0, none⟩ ∧ c = cap := by injection hv with h1 _ h2; exact ⟨h1, h2⟩
  obtain ⟨rfl, rfl⟩ := hA
  have hl : xs.length = n := by have := h.1; rw [frcs_len] at this; omega
  obtain ⟨k0, k1⟩ := frcs_at (by omega) hp
  exact ⟨g, rfl, hlt, (h.lt g rfl).1, (h.cellAt (k * 2) (by omega)).trans k0, (h.cellAt (k * 2 + 1) (by omega)).trans k1⟩
theorem pts_cells {w : World} {base : Nat} {A : Option Addr} {n c : Nat} {ps : List Pt} {k : Nat} {a b p q : Int} (h : w.ownsRow base 45 4 (.slice A n c) n (ptcs ps)) (hk : k < n) (hp : pAt ps k = ((a, b), (p, q))) :
    ∃ g, A = some ⟨g, 0, none⟩ ∧ g < w.heap.size ∧ base ≤ g ∧ w.cell? ⟨g, k * 4, none⟩ = some (.int .i64 a) ∧ w.cell? ⟨g, k * 4 + 1, none⟩ = some (.int .i64 b) ∧ w.cell? ⟨g, k * 4 + 2, none⟩ = some (.int .i64 p) ∧ w.cell? ⟨g, k * 4 + 3, none⟩ = some (.int .i64 q) := by
  obtain ⟨g, cap, hv, _, hlt⟩ := h.form (by omega)
  have hA : A = some ⟨g, 0, none⟩ ∧ c = cap := by injection hv with h1 _ h2; exact ⟨h1, h2⟩
  obtain ⟨rfl, rfl⟩ := hA
  have hl : ps.length = n := by have := h.1; rw [ptcs_len] at this; omega
  obtain ⟨k0, k1, k2, k3⟩ := ptcs_at (by omega) hp
  exact ⟨g, rfl, hlt, (h.lt g rfl).1, (h.cellAt (k * 4) (by omega)).trans k0, (h.cellAt (k * 4 + 1) (by omega)).trans k1, (h.cellAt (k * 4 + 2) (by omega)).trans k2, (h.cellAt (k * 4 + 3) (by omega)).trans k3⟩

set_option maxRecDepth 100000 in
set_option maxHeartbeats 400000 in
theorem eqPointS_same (A B : Option Addr) (n c d b1 b2 : Nat) (xs : List Pt) (w : World) (ha : w.ownsRow b1 45 4 (.slice A n c) n (ptcs xs)) (hb : w.ownsRow b2 45 4 (.slice B n d) n (ptcs xs)) (hn : n ≤ 1048576) :
    Calls Try.prog 10 #[.slice A n c, .slice B n d] w fun e w' => e = .returned (.bool true) ∧ Below w.heap.size w w' := by
  have HA := hide ha
  have HB := hide hb
  clear ha hb
  go_enter Try.func10, Try.ntmps10
  go_wp2
  go_loopw [5] (fun i wr => ∃ k : Nat, i = .int .i64 k ∧ k ≤ n ∧ Below w.heap.size w wr) (fun i _ => n - (intOf i).toNat)
  case atStart => exact ⟨0, rfl, Nat.zero_le _, Below.refl _ _⟩
  case round =>
    obtain ⟨k, rfl, hk, hb⟩ := hrel
    by_cases hlt : k < n
    · rcases hp : pAt xs k with ⟨⟨x, y⟩, ⟨p, q⟩⟩
      obtain ⟨g, rfl, hg, _, h0, h1, h2, h3⟩ := pts_cells (own_below (unhide HA) hb) hlt hp
      obtain ⟨g', rfl, hg', _, h0', h1', h2', h3'⟩ := pts_cells (own_below (unhide HB) hb) hlt hp
      have HP := Lib.hid hp; clear hp
      have HBE := hide hb; clear hb
      go_upto_region 6 with fail
      go_cut [26] (fun s26 wx => s26 = .bool false ∧ Below wr.heap.size wr wx)
      case first =>
        go_region_held3 (fun w' => (w'.cell? ⟨g, k * 4, none⟩ = some (.int .i64 x) ∧ w'.cell? ⟨g, k * 4 + 1, none⟩ = some (.int .i64 y) ∧ w'.cell? ⟨g, k * 4 + 2, none⟩ = some (.int .i64 p) ∧ w'.cell? ⟨g, k * 4 + 3, none⟩ = some (.int .i64 q)) ∧
            w'.cell? ⟨g', k * 4, none⟩ = some (.int .i64 x) ∧ w'.cell? ⟨g', k * 4 + 1, none⟩ = some (.int .i64 y) ∧ w'.cell? ⟨g', k * 4 + 2, none⟩ = some (.int .i64 p) ∧ w'.cell? ⟨g', k * 4 + 3, none⟩ = some (.int .i64 q)) (simp [go_sem, *])
          ((go_at_call 24; (with_reducible refine (eqPoint_same x y p q _).mono ?_); rintro e w1 ⟨rfl, hbw1⟩; obtain ⟨hcw1, hfw1⟩ := bcell hbw1; have hzw1 := hbw1.size; (try simp at hzw1); (try ((have kw1gX0 := (bnew hbw1) (g) ?pf); (case pf => (first | omega | (simp; done) | (simp; omega))); obtain ⟨kcw1gX0, kfw1gX0, klw1gX0⟩ := kw1gX0)); (try ((have kw1g'X0 := (bnew hbw1) (g') ?pf); (case pf => (first | omega | (simp; done) | (simp; omega))); obtain ⟨kcw1g'X0, kfw1g'X0, klw1g'X0⟩ := kw1g'X0))))
        all_goals
          go_wp2_with fail
          go_meet
          exact ⟨rfl, (by repeat (first | with_reducible exact Below.refl _ _ | with_reducible assumption | (with_reducible refine Below.trans ?_ (Below.mono (by assumption) (by first | omega | (simp <;> omega)))) | with_reducible apply Below.drew | with_reducible apply below_drewN | (with_reducible refine Below.alloc ?_ (by first | omega | (simp <;> omega)) _) | (with_reducible refine Below.setCell ?_ (by first | omega | (simp <;> omega)) _)))⟩
      case rest =>
        obtain ⟨rfl, hbx⟩ := hcut
        have hb := unhide HBE
        have hz := hb.size
        go_wp2_with fail
        go_roundw
        case rel => exact ⟨k + 1, by go_num, by omega, (by repeat (first | with_reducible exact Below.refl _ _ | with_reducible assumption | (with_reducible refine Below.trans ?_ (Below.mono (by assumption) (by first | omega | (simp <;> omega)))) | with_reducible apply Below.drew | with_reducible apply below_drewN | (with_reducible refine Below.alloc ?_ (by first | omega | (simp <;> omega)) _) | (with_reducible refine Below.setCell ?_ (by first | omega | (simp <;> omega)) _)))⟩
        case measure => simp [intOf]; omega
    · have HB := hide hb
      clear hb
      go_wp2
      go_ret
      exact ⟨rfl, unhide HB⟩

/-! ### Marks -/
def mkF (n : Nat) : List Fr := (List.range n).map fun i : Nat => (1 + 2 * (i : Int), 1 + 2 * (i : Int) + 1)
def mkP (n : Nat) : List Pt := (List.range n).map fun i : Nat => ((1 + 4 * (i : Int), 1 + 4 * (i : Int) + 1), (1 + 4 * (i : Int) + 1 + 1, 1 + 4 * (i : Int) + 1 + 1 + 1))
theorem mkF_len (n : Nat) : (mkF n).length = n := by simp [mkF]
theorem mkP_len (n : Nat) : (mkP n).length = n := by simp [mkP]
theorem mkF_at {n k : Nat} (h : k < n) : fAt (mkF n) k = (1 + 2 * (k : Int), 1 + 2 * (k : Int) + 1) := by simp [mkF, fAt, h]
theorem mkP_at {n k : Nat} (h : k < n) : pAt (mkP n) k = ((1 + 4 * (k : Int), 1 + 4 * (k : Int) + 1), (1 + 4 * (k : Int) + 1 + 1, 1 + 4 * (k : Int) + 1 + 1 + 1)) := by simp [mkP, pAt, h]
theorem own_set2 {w : World} {base : Nat} {e : TypeId} {g n cap : Nat} {xs : List Value} (h : w.ownsRow base e 2 (.slice (some ⟨g, 0, none⟩) n cap) n xs) (j : Nat) (a b : Value) :
    ((w.setCell ⟨g, j, none⟩ a).setCell ⟨g, j + 1, none⟩ b).ownsRow base e 2 (.slice (some ⟨g, 0, none⟩) n cap) n ((xs.set j a).set (j + 1) b) := ((h.stored j a).1.stored (j + 1) b).1
theorem set2_agree {xs ys : List Value} {k : Nat} {a b : Value} (h : ∀ j, j < k * 2 → xs[j]? = ys[j]?) (hl : k * 2 + 1 < xs.length) (h0 : ys[k * 2]? = some a) (h1 : ys[k * 2 + 1]? = some b) :
    ∀ j, j < (k + 1) * 2 → ((xs.set (k * 2) a).set (k * 2 + 1) b)[j]? = ys[j]? := by
  intro j hj
  simp only [List.getElem?_set, List.length_set]
  have hcase : j < k * 2 ∨ j = k * 2 ∨ j = k * 2 + 1 := by omega
  rcases hcase with hlt | rfl | rfl
  · rw [if_neg (by omega), if_neg (by omega)]; exact h j hlt
  · rw [if_neg (by omega), if_pos rfl, if_pos (by omega), h0]
  · rw [if_pos rfl, if_pos (by omega), h1]
theorem grown_set {a w : World} {g : Nat} (h : a.grownBy w (some g)) (j : Nat) (u : Value) : a.grownBy (w.setCell ⟨g, j, none⟩ u) (some g) :=
  ⟨h.os, h.tape, h.output, by simpa [World.setCell] using h.size, fun i hi hne => (Below.heap_setCell w ⟨g, j, none⟩ u i (fun e => hne (by rw [e]))).trans (h.block i hi hne)⟩

set_option maxRecDepth 100000 in
set_option maxHeartbeats 400000 in
theorem markPointS_any (A : Option Addr) (n c base : Nat) (xs : List Value) (w : World) (ha : w.ownsRow base 45 4 (.slice A n c) n xs) (hn : n ≤ 1048576) :
    Calls Try.prog 11 #[.slice A n c, .int .i64 1] w fun e w' => e = .returned (.int .i64 (1 + 4 * (n : Int))) ∧ w'.ownsRow base 45 4 (.slice A n c) n (ptcs (mkP n)) ∧ w.grownBy w' (Value.slice A n c).ownBlock := by
  have HA := hide ha
  clear ha
  go_enter Try.func11, Try.ntmps11
  go_wp2
  go_loopw [1, 5] (fun v i wr => ∃ (k : Nat) (ys : List Value), i = .int .i64 k ∧ v = .int .i64 (1 + 4 * (k : Int)) ∧ k ≤ n ∧ wr.ownsRow base 45 4 (.slice A n c) n ys ∧ Hid (∀ j, j < k * 4 → ys[j]? = (ptcs (mkP n))[j]?) ∧ w.grownBy wr (Value.slice A n c).ownBlock) (fun _ i _ => n - (intOf i).toNat)
  case atStart => exact ⟨0, xs, rfl, rfl, Nat.zero_le _, unhide HA, hide (fun j hj => absurd hj (by omega)), World.grownBy.refl _ _⟩
  case round =>
    obtain ⟨k, ys, rfl, rfl, hk, hown, hag, hgr⟩ := hrel
    have hlen := hown.1
    by_cases hlt : k < n
    · obtain ⟨g, cap, hv, _, hgl⟩ := hown.form (by omega)
      have hA : A = some ⟨g, 0, none⟩ ∧ c = cap := by injection hv with h1 _ h2; exact ⟨h1, h2⟩
      obtain ⟨rfl, rfl⟩ := hA
      have hc0 := hown.cellAt (k * 4) (by omega)
      have hc1 := hown.cellAt (k * 4 + 1) (by omega)
      have hc2 := hown.cellAt (k * 4 + 2) (by omega)
      have hc3 := hown.cellAt (k * 4 + 3) (by omega)
      rw [List.getElem?_eq_getElem (by omega)] at hc0 hc1 hc2 hc3
      have hff := fun j => hown.frozenAt j
      obtain ⟨k0, k1, k2, k3⟩ := ptcs_at (ps := mkP n) (by rw [mkP_len]; omega) (mkP_at hlt)
      have HO := hide (own_set4 hown (k * 4) (.int .i64 (1 + 4 * (k : Int))) (.int .i64 (1 + 4 * (k : Int) + 1)) (.int .i64 (1 + 4 * (k : Int) + 1 + 1)) (.int .i64 (1 + 4 * (k : Int) + 1 + 1 + 1)))
      have HG := hide (grown_set (grown_set (grown_set (grown_set hgr (k * 4) (.int .i64 (1 + 4 * (k : Int)))) (k * 4 + 1) (.int .i64 (1 + 4 * (k : Int) + 1))) (k * 4 + 2) (.int .i64 (1 + 4 * (k : Int) + 1 + 1))) (k * 4 + 3) (.int .i64 (1 + 4 * (k : Int) + 1 + 1 + 1)))
      have HS := hide (set4_agree (unhide hag) (by omega) k0 k1 k2 k3)
      clear hown hgr hag hv k0 k1 k2 k3 HA
      go_wp2
      clear hc0 hc1 hc2 hc3 hff
      go_roundw
      case rel => exact ⟨k + 1, _, by go_num, congrArg (Value.int .i64) (by omega), by omega, unhide HO, HS, unhide HG⟩
      case measure => simp [intOf]; omega
    · obtain rfl : k = n := by omega
      have e : ys = ptcs (mkP k) := agree_all (unhide hag) hown.1 (by rw [ptcs_len, mkP_len])
      subst e
      have HOW := hide hown
      have HB := hide hgr
      clear hown hgr
      go_wp2
      go_ret
      exact ⟨rfl, unhide HOW, unhide HB⟩
end Go.Proofs.Ythccdooacbablab

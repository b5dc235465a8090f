/-
  What a row over a slice of points needs: the argument opened, and shut again behind the call.
-/
import Derived.Test.YthccdooacbablabSl
import Derived.Test.YthccdooacbablabRowKit
import Derived.Deep.Slices
import Derived.Clock
namespace Go.Proofs.Ythccdooacbablab
open Go.ChangeShapes Go.WideShapes Go.ChangeAt Go.RowKit Go.Joins Go.Deep Rm

theorem cellsP : Try.prog.cellsOf 48 = 4 := by kernel_rfl
section
variable {H : Type} {enc : TypeId × Value → H} {w : World} {base : Nat} {sp : Nat → Bool} {held : Bool}
set_option maxRecDepth 100000 in
theorem fr_open {n : Nat} {cs : List Value} {x : DataW H × List MemPlace} (h : DataW.trod enc Try.prog w base sp held n 24 cs = some x) :
    ∃ a b : Int, cs = [.int .i64 a, .int .i64 b] ∧ (Lit.int .i64 a).wf = true ∧ (Lit.int .i64 b).wf = true ∧ x = (.agg [.lit (.int .i64 a), .lit (.int .i64 b)], []) := by
  obtain ⟨y0, y1, m, rfl, hl, h0, h1⟩ := trod_struct2 Try.underlying24 h
  rw [cellsR] at hl
  match cs, hl with
  | [c0, c1], _ =>
    have e : Try.prog.cellsOf 3 = 1 := by kernel_rfl
    rw [e] at h0 h1
    obtain ⟨a, e0, rfl, w0⟩ := DataW.trod_int Try.underlying3 h0
    obtain ⟨b, e1, rfl, w1⟩ := DataW.trod_int Try.underlying3 h1
    simp at e0 e1
    subst e0 e1
    exact ⟨a, b, rfl, w0, w1, rfl⟩
set_option maxRecDepth 100000 in
theorem fr_shut {a b : Int} (wa : (Lit.int .i64 a).wf = true) (wb : (Lit.int .i64 b).wf = true) (m : Nat) :
    DataW.trod enc Try.prog w base sp held (m + 2) 24 [.int .i64 a, .int .i64 b] = some (.agg [.lit (.int .i64 a), .lit (.int .i64 b)], []) := by
  have e : Try.prog.cellsOf 3 = 1 := by kernel_rfl
  refine trod_struct2_mk (y0 := (.lit (.int .i64 a), [])) (y1 := (.lit (.int .i64 b), [])) Try.underlying24 (by rw [cellsR]; rfl) ?_ ?_
  · rw [e]; exact trod_int_mk m Try.underlying3 wa
  · rw [e]; exact trod_int_mk m Try.underlying3 wb
set_option maxRecDepth 100000 in
theorem pt_open {n : Nat} {cs : List Value} {x : DataW H × List MemPlace} (h : DataW.trod enc Try.prog w base sp held n 48 cs = some x) :
    ∃ a b c d : Int, cs = [.int .i64 a, .int .i64 b, .int .i64 c, .int .i64 d] ∧ (Lit.int .i64 a).wf = true ∧ (Lit.int .i64 b).wf = true ∧ (Lit.int .i64 c).wf = true ∧ (Lit.int .i64 d).wf = true ∧
      x = (.agg [.agg [.lit (.int .i64 a), .lit (.int .i64 b)], .agg [.lit (.int .i64 c), .lit (.int .i64 d)]], []) := by
  obtain ⟨y0, y1, m, rfl, hl, h0, h1⟩ := trod_struct2 Try.underlying48 h
  rw [cellsP] at hl
  match cs, hl with
  | [c0, c1, c2, c3], _ =>
    rw [cellsR] at h0 h1
    obtain ⟨a, b, e0, wa, wb, rfl⟩ := fr_open h0
    obtain ⟨c, d, e1, wc, wd, rfl⟩ := fr_open h1
    simp at e0 e1
    obtain ⟨rfl, rfl⟩ := e0
    obtain ⟨rfl, rfl⟩ := e1
    exact ⟨a, b, c, d, rfl, wa, wb, wc, wd, rfl⟩
set_option maxRecDepth 100000 in
theorem pt_shut {a b c d : Int} (wa : (Lit.int .i64 a).wf = true) (wb : (Lit.int .i64 b).wf = true) (wc : (Lit.int .i64 c).wf = true) (wd : (Lit.int .i64 d).wf = true) :
    DataW.trod enc Try.prog w base sp held 3 48 [.int .i64 a, .int .i64 b, .int .i64 c, .int .i64 d] = some (.agg [.agg [.lit (.int .i64 a), .lit (.int .i64 b)], .agg [.lit (.int .i64 c), .lit (.int .i64 d)]], []) := by
  refine trod_struct2_mk (y0 := (.agg [.lit (.int .i64 a), .lit (.int .i64 b)], [])) (y1 := (.agg [.lit (.int .i64 c), .lit (.int .i64 d)], [])) Try.underlying48 (by rw [cellsP]; rfl) ?_ ?_
  · rw [cellsR]; exact fr_shut wa wb 0
  · rw [cellsR]; exact fr_shut wc wd 0
/-- Stands here so that the section ends where every declaration with a function's name falls away. -/
theorem rowP_end : True := trivial
end

set_option maxRecDepth 100000 in
/-- A slice of points that came in: what its cells are, and that it reads the same behind whatever makes new memory alone. -/
theorem open_points {H : Type} {enc : TypeId × Value → H} {W : World} {v0 : Value} {d0 : DataW H} {p0 : List MemPlace} {r : Reach} {b : Nat}
    (hv : Value.okWide Try.prog W r b 22 v0) (h : DataW.Trod enc Try.prog W 0 (fun _ => true) true 22 v0 d0 p0) :
    ∃ (A : Option Addr) (n c : Nat) (ps : List Pt), v0 = .slice A n c ∧ n ≤ maxLen ∧ ArgP W A n ps ∧
      ∀ (W' : World) (sp : Nat → Bool), Below W.heap.size W W' → (∀ p ∈ p0, sp p.block = true) → DataW.Trod enc Try.prog W' 0 sp true 22 v0 d0 p0 := by
  obtain ⟨A, n, c, rfl⟩ := okWide_slice Try.underlying22 hv
  obtain ⟨fuel, hf⟩ := h
  have hf' : DataW.trod enc Try.prog W 0 (fun _ => true) true fuel 22 [.slice A n c] = some (d0, p0) := by simpa [Value.cells] using hf
  rcases open_slice Try.underlying22 hf' with ⟨hc, hx⟩ | ⟨a, len, cap, mm, m, D, Pl, hc, _, hl, hm, hmm, hx, hall⟩
  · simp at hc hx
    obtain ⟨rfl, rfl, rfl⟩ := hc
    obtain ⟨rfl, rfl⟩ := hx
    refine ⟨none, 0, 0, [], rfl, Nat.zero_le _, ⟨rfl, fun h => absurd h (by omega)⟩, fun W' sp _ _ => ⟨1, ?_⟩⟩
    simp [Value.cells, DataW.trod, Try.underlying22]
  · simp at hc
    obtain ⟨rfl, rfl, rfl⟩ := hc
    simp at hmm
    subst hmm
    simp only [Prod.mk.injEq] at hx
    obtain ⟨rfl, rfl⟩ := hx
    rw [cellsP] at hall
    have key : ∀ i, i < mm → ∃ q : Pt, (Lit.int .i64 q.1.1).wf = true ∧ (Lit.int .i64 q.1.2).wf = true ∧ (Lit.int .i64 q.2.1).wf = true ∧ (Lit.int .i64 q.2.2).wf = true ∧
        W.cells? 0 (a.add (i * 4)) 4 = some [.int .i64 q.1.1, .int .i64 q.1.2, .int .i64 q.2.1, .int .i64 q.2.2] ∧
        D i = .agg [.agg [.lit (.int .i64 q.1.1), .lit (.int .i64 q.1.2)], .agg [.lit (.int .i64 q.2.1), .lit (.int .i64 q.2.2)]] ∧ Pl i = [] := by
      intro i hi
      obtain ⟨cs', h1, h2⟩ := hall i hi
      obtain ⟨x, y, z, t, rfl, wx, wy, wz, wt, hx⟩ := pt_open h2
      simp only [Prod.mk.injEq] at hx
      exact ⟨((x, y), (z, t)), wx, wy, wz, wt, h1, hx.1, hx.2⟩
    obtain ⟨f, hfn⟩ := choose_lt key
    have hat : ∀ i, i < n → pAt ((List.range n).map f) i = f i := fun i hi => by simp [pAt, hi]
    refine ⟨some a, n, mm, (List.range n).map f, rfl, by omega, ⟨by simp, fun hn => ⟨a, rfl, ?_, fun i hi => ?_⟩⟩, fun W' sp hb hsp => ?_⟩
    · have h0 := (World.cells?_some (hfn 0 (by omega)).2.2.2.2.1).2.2 0 (by omega)
      have h1 : W.cell? (a.add (0 * 4)) = some (.int .i64 (f 0).1.1) := by simpa [Addr.add] using h0
      have := Clock.block_lt h1
      rwa [block_add] at this
    · rw [hat i hi]
      have h0 := (World.cells?_some (hfn i (by omega)).2.2.2.2.1).2.2
      refine ⟨by simpa [Addr.add] using h0 0 (by omega), h0 1 (by omega), h0 2 (by omega), h0 3 (by omega)⟩
    · have hD : ∀ i, i < mm → ∃ cs k, W'.cells? 0 (a.add (i * Try.prog.cellsOf 48)) (Try.prog.cellsOf 48) = some cs ∧ DataW.trod enc Try.prog W' 0 sp true k 48 cs = some (D i, Pl i) := by
        intro i hi
        obtain ⟨wx, wy, wz, wt, h1, h2, h3⟩ := hfn i hi
        rw [cellsP]
        refine ⟨_, 3, World.cells?_carry h1 fun p hp => ?_, ?_⟩
        · refine hb.same ?_
          obtain ⟨j, hj, rfl⟩ := MemPlace.mem_row.1 hp
          have h0 := (World.cells?_some h1).2.2 0 (by omega)
          have h1' : W.cell? (a.add (i * 4)) = some (.int .i64 (f i).1.1) := by simpa [Addr.add] using h0
          exact Clock.block_lt h1'
        · rw [h2, h3]; exact pt_shut wx wy wz wt
      rcases Nat.eq_zero_or_pos mm with h0 | h0
      · subst h0
        obtain rfl : n = 0 := by omega
        cases hs : sp a.block with
        | true =>
          have := shut_slice_whole (t := 22) (spare := sp) (held := true) (base := 0) Try.underlying22 (Nat.zero_le _) (Nat.le_refl 0) (Nat.zero_le _) hs D Pl hD
          simpa using this
        | false =>
          have := shut_slice (t := 22) (spare := sp) (held := true) (base := 0) Try.underlying22 (Nat.zero_le _) (Nat.le_refl 0) (Nat.zero_le _) hs D Pl hD
          simpa using this
      · have hs : sp a.block = true := by
          have : MemPlace.cell a.block a.off ∈ MemPlace.row a (mm * Try.prog.cellsOf 48) ++ (List.range mm).flatMap Pl := by
            refine List.mem_append_left _ (MemPlace.mem_row.2 ⟨0, by rw [cellsP]; omega, rfl⟩)
          exact hsp _ this
        exact shut_slice_whole (spare := sp) (held := true) (base := 0) Try.underlying22 (Nat.zero_le _) hl hm hs D Pl hD
end Go.Proofs.Ythccdooacbablab

/-
  What a row over a list of named maps needs: the argument opened, and shut again behind the call.
-/
import Derived.Test.YtafcdlojlfnjbaaDoorRowP
import Derived.Test.YtafcdlojlfnjbaaDoorHa
namespace Go.Proofs.YtafcdlojlfnjbaaDoor
open Go.ChangeShapes Go.WideShapes Go.ChangeAt Go.RowKit Go.Joins Go.Deep Rm

set_option maxRecDepth 100000 in
/-- A slice of points that came in: what its cells are, and that it reads the same behind whatever makes new memory alone. -/
theorem open_points_of {H : Type} {enc : TypeId × Value → H} {W : World} {v0 : Value} {d0 : DataW H} {p0 : List MemPlace}
    (hv : ∃ A n c, v0 = .slice A n c) (h : DataW.Trod enc Tryd.prog W 0 (fun _ => true) true 31 v0 d0 p0) :
    ∃ (A : Option Addr) (n c : Nat) (ps : List Pt), v0 = .slice A n c ∧ n ≤ maxLen ∧ ArgP W A n ps ∧
      ∀ (W' : World) (sp : Nat → Bool), Below W.heap.size W W' → (∀ p ∈ p0, sp p.block = true) → DataW.Trod enc Tryd.prog W' 0 sp true 31 v0 d0 p0 := by
  obtain ⟨A, n, c, rfl⟩ := hv
  obtain ⟨fuel, hf⟩ := h
  have hf' : DataW.trod enc Tryd.prog W 0 (fun _ => true) true fuel 31 [.slice A n c] = some (d0, p0) := by simpa [Value.cells] using hf
  rcases open_slice Tryd.underlying31 hf' with ⟨hc, hx⟩ | ⟨a, len, cap, mm, m, D, Pl, hc, _, hl, hm, hmm, hx, hall⟩
  · simp at hc hx
    obtain ⟨rfl, rfl, rfl⟩ := hc
    obtain ⟨rfl, rfl⟩ := hx
    refine ⟨none, 0, 0, [], rfl, Nat.zero_le _, ⟨rfl, fun h => absurd h (by omega)⟩, fun W' sp _ _ => ⟨1, ?_⟩⟩
    simp [Value.cells, DataW.trod, Tryd.underlying31]
  · simp at hc
    obtain ⟨rfl, rfl, rfl⟩ := hc
    simp at hmm
    subst hmm
    simp only [Prod.mk.injEq] at hx
    obtain ⟨rfl, rfl⟩ := hx
    rw [cellsP] at hall
    have key : ∀ i, i < mm → ∃ q : Pt, (Lit.int .i64 q.1.1).wf = true ∧ (Lit.int .i64 q.1.2).wf = true ∧ (Lit.int .i64 q.2.1).wf = true ∧ (Lit.int .i64 q.2.2).wf = true ∧
        W.cells? 0 (a.add (i * 4)) 4 = some [.int .i64 q.1.1, .int .i64 q.1.2, .int .i64 q.2.1, .int .i64 q.2.2] ∧
        D i = .agg [.agg [.lit (.int .i64 q.1.1), .lit (.int .i64 q.1.2)], .agg [.lit (.int .i64 q.2.1), .lit (.int .i64 q.2.2)]] ∧ Pl i = [] := by
      intro i hi
      obtain ⟨cs', h1, h2⟩ := hall i hi
      obtain ⟨x, y, z, t, rfl, wx, wy, wz, wt, hx⟩ := pt_open h2
      simp only [Prod.mk.injEq] at hx
      exact ⟨((x, y), (z, t)), wx, wy, wz, wt, h1, hx.1, hx.2⟩
    obtain ⟨f, hfn⟩ := choose_lt key
    have hat : ∀ i, i < n → pAt ((List.range n).map f) i = f i := fun i hi => by simp [pAt, hi]
    refine ⟨some a, n, mm, (List.range n).map f, rfl, by omega, ⟨by simp, fun hn => ⟨a, rfl, ?_, fun i hi => ?_⟩⟩, fun W' sp hb hsp => ?_⟩
    · have h0 := (World.cells?_some (hfn 0 (by omega)).2.2.2.2.1).2.2 0 (by omega)
      have h1 : W.cell? (a.add (0 * 4)) = some (.int .i64 (f 0).1.1) := by simpa [Addr.add] using h0
      have := Clock.block_lt h1
      rwa [block_add] at this
    · rw [hat i hi]
      have h0 := (World.cells?_some (hfn i (by omega)).2.2.2.2.1).2.2
      refine ⟨by simpa [Addr.add] using h0 0 (by omega), h0 1 (by omega), h0 2 (by omega), h0 3 (by omega)⟩
    · have hD : ∀ i, i < mm → ∃ cs k, W'.cells? 0 (a.add (i * Tryd.prog.cellsOf 73)) (Tryd.prog.cellsOf 73) = some cs ∧ DataW.trod enc Tryd.prog W' 0 sp true k 73 cs = some (D i, Pl i) := by
        intro i hi
        obtain ⟨wx, wy, wz, wt, h1, h2, h3⟩ := hfn i hi
        rw [cellsP]
        refine ⟨_, 3, World.cells?_carry h1 fun p hp => ?_, ?_⟩
        · refine hb.same ?_
          obtain ⟨j, hj, rfl⟩ := MemPlace.mem_row.1 hp
          have h0 := (World.cells?_some h1).2.2 0 (by omega)
          have h1' : W.cell? (a.add (i * 4)) = some (.int .i64 (f i).1.1) := by simpa [Addr.add] using h0
          exact Clock.block_lt h1'
        · rw [h2, h3]; exact pt_shut wx wy wz wt
      rcases Nat.eq_zero_or_pos mm with h0 | h0
      · subst h0
        obtain rfl : n = 0 := by omega
        cases hs : sp a.block with
        | true =>
          have := shut_slice_whole (t := 31) (spare := sp) (held := true) (base := 0) Tryd.underlying31 (Nat.zero_le _) (Nat.le_refl 0) (Nat.zero_le _) hs D Pl hD
          simpa using this
        | false =>
          have := shut_slice (t := 31) (spare := sp) (held := true) (base := 0) Tryd.underlying31 (Nat.zero_le _) (Nat.le_refl 0) (Nat.zero_le _) hs D Pl hD
          simpa using this
      · have hs : sp a.block = true := by
          have : MemPlace.cell a.block a.off ∈ MemPlace.row a (mm * Tryd.prog.cellsOf 73) ++ (List.range mm).flatMap Pl := by
            refine List.mem_append_left _ (MemPlace.mem_row.2 ⟨0, by rw [cellsP]; omega, rfl⟩)
          exact hsp _ this
        exact shut_slice_whole (spare := sp) (held := true) (base := 0) Tryd.underlying31 (Nat.zero_le _) hl hm hs D Pl hD

theorem cellsN : Tryd.prog.cellsOf 33 = 2 := by kernel_rfl
section
variable {H : Type} {enc : TypeId × Value → H} {w : World} {base : Nat} {sp : Nat → Bool} {held : Bool}
set_option maxRecDepth 100000 in
theorem nm_open {n : Nat} {cs : List Value} {x : DataW H × List MemPlace} (h : DataW.trod enc Tryd.prog w base sp held n 33 cs = some x) :
    ∃ (s : ByteArray) (v : Value) (y : DataW H × List MemPlace) (m : Nat), cs = [.string s, v] ∧ s.size ≤ maxLen ∧ DataW.trod enc Tryd.prog w base sp held m 31 [v] = some y ∧ x = (.agg [.lit (.string s.data.toList), y.1], y.2) := by
  obtain ⟨y0, y1, m, rfl, hl, h0, h1⟩ := trod_struct2 Tryd.underlying33 h
  rw [cellsN] at hl
  match cs, hl with
  | [c0, c1], _ =>
    have e0 : Tryd.prog.cellsOf 9 = 1 := by kernel_rfl
    have e1 : Tryd.prog.cellsOf 31 = 1 := by kernel_rfl
    rw [e0] at h0
    rw [e1] at h1
    obtain ⟨s, es, hy, hs⟩ := DataW.trod_string Tryd.underlying9 h0
    simp at es
    subst es
    rw [hy]
    exact ⟨s, c1, y1, m, rfl, hs, by simpa using h1, by simp⟩
set_option maxRecDepth 100000 in
theorem nm_shut {s : ByteArray} {v : Value} {y : DataW H × List MemPlace} (hs : s.size ≤ maxLen) (h : ∃ m, DataW.trod enc Tryd.prog w base sp held m 31 [v] = some y) :
    ∃ k, DataW.trod enc Tryd.prog w base sp held k 33 [.string s, v] = some (.agg [.lit (.string s.data.toList), y.1], y.2) := by
  obtain ⟨m, hm⟩ := h
  have e0 : Tryd.prog.cellsOf 9 = 1 := by kernel_rfl
  have e1 : Tryd.prog.cellsOf 31 = 1 := by kernel_rfl
  have hS : DataW.trod enc Tryd.prog w base sp held (m + 1) 9 [.string s] = some (.lit (.string s.data.toList), []) := by simp [DataW.trod, Tryd.underlying9, hs]
  refine ⟨m + 2, trod_struct2_mk (n := m + 1) (y0 := (.lit (.string s.data.toList), [])) (y1 := y) Tryd.underlying33 (by rw [cellsN]; rfl) ?_ ?_⟩
  · rw [e0]; exact hS
  · rw [e1]; exact DataW.trod_le (Nat.le_succ m) hm
/-- Stands here so that the section ends where every declaration with a function's name falls away. -/
theorem rowN_end : True := trivial
end

set_option maxRecDepth 100000 in
/-- A list of named maps that came in: what its cells are, and that it reads the same behind whatever makes new memory alone. -/
theorem open_named {H : Type} {enc : TypeId × Value → H} {W : World} {v0 : Value} {d0 : DataW H} {p0 : List MemPlace} {r : Reach} {b : Nat}
    (hv : Value.okWide Tryd.prog W r b 22 v0) (h : DataW.Trod enc Tryd.prog W 0 (fun _ => true) true 22 v0 d0 p0) :
    ∃ (A : Option Addr) (n c : Nat) (L : List NE), v0 = .slice A n c ∧ n ≤ maxLen ∧ ArgN W A n L ∧
      ∀ (W' : World) (sp : Nat → Bool), Below W.heap.size W W' → (∀ p ∈ p0, sp p.block = true) → DataW.Trod enc Tryd.prog W' 0 sp true 22 v0 d0 p0 := by
  obtain ⟨A, n, c, rfl⟩ := okWide_slice Tryd.underlying22 hv
  obtain ⟨fuel, hf⟩ := h
  have hf' : DataW.trod enc Tryd.prog W 0 (fun _ => true) true fuel 22 [.slice A n c] = some (d0, p0) := by simpa [Value.cells] using hf
  rcases open_slice Tryd.underlying22 hf' with ⟨hc, hx⟩ | ⟨a, len, cap, mm, m, D, Pl, hc, _, hl, hm, hmm, hx, hall⟩
  · simp at hc hx
    obtain ⟨rfl, rfl, rfl⟩ := hc
    obtain ⟨rfl, rfl⟩ := hx
    refine ⟨none, 0, 0, [], rfl, Nat.zero_le _, ⟨rfl, fun e he => (by cases he), fun h => absurd h (by omega)⟩, fun W' sp _ _ => ⟨1, ?_⟩⟩
    simp [Value.cells, DataW.trod, Tryd.underlying22]
  · simp at hc
    obtain ⟨rfl, rfl, rfl⟩ := hc
    simp at hmm
    subst hmm
    simp only [Prod.mk.injEq] at hx
    obtain ⟨rfl, rfl⟩ := hx
    rw [cellsN] at hall
    have key : ∀ i, i < mm → ∃ e : NE, e.s.size ≤ maxLen ∧ e.n ≤ maxLen ∧ ArgP W e.A e.n e.ps ∧ W.cells? 0 (a.add (i * 2)) 2 = some [.string e.s, .slice e.A e.n e.c] ∧
        ∀ (W' : World) (sp : Nat → Bool), Below W.heap.size W W' → (∀ p ∈ Pl i, sp p.block = true) → ∃ k, DataW.trod enc Tryd.prog W' 0 sp true k 33 [.string e.s, .slice e.A e.n e.c] = some (D i, Pl i) := by
      intro i hi
      obtain ⟨cs', h1, h2⟩ := hall i hi
      obtain ⟨s, v, y, q, rfl, hs, hy, hxx⟩ := nm_open h2
      simp only [Prod.mk.injEq] at hxx
      have hsh : ∃ A n c, v = .slice A n c := by
        rcases open_slice Tryd.underlying31 hy with ⟨hc, _⟩ | ⟨a, len, cap, _, _, _, _, hc, _⟩
        · simp at hc; exact ⟨_, _, _, hc⟩
        · simp at hc; exact ⟨_, _, _, hc⟩
      obtain ⟨A1, n1, c1, rfl⟩ := hsh
      obtain ⟨A', n', c', ps, hv', hn', hA', hR⟩ := open_points_of (enc := enc) (W := W) (v0 := .slice A1 n1 c1) (d0 := y.1) (p0 := y.2) ⟨A1, n1, c1, rfl⟩ ⟨q, by simpa [Value.cells] using hy⟩
      injection hv' with e1 e2 e3
      subst e1 e2 e3
      refine ⟨⟨s, A1, n1, c1, ps⟩, hs, hn', hA', h1, fun W' sp hb hsp => ?_⟩
      rw [hxx.1, hxx.2]
      refine nm_shut hs ?_
      obtain ⟨k, hk⟩ := hR W' sp hb (by rw [← hxx.2]; exact hsp)
      exact ⟨k, by simpa [Value.cells] using hk⟩
    have : Inhabited NE := ⟨⟨⟨#[]⟩, none, 0, 0, []⟩⟩
    obtain ⟨f, hfn⟩ := choose_lt key
    have hat : ∀ i e, ((List.range n).map f)[i]? = some e → i < n ∧ e = f i := fun i e he => by
      rw [List.getElem?_map] at he
      rcases Nat.lt_or_ge i n with h | h
      · rw [List.getElem?_range h] at he
        exact ⟨h, (Option.some.inj he).symm⟩
      · rw [List.getElem?_eq_none (by simpa using h)] at he; cases he
    refine ⟨some a, n, mm, (List.range n).map f, rfl, by omega, ⟨by simp, fun e he => ?_, fun hn => ⟨a, rfl, ?_, fun i e hi => ?_⟩⟩, fun W' sp hb hsp => ?_⟩
    · obtain ⟨i, hi⟩ := List.mem_iff_getElem?.1 he
      obtain ⟨h1, rfl⟩ := hat i e hi
      have := hfn i (by omega)
      exact ⟨this.1, this.2.1, this.2.2.1⟩
    · have h0 := (World.cells?_some (hfn 0 (by omega)).2.2.2.1).2.2 0 (by omega)
      have h1 : W.cell? (a.add (0 * 2)) = some (.string (f 0).s) := by simpa [Addr.add] using h0
      have := Clock.block_lt h1
      rwa [block_add] at this
    · obtain ⟨h1, rfl⟩ := hat i e hi
      have h0 := (World.cells?_some (hfn i (by omega)).2.2.2.1).2.2
      exact ⟨by simpa [Addr.add] using h0 0 (by omega), h0 1 (by omega)⟩
    · have hPl : ∀ i, i < mm → ∀ p ∈ Pl i, sp p.block = true := fun i hi p hp => hsp p (List.mem_append_right _ (List.mem_flatMap.2 ⟨i, List.mem_range.2 hi, hp⟩))
      have hD : ∀ i, i < mm → ∃ cs k, W'.cells? 0 (a.add (i * Tryd.prog.cellsOf 33)) (Tryd.prog.cellsOf 33) = some cs ∧ DataW.trod enc Tryd.prog W' 0 sp true k 33 cs = some (D i, Pl i) := by
        intro i hi
        obtain ⟨_, _, _, h1, h2⟩ := hfn i hi
        rw [cellsN]
        obtain ⟨k, hk⟩ := h2 W' sp hb (hPl i hi)
        refine ⟨_, k, World.cells?_carry h1 fun p hp => ?_, hk⟩
        refine hb.same ?_
        obtain ⟨j, hj, rfl⟩ := MemPlace.mem_row.1 hp
        have h0 := (World.cells?_some h1).2.2 0 (by omega)
        have h1' : W.cell? (a.add (i * 2)) = some (.string (f i).s) := by simpa [Addr.add] using h0
        exact Clock.block_lt h1'
      rcases Nat.eq_zero_or_pos mm with h0 | h0
      · subst h0
        obtain rfl : n = 0 := by omega
        cases hs : sp a.block with
        | true =>
          have := shut_slice_whole (t := 22) (spare := sp) (held := true) (base := 0) Tryd.underlying22 (Nat.zero_le _) (Nat.le_refl 0) (Nat.zero_le _) hs D Pl hD
          simpa using this
        | false =>
          have := shut_slice (t := 22) (spare := sp) (held := true) (base := 0) Tryd.underlying22 (Nat.zero_le _) (Nat.le_refl 0) (Nat.zero_le _) hs D Pl hD
          simpa using this
      · have hs : sp a.block = true := by
          have : MemPlace.cell a.block a.off ∈ MemPlace.row a (mm * Tryd.prog.cellsOf 33) ++ (List.range mm).flatMap Pl := by
            refine List.mem_append_left _ (MemPlace.mem_row.2 ⟨0, by rw [cellsN]; omega, rfl⟩)
          exact hsp _ this
        exact shut_slice_whole (spare := sp) (held := true) (base := 0) Tryd.underlying22 (Nat.zero_le _) hl hm hs D Pl hD
end Go.Proofs.YtafcdlojlfnjbaaDoor

/-
  Chapter 2: PointsBefore of the program.
-/
import Derived.Test.YthccdooacbablaaPut
import Derived.Test.YthccdooacbablaaSima
namespace Go.Proofs.Ythccdooacbablaa
open Go.RowKit Rm

theorem frq_snoc (l : List Rat) (y : Rat) : frcs ((l ++ [y]).map qf) = frcs (l.map qf) ++ [.int .i64 y.num, .int .i64 y.den] := by
  rw [List.map_append, ← frcs_snoc]; rfl
section
variable {sd : QP → Int} {inn : QP → QP → Option Rat} {qs : List QP} {k : Nat} {l : List Rat}
theorem pwK_zero (h : pwK sd inn qs k = some l) (h0 : sd (qAt qs k) = 0) : pwK sd inn qs (k + 1) = some (l ++ [(qAt qs k).1]) := by
  simp only [pwK, h, Option.bind_some, pStep, if_pos h0]
  split <;> rfl
theorem pwK_skip (h : pwK sd inn qs k = some l) (h0 : ¬ sd (qAt qs k) = 0) (h1 : k + 1 < qs.length → ¬ sd (qAt qs k) * sd (qAt qs (k + 1)) < 0) : pwK sd inn qs (k + 1) = some l := by
  simp only [pwK, h, Option.bind_some, pStep, if_neg h0]
  split
  · rw [if_neg (h1 (by assumption))]
  · rfl
theorem pwK_in (h : pwK sd inn qs k = some l) (h0 : ¬ sd (qAt qs k) = 0) (hk : k + 1 < qs.length) (h1 : sd (qAt qs k) * sd (qAt qs (k + 1)) < 0) : pwK sd inn qs (k + 1) = (inn (qAt qs k) (qAt qs (k + 1))).map (fun x => l ++ [x]) := by
  simp only [pwK, h, Option.bind_some, pStep, if_neg h0, if_pos hk, if_pos h1]
theorem pwK_none {j : Nat} (h : pwK sd inn qs k = none) : ∀ d, j = k + d → pwK sd inn qs j = none := by
  intro d
  induction d generalizing j with
  | zero => rintro rfl; exact h
  | succ d ih =>
    rintro rfl
    have := ih (j := k + d) rfl
    show (pwK sd inn qs (k + d)).bind _ = none
    rw [this]; rfl
end
theorem cq_mul_wrap (a b c d : Rat) : IntKind.i64.wrap (cq a b * cq c d) = cq a b * cq c d := by
  have h1 := cq_bd a b
  have h2 := cq_bd c d
  refine IntWalk.i64_in _ ?_
  have h3 := mul_bd (a := cq a b) (d := cq c d) (A := 1) (D := 1) (by omega) (by omega) (by omega) (by omega)
  omega

/-! ### Neighbouring points of a map, at some place of a block -/
structure GSeg (qs : List QP) : Prop where
  hi : qs.length ≤ 12
  cx : ∀ i, i < qs.length → co (qAt qs i).1
  cy : ∀ i, i < qs.length → co (qAt qs i).2
  inc : ∀ i, i + 1 < qs.length → (qAt qs i).1 < (qAt qs (i + 1)).1
theorem GMap.seg {qs : List QP} (h : GMap qs) : GSeg qs := ⟨h.hi, h.cx, h.cy, h.inc⟩
structure PCells (w : World) (g a0 : Nat) (qs : List QP) : Prop where
  lt : g < w.heap.size
  cel : ∀ k, k < qs.length → w.cell? ⟨g, a0 + k * 4, none⟩ = some (.int .i64 (qAt qs k).1.num) ∧ w.cell? ⟨g, a0 + k * 4 + 1, none⟩ = some (.int .i64 (qAt qs k).1.den) ∧
    w.cell? ⟨g, a0 + k * 4 + 2, none⟩ = some (.int .i64 (qAt qs k).2.num) ∧ w.cell? ⟨g, a0 + k * 4 + 3, none⟩ = some (.int .i64 (qAt qs k).2.den)
theorem PCells.below {w w' : World} {g a0 : Nat} {qs : List QP} (h : PCells w g a0 qs) (hb : Below w.heap.size w w') : PCells w' g a0 qs :=
  ⟨Nat.lt_of_lt_of_le h.lt hb.size, fun k hk => by
    obtain ⟨h0, h1, h2, h3⟩ := h.cel k hk
    have := h.lt
    exact ⟨(hb.cell (p := ⟨g, a0 + k * 4, none⟩) this).trans h0, (hb.cell (p := ⟨g, a0 + k * 4 + 1, none⟩) this).trans h1, (hb.cell (p := ⟨g, a0 + k * 4 + 2, none⟩) this).trans h2, (hb.cell (p := ⟨g, a0 + k * 4 + 3, none⟩) this).trans h3⟩⟩
theorem PCells.own {w : World} {g n c base : Nat} {qs : List QP} (ha : w.ownsRow base 62 4 (.slice (some ⟨g, 0, none⟩) n c) n (ptcs (qs.map qp))) : PCells w g 0 qs :=
  ⟨(ha.lt g rfl).2, fun k hk => by
    have hlen : qs.length = n := by have := own_len ha; rw [List.length_map] at this; exact this
    have := q_cells ha (k := k) (by omega)
    rw [Nat.zero_add]
    exact this⟩

/-! ### The two functions that PointsBefore hands over -/
set_option maxRecDepth 100000 in
theorem side_pb (p : QP) (y : Rat) (yb : Nat) (w : World) (h2 : co p.2) (hy : fits y = true) (c0 : w.cell? ⟨yb, 0, none⟩ = some (.int .i64 y.num)) (c1 : w.cell? ⟨yb, 1, none⟩ = some (.int .i64 y.den)) (hb : yb < w.heap.size) :
    Calls Try.prog 173 #[.agg #[.int .i64 (p.1.num), .int .i64 (p.1.den), .int .i64 (p.2.num), .int .i64 (p.2.den)], .pointer (some ⟨yb, 0, none⟩)] w fun e w' => e = .returned (.int .i64 (cq p.2 y)) ∧ Below w.heap.size w w' := by
  have hor := fun W => orderOf_q p.2 y (co_fits h2) hy W
  have HO := hide hor
  clear hor h2 hy
  generalize cq p.2 y = z at *
  generalize p.1.num = p1 at *
  generalize (p.1.den : Int) = p2 at *
  generalize p.2.num = p3 at *
  generalize (p.2.den : Int) = p4 at *
  generalize y.num = yn at *
  generalize (y.den : Int) = yd at *
  go_enter Try.func173, Try.ntmps173
  go_wp2_with ((go_at_call 102; (with_reducible refine ((unhide HO) _).mono ?_); rintro e w1 ⟨rfl, hbw1⟩; obtain ⟨hcw1, hfw1⟩ := bcell hbw1; have hzw1 := hbw1.size; (try simp at hzw1); (try ((have kw1w0 := (bnew hbw1) (w.heap.size) ?pf); (case pf => (first | omega | (simp; done) | (simp; omega))); obtain ⟨kcw1w0, kfw1w0, klw1w0⟩ := kw1w0))))
  go_ret
  exact ⟨rfl, (by repeat (first | with_reducible exact Below.refl _ _ | with_reducible assumption | (with_reducible refine Below.trans ?_ (Below.mono (by assumption) (by first | omega | (simp <;> omega)))) | with_reducible apply Below.drew | with_reducible apply below_drewN | (with_reducible refine Below.alloc ?_ (by first | omega | (simp <;> omega)) _) | (with_reducible refine Below.setCell ?_ (by first | omega | (simp <;> omega)) _)))⟩
set_option maxRecDepth 100000 in
theorem within_pb (p q : QP) (y : Rat) (yb : Nat) (w : World) (hy : fits y = true) (h1 : co p.1) (h2 : co p.2) (h3 : co q.1) (h4 : co q.2) (hlt : p.1 < q.1) (c0 : w.cell? ⟨yb, 0, none⟩ = some (.int .i64 y.num)) (c1 : w.cell? ⟨yb, 1, none⟩ = some (.int .i64 y.den)) (hb : yb < w.heap.size) :
    Calls Try.prog 175 #[.agg #[.int .i64 (p.1.num), .int .i64 (p.1.den), .int .i64 (p.2.num), .int .i64 (p.2.den)], .agg #[.int .i64 (q.1.num), .int .i64 (q.1.den), .int .i64 (q.2.num), .int .i64 (q.2.den)], .pointer (some ⟨yb, 0, none⟩)] w fun e w' => e = .returned (.tuple #[.agg #[.int .i64 (oN (backR p q y)), .int .i64 (oD (backR p q y))], .bool (backR p q y).isSome]) ∧ Below w.heap.size w w' := by
  have hor := fun W => pointOnPiece_q p q y hy h1 h2 h3 h4 hlt W
  have HO := hide hor
  clear hor h1 h2 h3 h4 hy hlt
  generalize oN (backR p q y) = r1 at *
  generalize oD (backR p q y) = r2 at *
  generalize (backR p q y).isSome = r3 at *
  generalize p.1.num = p1 at *
  generalize (p.1.den : Int) = p2 at *
  generalize p.2.num = p3 at *
  generalize (p.2.den : Int) = p4 at *
  generalize q.1.num = q1 at *
  generalize (q.1.den : Int) = q2 at *
  generalize q.2.num = q3 at *
  generalize (q.2.den : Int) = q4 at *
  generalize y.num = yn at *
  generalize (y.den : Int) = yd at *
  have hb1 : yb < w.heap.size + 1 := by omega
  have hb2 : yb < w.heap.size + 1 + 1 := by omega
  go_enter Try.func175, Try.ntmps175
  go_wp2_with ((go_at_call 176; (with_reducible refine ((unhide HO) _).mono ?_); rintro e w1 ⟨rfl, hbw1⟩; obtain ⟨hcw1, hfw1⟩ := bcell hbw1; have hzw1 := hbw1.size; (try simp at hzw1); (try ((have kw1w0 := (bnew hbw1) (w.heap.size) ?pf); (case pf => (first | omega | (simp; done) | (simp; omega))); obtain ⟨kcw1w0, kfw1w0, klw1w0⟩ := kw1w0)); (try ((have kw1w1 := (bnew hbw1) (w.heap.size + 1) ?pf); (case pf => (first | omega | (simp; done) | (simp; omega))); obtain ⟨kcw1w1, kfw1w1, klw1w1⟩ := kw1w1)); (try ((have kw1w2 := (bnew hbw1) (w.heap.size + 1 + 1) ?pf); (case pf => (first | omega | (simp; done) | (simp; omega))); obtain ⟨kcw1w2, kfw1w2, klw1w2⟩ := kw1w2))))
  exact bodyPost_ret (v := .tuple #[.agg #[.int .i64 (r1), .int .i64 (r2)], .bool r3]) (by simp [results, Try.results175, go_sem, *]) rfl ⟨rfl, (by repeat (first | with_reducible exact Below.refl _ _ | with_reducible assumption | (with_reducible refine Below.trans ?_ (Below.mono (by assumption) (by first | omega | (simp <;> omega)))) | with_reducible apply Below.drew | with_reducible apply below_drewN | (with_reducible refine Below.alloc ?_ (by first | omega | (simp <;> omega)) _) | (with_reducible refine Below.setCell ?_ (by first | omega | (simp <;> omega)) _)))⟩

set_option maxRecDepth 100000 in
set_option maxHeartbeats 3200000 in
theorem pw_pb (g a0 m c : Nat) (qs : List QP) (y : Rat) (yb : Nat) (w : World) (ha : PCells w g a0 qs) (hlen : qs.length = m + 1) (hg : GSeg qs) (hy : fits y = true)
    (c0 : w.cell? ⟨yb, 0, none⟩ = some (.int .i64 y.num)) (c1 : w.cell? ⟨yb, 1, none⟩ = some (.int .i64 y.den)) (hyb : yb < w.heap.size) :
    Calls Try.prog 174 #[.slice (some ⟨g, a0, none⟩) (m + 1) c, .func (.func 173) #[] #[.pointer (some ⟨yb, 0, none⟩)], .func (.func 175) #[] #[.pointer (some ⟨yb, 0, none⟩)]] w fun e w' =>
      (∀ l, pwK (fun p => cq p.2 y) (fun p q => backR p q y) qs (m + 1) = some l → ∃ v : Value, e = .returned (.tuple #[v, .bool true]) ∧ w'.ownsRow w.heap.size 26 2 v l.length (frcs (l.map qf))) ∧
      (pwK (fun p => cq p.2 y) (fun p q => backR p q y) qs (m + 1) = none → e = .returned (.tuple #[.slice none 0 0, .bool false])) ∧ Below w.heap.size w w' := by
  obtain ⟨i0, hi0, hz0, hz1, hz2⟩ := info_parts iRat
  have hhi := hg.hi
  rw [hlen] at hhi
  have hgl : g < w.heap.size := ha.lt
  have hsd : ∀ k, k < m + 1 → ∀ W : World, Below w.heap.size w W → Calls Try.prog 173 #[.agg #[.int .i64 ((qAt qs k).1.num), .int .i64 ((qAt qs k).1.den), .int .i64 ((qAt qs k).2.num), .int .i64 ((qAt qs k).2.den)], .pointer (some ⟨yb, 0, none⟩)] W fun e w' => e = .returned (.int .i64 (cq (qAt qs k).2 y)) ∧ Below W.heap.size W w' :=
    fun k hk W hW => side_pb _ y yb W (hg.cy k (by omega)) hy ((hW.cell hyb).trans c0) ((hW.cell hyb).trans c1) (Nat.lt_of_lt_of_le hyb hW.size)
  have hin : ∀ k, k + 1 < m + 1 → ∀ W : World, Below w.heap.size w W → Calls Try.prog 175 #[.agg #[.int .i64 ((qAt qs k).1.num), .int .i64 ((qAt qs k).1.den), .int .i64 ((qAt qs k).2.num), .int .i64 ((qAt qs k).2.den)], .agg #[.int .i64 ((qAt qs (k + 1)).1.num), .int .i64 ((qAt qs (k + 1)).1.den), .int .i64 ((qAt qs (k + 1)).2.num), .int .i64 ((qAt qs (k + 1)).2.den)], .pointer (some ⟨yb, 0, none⟩)] W fun e w' =>
      e = .returned (.tuple #[.agg #[.int .i64 (oN (backR (qAt qs k) (qAt qs (k + 1)) y)), .int .i64 (oD (backR (qAt qs k) (qAt qs (k + 1)) y))], .bool (backR (qAt qs k) (qAt qs (k + 1)) y).isSome]) ∧ Below W.heap.size W w' :=
    fun k hk W hW => within_pb _ _ y yb W hy (hg.cx k (by omega)) (hg.cy k (by omega)) (hg.cx _ (by omega)) (hg.cy _ (by omega)) (hg.inc k (by omega)) ((hW.cell hyb).trans c0) ((hW.cell hyb).trans c1) (Nat.lt_of_lt_of_le hyb hW.size)
  have HSD := hide hsd; have HIN := hide hin
  have HA := hide ha
  have HL := Lib.hid hlen
  clear hsd hin ha hlen c0 c1 hy
  go_enter Try.func174, Try.ntmps174
  go_wp2
  go_loopw [8, 15] (fun v i wr => ∃ (k : Nat) (u : Value) (l : List Rat), i = .int .i64 k ∧ u = v ∧ k ≤ m + 1 ∧ l.length ≤ k ∧ Hid (pwK (fun p => cq p.2 y) (fun p q => backR p q y) qs k = some l) ∧ wr.ownsRow w.heap.size 26 2 u l.length (frcs (l.map qf)) ∧ Below w.heap.size w wr) (fun _ i _ => m + 1 - (intOf i).toNat)
  case atStart => exact ⟨0, _, [], rfl, rfl, by omega, by simp, hide rfl, World.ownsRow_nil _ _ _ _, Below.refl _ _⟩
  case round =>
    obtain ⟨k, u, l, rfl, rfl, hk, hlk, HP, hown, hbwr⟩ := hrel
    have hzwr := hbwr.size
    by_cases hlt : k < m + 1
    · (skip; (try ((have kwrgX0 := (bnew hbwr) (g) ?pf); (case pf => (first | omega | (simp; done) | (simp; omega))); obtain ⟨kcwrgX0, kfwrgX0, klwrgX0⟩ := kwrgX0)))
      have hkl : k < qs.length := by rw [HL.out]; exact hlt
      have hC := (unhide HA).below hbwr
      obtain ⟨k0, k1, k2, k3⟩ := hC.cel k hkl
      have hvB : ∀ j, u.ownBlock = some j → w.heap.size ≤ j := fun j e => (hown.lt j e).1
      have hside := (unhide HSD) k hlt
      have HC := hide hC
      have HS := hide hside
      have HO := hide hown
      have HV := hide hvB
      have HB := hide hbwr
      clear hown hvB hbwr kcwrgX0 kfwrgX0 hside hC
      obtain ⟨sa, hsa⟩ : ∃ r, r = cq (qAt qs k).2 y := ⟨_, rfl⟩
      rw [← hsa] at HS
      have HSA := Lib.hid hsa
      clear hsa
      by_cases h0 : sa = 0
      · subst h0
        have HP1 := hide (pwK_zero (unhide HP) HSA.out.symm)
        have hsn := frq_snoc l (qAt qs k).1
        have HSN := Lib.hid hsn
        clear hsn
        have hll : (l ++ [(qAt qs k).1]).length = l.length + 1 := by simp
        generalize l ++ [(qAt qs k).1] = l' at *
        generalize (qAt qs k).1.num = f1 at *
        generalize ((qAt qs k).1.den : Int) = f2 at *
        generalize (qAt qs k).2.num = f3 at *
        generalize ((qAt qs k).2.den : Int) = f4 at *
        go_upto_region 5 with fail
        go_cut [23] (fun s23 wx => s23 = .bool true ∧ Below wr.heap.size wr wx ∧ wx.cell? ⟨wr.heap.size, 0, none⟩ = some (.int .i64 f1) ∧ wx.cell? ⟨wr.heap.size, 1, none⟩ = some (.int .i64 f2))
        case first =>
          have hb := unhide HB
          go_wp2_with (go_at_call 173; (with_reducible refine ((unhide HS) _ ?pb).mono ?_); (case pb => exact (by repeat (first | with_reducible exact Below.refl _ _ | with_reducible assumption | (with_reducible refine Below.trans ?_ (Below.mono (by assumption) (by first | omega | (simp <;> omega)))) | with_reducible apply Below.drew | with_reducible apply below_drewN | (with_reducible refine Below.alloc ?_ (by first | omega | (simp <;> omega)) _) | (with_reducible refine Below.setCell ?_ (by first | omega | (simp <;> omega)) _)))); rintro e w3 ⟨rfl, hbw3⟩; (skip; (try ((have kw3wr0 := (bnew hbw3) (wr.heap.size) ?pf); (case pf => (first | omega | (simp; done) | (simp; omega))); obtain ⟨kcw3wr0, kfw3wr0, klw3wr0⟩ := kw3wr0))))
          go_meet
          exact ⟨by simp, (by repeat (first | with_reducible exact Below.refl _ _ | with_reducible assumption | (with_reducible refine Below.trans ?_ (Below.mono (by assumption) (by first | omega | (simp <;> omega)))) | with_reducible apply Below.drew | with_reducible apply below_drewN | (with_reducible refine Below.alloc ?_ (by first | omega | (simp <;> omega)) _) | (with_reducible refine Below.setCell ?_ (by first | omega | (simp <;> omega)) _))), by simp [go_sem, *], by simp [go_sem, *]⟩
        case rest =>
          obtain ⟨rfl, hbwc, d0, d1⟩ := hcut
          have hzc := hbwc.size
          have HBC := hide hbwc
          clear hbwc
          go_wp2_with (at_builtin; refine wpList_append_lies _ rfl _ _ _ rfl w.heap.size 26 i0 _ 2 16 Try.underlying76 hi0 hz0 hz1 hz2 rfl (by omega) u l.length _ rfl (World.ownsRow.alloc (own_below (unhide HO) (unhide HBC)) _) ⟨wc.heap.size, 0, none⟩ 1 1 [.int .i64 f1, .int .i64 f2] rfl rfl (World.news_of_block (cs := #[.int .i64 f1, .int .i64 f2]) (t := 26) (fr := (0, 0)) (heap_alloc_new wc _)) (by simp [Value.oneCell']) (by omega) (by unfold maxLen; omega) (by omega) (by simp; omega) (wc.heap.size + 1) (by simp) ?_; intro gg cap w4 hown4 hgrow hat hlt4)
          have hb := unhide HB
          have hbc := unhide HBC
          rw [← HSN.out] at hown4
          have hby : Below wr.heap.size wr (wc.alloc (.cells #[.int .i64 f1, .int .i64 f2] 26)) := (by repeat (first | with_reducible exact Below.refl _ _ | with_reducible assumption | (with_reducible refine Below.trans ?_ (Below.mono (by assumption) (by first | omega | (simp <;> omega)))) | with_reducible apply Below.drew | with_reducible apply below_drewN | (with_reducible refine Below.alloc ?_ (by first | omega | (simp <;> omega)) _) | (with_reducible refine Below.setCell ?_ (by first | omega | (simp <;> omega)) _)))
          have hbz : Below w.heap.size w w4 := (hb.trans (hby.mono hb.size)).grown hgrow (by have := hby.size; omega) (unhide HV)
          have HO4 := hide hown4
          have HBZ := hide hbz
          clear hown4 hby hgrow hb hbz hbc
          go_wp2_with fail
          go_roundw
          case rel => exact ⟨k + 1, _, l', by go_num, rfl, by omega, by omega, HP1, by rw [hll]; exact unhide HO4, unhide HBZ⟩
          case measure => (simp [intOf] <;> omega)
      · have hs1 : (sa == 0) = false := by simpa using h0
        have hs2 : decide (sa = 0) = false := by simpa using h0
        have h0' : ¬ cq (qAt qs k).2 y = 0 := by rw [← HSA.out]; exact h0
        generalize hf1 : (qAt qs k).1.num = f1 at *
        generalize hf2 : ((qAt qs k).1.den : Int) = f2 at *
        generalize hf3 : (qAt qs k).2.num = f3 at *
        generalize hf4 : ((qAt qs k).2.den : Int) = f4 at *
        go_upto_region 5 with fail
        go_cut [23] (fun s23 wx => s23 = .bool false ∧ Below wr.heap.size wr wx ∧ wx.cell? ⟨wr.heap.size, 0, none⟩ = some (.int .i64 f1) ∧ wx.cell? ⟨wr.heap.size, 1, none⟩ = some (.int .i64 f2) ∧ wx.cell? ⟨wr.heap.size, 2, none⟩ = some (.int .i64 f3) ∧ wx.cell? ⟨wr.heap.size, 3, none⟩ = some (.int .i64 f4))
        case first =>
          have hb := unhide HB
          go_wp2_with (go_at_call 173; (with_reducible refine ((unhide HS) _ ?pb).mono ?_); (case pb => exact (by repeat (first | with_reducible exact Below.refl _ _ | with_reducible assumption | (with_reducible refine Below.trans ?_ (Below.mono (by assumption) (by first | omega | (simp <;> omega)))) | with_reducible apply Below.drew | with_reducible apply below_drewN | (with_reducible refine Below.alloc ?_ (by first | omega | (simp <;> omega)) _) | (with_reducible refine Below.setCell ?_ (by first | omega | (simp <;> omega)) _)))); rintro e w3 ⟨rfl, hbw3⟩; (skip; (try ((have kw3wr0 := (bnew hbw3) (wr.heap.size) ?pf); (case pf => (first | omega | (simp; done) | (simp; omega))); obtain ⟨kcw3wr0, kfw3wr0, klw3wr0⟩ := kw3wr0))))
          go_meet
          exact ⟨by simp [*], (by repeat (first | with_reducible exact Below.refl _ _ | with_reducible assumption | (with_reducible refine Below.trans ?_ (Below.mono (by assumption) (by first | omega | (simp <;> omega)))) | with_reducible apply Below.drew | with_reducible apply below_drewN | (with_reducible refine Below.alloc ?_ (by first | omega | (simp <;> omega)) _) | (with_reducible refine Below.setCell ?_ (by first | omega | (simp <;> omega)) _))), by simp [go_sem, *], by simp [go_sem, *], by simp [go_sem, *], by simp [go_sem, *]⟩
        case rest =>
          obtain ⟨rfl, hbwc, d0, d1, d2, d3⟩ := hcut
          have hzc := hbwc.size
          have hbl : wr.heap.size < wc.heap.size := by
            rcases Nat.lt_or_ge wr.heap.size wc.heap.size with h | h
            · exact h
            · exact absurd d0 (by simp [World.cell?, Array.getElem?_eq_none h])
          have hside2 : ∀ W : World, Below w.heap.size w W → Calls Try.prog 173 #[.agg #[.int .i64 (f1), .int .i64 (f2), .int .i64 (f3), .int .i64 (f4)], .pointer (some ⟨yb, 0, none⟩)] W fun e w' => e = .returned (.int .i64 sa) ∧ Below W.heap.size W w' := unhide HS
          have hb := unhide HB
          have hbw := hb.trans (hbwc.mono hb.size)
          have HBW := hide hbw
          have HC2 := hide ((unhide HC).below hbwc)
          have HO2 := hide (own_below (unhide HO) hbwc)
          clear hside2 hb hbw HC HO
          have s0 : (0 : Int) ≤ (k : Int) + 1 := by omega
          have s1 : IntKind.i64.wrap ((k : Int) + 1) = (k : Int) + 1 := IntWalk.i64_in _ (by omega)
          have s5 : ((k : Int) + 1).toNat = k + 1 := by omega
          by_cases hk1 : k = m
          · obtain rfl : m = k := hk1.symm
            have HP1 := hide (pwK_skip (unhide HP) h0' (fun h => absurd h (by rw [HL.out]; omega)))
            have HB2 := hide hbwc
            clear hbwc h0'
            go_upto_region 7 with fail
            go_cut [47] (fun s47 wx => s47 = .bool false ∧ Below wc.heap.size wc wx)
            case first =>
              go_quiet (fail)
              go_wp2_with fail
              go_meet
              exact ⟨by simp [*], (by repeat (first | with_reducible exact Below.refl _ _ | with_reducible assumption | (with_reducible refine Below.trans ?_ (Below.mono (by assumption) (by first | omega | (simp <;> omega)))) | with_reducible apply Below.drew | with_reducible apply below_drewN | (with_reducible refine Below.alloc ?_ (by first | omega | (simp <;> omega)) _) | (with_reducible refine Below.setCell ?_ (by first | omega | (simp <;> omega)) _)))⟩
            case rest =>
              obtain ⟨rfl, hbwd⟩ := hcut
              have hb := unhide HBW
              have HBZ := hide (hb.trans (hbwd.mono hb.size))
              have HO3 := hide (own_below (unhide HO2) hbwd)
              clear hb hbwd
              go_wp2_with fail
              go_roundw
              case rel => exact ⟨m + 1, _, l, by go_num, rfl, by omega, by omega, HP1, unhide HO3, unhide HBZ⟩
              case measure => (simp [intOf] <;> omega)
          · have hk2 : k + 1 < m + 1 := by omega
            have hk2l : k + 1 < qs.length := by rw [HL.out]; exact hk2
            obtain ⟨j0, j1, j2, j3⟩ := (unhide HC2).cel (k + 1) hk2l
            have hsb := (unhide HSD) (k + 1) hk2
            obtain ⟨sb, hsbe⟩ : ∃ r, r = cq (qAt qs (k + 1)).2 y := ⟨_, rfl⟩
            rw [← hsbe] at hsb
            have hmw := cq_mul_wrap (qAt qs k).2 y (qAt qs (k + 1)).2 y
            rw [← HSA.out, ← hsbe] at hmw
            have HSB := Lib.hid hsbe
            have HS2 := hide hsb
            have hinn := (unhide HIN) k hk2
            rw [hf1, hf2, hf3, hf4] at hinn
            have HI := hide hinn
            clear hsbe hsb hinn
            have s2 : (k : Int) + 1 < (m : Int) + 1 := by omega
            generalize (qAt qs (k + 1)).1.num = e1 at *
            generalize ((qAt qs (k + 1)).1.den : Int) = e2 at *
            generalize (qAt qs (k + 1)).2.num = e3 at *
            generalize ((qAt qs (k + 1)).2.den : Int) = e4 at *
            obtain ⟨bb, hbb⟩ : ∃ bb, decide (sa * sb < 0) = bb := ⟨_, rfl⟩
            have HBB := Lib.hid hbb
            have HB2 := hide hbwc
            clear hbwc
            go_upto_region 7 with fail
            go_cut [47] (fun s47 wx => s47 = .bool bb ∧ Below wc.heap.size wc wx)
            case first =>
              have hb := unhide HBW
              go_region_held3 (fun w' => (w'.cell? ⟨g, a0 + (k + 1) * 4, none⟩ = some (.int .i64 e1) ∧ w'.cell? ⟨g, a0 + (k + 1) * 4 + 1, none⟩ = some (.int .i64 e2) ∧ w'.cell? ⟨g, a0 + (k + 1) * 4 + 2, none⟩ = some (.int .i64 e3) ∧ w'.cell? ⟨g, a0 + (k + 1) * 4 + 3, none⟩ = some (.int .i64 e4)) ∧
                  w'.cell? ⟨wr.heap.size, 0, none⟩ = some (.int .i64 f1) ∧ w'.cell? ⟨wr.heap.size, 1, none⟩ = some (.int .i64 f2) ∧ w'.cell? ⟨wr.heap.size, 2, none⟩ = some (.int .i64 f3) ∧ w'.cell? ⟨wr.heap.size, 3, none⟩ = some (.int .i64 f4)) (simp [go_sem, *])
                (first
                  | ((go_at_call 173; (with_reducible refine ((unhide HS) _ ?pb).mono ?_); (case pb => exact (by repeat (first | with_reducible exact Below.refl _ _ | with_reducible assumption | (with_reducible refine Below.trans ?_ (Below.mono (by assumption) (by first | omega | (simp <;> omega)))) | with_reducible apply Below.drew | with_reducible apply below_drewN | (with_reducible refine Below.alloc ?_ (by first | omega | (simp <;> omega)) _) | (with_reducible refine Below.setCell ?_ (by first | omega | (simp <;> omega)) _)))); rintro e w3 ⟨rfl, hbw3⟩; have hz3 := hbw3.size; (try simp at hz3); (skip; (try ((have kw3gX0 := (bnew hbw3) (g) ?pf); (case pf => (first | omega | (simp; done) | (simp; omega))); obtain ⟨kcw3gX0, kfw3gX0, klw3gX0⟩ := kw3gX0)); (try ((have kw3wr0 := (bnew hbw3) (wr.heap.size) ?pf); (case pf => (first | omega | (simp; done) | (simp; omega))); obtain ⟨kcw3wr0, kfw3wr0, klw3wr0⟩ := kw3wr0)))))
                  | ((go_at_call 173; (with_reducible refine ((unhide HS2) _ ?pb).mono ?_); (case pb => exact (by repeat (first | with_reducible exact Below.refl _ _ | with_reducible assumption | (with_reducible refine Below.trans ?_ (Below.mono (by assumption) (by first | omega | (simp <;> omega)))) | with_reducible apply Below.drew | with_reducible apply below_drewN | (with_reducible refine Below.alloc ?_ (by first | omega | (simp <;> omega)) _) | (with_reducible refine Below.setCell ?_ (by first | omega | (simp <;> omega)) _)))); rintro e w4 ⟨rfl, hbw4⟩; have hz4 := hbw4.size; (try simp at hz4); (skip; (try ((have kw4gX0 := (bnew hbw4) (g) ?pf); (case pf => (first | omega | (simp; done) | (simp; omega))); obtain ⟨kcw4gX0, kfw4gX0, klw4gX0⟩ := kw4gX0)); (try ((have kw4wr0 := (bnew hbw4) (wr.heap.size) ?pf); (case pf => (first | omega | (simp; done) | (simp; omega))); obtain ⟨kcw4wr0, kfw4wr0, klw4wr0⟩ := kw4wr0))))))
              all_goals
                go_wp2_with fail
                go_meet
                exact ⟨by simp [*], (by repeat (first | with_reducible exact Below.refl _ _ | with_reducible assumption | (with_reducible refine Below.trans ?_ (Below.mono (by assumption) (by first | omega | (simp <;> omega)))) | with_reducible apply Below.drew | with_reducible apply below_drewN | (with_reducible refine Below.alloc ?_ (by first | omega | (simp <;> omega)) _) | (with_reducible refine Below.setCell ?_ (by first | omega | (simp <;> omega)) _)))⟩
            case rest =>
              obtain ⟨rfl, hbwd⟩ := hcut
              have hzd := hbwd.size
              have hb := unhide HBW
              have hbe := hb.trans (hbwd.mono hb.size)
              have HBE := hide hbe
              have HO3 := hide (own_below (unhide HO2) hbwd)
              have hgd : ∀ o, wc.cell? ⟨g, o, none⟩ = _ := fun o => hbwd.cell (p := ⟨g, o, none⟩) (by show g < _; omega)
              have hwd : ∀ o, wc.cell? ⟨wr.heap.size, o, none⟩ = _ := fun o => hbwd.cell (p := ⟨wr.heap.size, o, none⟩) hbl
              have i0' := (hgd _).trans j0
              have i1' := (hgd _).trans j1
              have i2' := (hgd _).trans j2
              have i3' := (hgd _).trans j3
              have b0' := (hwd _).trans d0
              have b1' := (hwd _).trans d1
              have b2' := (hwd _).trans d2
              have b3' := (hwd _).trans d3
              have hgl3 : g < wc.heap.size := by omega
              have hwl3 : wr.heap.size < wc.heap.size := by omega
              clear hgd hwd hb j0 j1 j2 j3 d0 d1 d2 d3
              cases bb
              · have hnn : ¬ sa * sb < 0 := of_decide_eq_false HBB.out
                have HP1 := hide (pwK_skip (unhide HP) h0' (fun _ => by rw [← HSA.out, ← HSB.out]; exact hnn))
                clear hbwd hbe hnn
                go_wp2_with fail
                go_roundw
                case rel => exact ⟨k + 1, _, l, by go_num, rfl, by omega, by omega, HP1, unhide HO3, unhide HBE⟩
                case measure => (simp [intOf] <;> omega)
              · have hnn : sa * sb < 0 := of_decide_eq_true HBB.out
                have hstep := pwK_in (unhide HP) h0' hk2l (by rw [← HSA.out, ← HSB.out]; exact hnn)
                clear hbwd hbe
                obtain ⟨res, hres⟩ : ∃ r, r = backR (qAt qs k) (qAt qs (k + 1)) y := ⟨_, rfl⟩
                rw [← hres] at hstep HI
                have HST := hide hstep
                clear hstep hres hnn
                obtain ⟨xn, hxn⟩ : ∃ r, r = oN res := ⟨_, rfl⟩
                obtain ⟨xd, hxd⟩ : ∃ r, r = oD res := ⟨_, rfl⟩
                obtain ⟨xz, hxz⟩ : ∃ r, r = res.isSome := ⟨_, rfl⟩
                rw [← hxn, ← hxd, ← hxz] at HI
                have HXN := Lib.hid hxn; have HXD := Lib.hid hxd; have HXZ := Lib.hid hxz
                clear hxn hxd hxz
                go_upto_region 8 with fail
                go_cut [11, 12] (fun s11 s12 wx => s12 = .bool xz ∧ ∃ h : Nat, s11 = .pointer (some ⟨h, 0, none⟩) ∧ Box2 wc wx h xn xd)
                case first =>
                  have hb := unhide HBE
                  go_region_held3 (fun w' => (w'.cell? ⟨g, a0 + (k + 1) * 4, none⟩ = some (.int .i64 e1) ∧ w'.cell? ⟨g, a0 + (k + 1) * 4 + 1, none⟩ = some (.int .i64 e2) ∧ w'.cell? ⟨g, a0 + (k + 1) * 4 + 2, none⟩ = some (.int .i64 e3) ∧ w'.cell? ⟨g, a0 + (k + 1) * 4 + 3, none⟩ = some (.int .i64 e4)) ∧
                      w'.cell? ⟨wr.heap.size, 0, none⟩ = some (.int .i64 f1) ∧ w'.cell? ⟨wr.heap.size, 1, none⟩ = some (.int .i64 f2) ∧ w'.cell? ⟨wr.heap.size, 2, none⟩ = some (.int .i64 f3) ∧ w'.cell? ⟨wr.heap.size, 3, none⟩ = some (.int .i64 f4)) (simp [go_sem, World.cell?_alloc_past, *])
                    (((go_at_call 175; (with_reducible refine ((unhide HI) _ ?pb).mono ?_); (case pb => exact (by repeat (first | with_reducible exact Below.refl _ _ | with_reducible assumption | (with_reducible refine Below.trans ?_ (Below.mono (by assumption) (by first | omega | (simp <;> omega)))) | with_reducible apply Below.drew | with_reducible apply below_drewN | (with_reducible refine Below.alloc ?_ (by first | omega | (simp <;> omega)) _) | (with_reducible refine Below.setCell ?_ (by first | omega | (simp <;> omega)) _)))); rintro e w5 ⟨rfl, hbw5⟩; have hz5 := hbw5.size; (try simp at hz5); (skip; (try ((have kw5gX0 := (bnew hbw5) (g) ?pf); (case pf => (first | omega | (simp; done) | (simp; omega))); obtain ⟨kcw5gX0, kfw5gX0, klw5gX0⟩ := kw5gX0)); (try ((have kw5wr.heap.sizeX0 := (bnew hbw5) (wr.heap.size) ?pf); (case pf => (first | omega | (simp; done) | (simp; omega))); obtain ⟨kcw5wr.heap.sizeX0, kfw5wr.heap.sizeX0, klw5wr.heap.sizeX0⟩ := kw5wr.heap.sizeX0)); (try ((have kw5wc0 := (bnew hbw5) (wc.heap.size) ?pf); (case pf => (first | omega | (simp; done) | (simp; omega))); obtain ⟨kcw5wc0, kfw5wc0, klw5wc0⟩ := kw5wc0))))))
                  all_goals
                    go_wp2_with fail
                    go_meet
                    refine ⟨rfl, _, rfl, ⟨(by repeat (first | with_reducible exact Below.refl _ _ | with_reducible assumption | (with_reducible refine Below.trans ?_ (Below.mono (by assumption) (by first | omega | (simp <;> omega)))) | with_reducible apply Below.drew | with_reducible apply below_drewN | (with_reducible refine Below.alloc ?_ (by first | omega | (simp <;> omega)) _) | (with_reducible refine Below.setCell ?_ (by first | omega | (simp <;> omega)) _))), ?_, ?_, ?_, ?_, ?_, ?_⟩⟩
                  all_goals first | (go_simp; done) | (simp [go_sem, *]; done) | omega | (simp <;> omega)
                case rest =>
                  obtain ⟨rfl, h, rfl, hB⟩ := hcut
                  have hbwe := hB.below
                  have hze := hbwe.size
                  have x0 := hB.c0
                  have x1 := hB.c1
                  have hhl := hB.hi
                  have hb := unhide HBE
                  have HBZ := hide (hb.trans (hbwe.mono hb.size))
                  have HO4 := hide (own_below (unhide HO3) hbwe)
                  clear hB hbwe hb i0' i1' i2' i3' b0' b1' b2' b3'
                  rcases res with _ | x
                  · obtain rfl : xz = false := HXZ.out
                    go_wp2_with fail
                    go_ret2
                    have hno := pwK_none (unhide HST) (j := m + 1) (m - k) (by omega)
                    exact ⟨fun l' hl' => by rw [hno] at hl'; (cases hl'), fun _ => rfl, unhide HBZ⟩
                  · obtain rfl : xz = true := HXZ.out
                    have HP1 := hide (show pwK (fun p => cq p.2 y) (fun p q => backR p q y) qs (k + 1) = some (l ++ [x]) from unhide HST)
                    have hsn := frq_snoc l x
                    rw [show x.num = xn from HXN.out.symm, show (x.den : Int) = xd from HXD.out.symm] at hsn
                    have HSN := Lib.hid hsn
                    have hll : (l ++ [x]).length = l.length + 1 := by simp
                    clear hsn HST HI
                    generalize l ++ [x] = l' at *
                    go_wp2_with (at_builtin; refine wpList_append_lies _ rfl _ _ _ rfl w.heap.size 26 i0 _ 2 16 Try.underlying76 hi0 hz0 hz1 hz2 rfl (by omega) u l.length _ rfl (World.ownsRow.alloc (unhide HO4) _) ⟨wc.heap.size, 0, none⟩ 1 1 [.int .i64 xn, .int .i64 xd] rfl rfl (World.news_of_block (cs := #[.int .i64 xn, .int .i64 xd]) (t := 26) (fr := (0, 0)) (heap_alloc_new wc _)) (by simp [Value.oneCell']) (by omega) (by unfold maxLen; omega) (by omega) (by simp; omega) (wc.heap.size + 1) (by simp) ?_; intro gg cap w4 hown4 hgrow hat hlt4)
                    have hb := unhide HBZ
                    rw [← HSN.out] at hown4
                    have hby : Below wc.heap.size wc (wc.alloc (.cells #[.int .i64 xn, .int .i64 xd] 26)) := (by repeat (first | with_reducible exact Below.refl _ _ | with_reducible assumption | (with_reducible refine Below.trans ?_ (Below.mono (by assumption) (by first | omega | (simp <;> omega)))) | with_reducible apply Below.drew | with_reducible apply below_drewN | (with_reducible refine Below.alloc ?_ (by first | omega | (simp <;> omega)) _) | (with_reducible refine Below.setCell ?_ (by first | omega | (simp <;> omega)) _)))
                    have hbz : Below w.heap.size w w4 := (hb.trans (hby.mono hb.size)).grown hgrow (by have := hby.size; have := hb.size; omega) (unhide HV)
                    have HO5 := hide hown4
                    have HBY := hide hbz
                    clear hown4 hby hgrow hb hbz
                    go_wp2_with fail
                    go_roundw
                    case rel => exact ⟨k + 1, _, l', by go_num, rfl, by omega, by omega, HP1, by rw [hll]; exact unhide HO5, unhide HBY⟩
                    case measure => (simp [intOf] <;> omega)
    · obtain rfl : k = m + 1 := by omega
      have HO := hide hown
      have HB := hide hbwr
      clear hown hbwr
      go_wp2
      go_ret2
      refine ⟨fun l' hl' => ?_, fun hn => ?_, unhide HB⟩
      · rw [unhide HP] at hl'
        injection hl' with hl'
        subst hl'
        exact ⟨_, rfl, unhide HO⟩
      · rw [unhide HP] at hn; cases hn

set_option maxRecDepth 100000 in
theorem fractionsBefore_any (g a0 m c : Nat) (qs : List QP) (y : Rat) (w : World) (ha : PCells w g a0 qs) (hlen : qs.length = m + 1) (hg : GSeg qs) (hy : fits y = true) :
    Calls Try.prog 156 #[.slice (some ⟨g, a0, none⟩) (m + 1) c, .agg #[.int .i64 (y.num), .int .i64 (y.den)]] w fun e w' =>
      (∀ l, pwK (fun p => cq p.2 y) (fun p q => backR p q y) qs (m + 1) = some l → ∃ v : Value, e = .returned (.tuple #[v, .bool true]) ∧ w'.ownsRow w.heap.size 26 2 v l.length (frcs (l.map qf))) ∧
      (pwK (fun p => cq p.2 y) (fun p q => backR p q y) qs (m + 1) = none → e = .returned (.tuple #[.slice none 0 0, .bool false])) ∧ Below w.heap.size w w' := by
  have hpw := fun W hW c0 c1 hl => pw_pb g a0 m c qs y w.heap.size W hW hlen hg hy c0 c1 hl
  have HPW := hide hpw
  have HA := hide ha
  clear hpw ha hg hy hlen
  generalize pwK (fun p => cq p.2 y) (fun p q => backR p q y) qs (m + 1) = R at *
  generalize y.num = yn at *
  generalize (y.den : Int) = yd at *
  go_enter Try.func156, Try.ntmps156
  go_wp2_with fail
  have hb2 : Below w.heap.size w (w.alloc (.cells #[.int .i64 yn, .int .i64 yd] 26)) := (by repeat (first | with_reducible exact Below.refl _ _ | with_reducible assumption | (with_reducible refine Below.trans ?_ (Below.mono (by assumption) (by first | omega | (simp <;> omega)))) | with_reducible apply Below.drew | with_reducible apply below_drewN | (with_reducible refine Below.alloc ?_ (by first | omega | (simp <;> omega)) _) | (with_reducible refine Below.setCell ?_ (by first | omega | (simp <;> omega)) _)))
  refine ((unhide HPW) _ ((unhide HA).below hb2) ?p1 ?p2 ?p3).mono ?_
  case p1 => simp [go_sem]
  case p2 => simp [go_sem]
  case p3 => simp
  rintro e w3 ⟨h1, h2, hbw3⟩
  have hbz := hb2.trans (hbw3.mono hb2.size)
  rcases (show R = none ∨ ∃ l, R = some l by cases R <;> simp) with hR | ⟨l, hR⟩
  · obtain rfl := h2 hR
    have HR := Lib.hid hR
    clear h1 h2 hR
    go_wp2_with fail
    go_ret2
    exact ⟨fun l h => by rw [HR.out] at h; (cases h), fun _ => rfl, hbz⟩
  · obtain ⟨v, rfl, ho⟩ := h1 l hR
    have HO := hide (ho.mono hb2.size)
    have HR := Lib.hid hR
    clear ho h1 h2 hR
    go_wp2_with fail
    go_ret2
    exact ⟨fun l' h => by rw [HR.out] at h; injection h with h; subst h; exact ⟨_, rfl, unhide HO⟩, fun h => by rw [HR.out] at h; (cases h), hbz⟩
end Go.Proofs.Ythccdooacbablaa

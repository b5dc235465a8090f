/-
  Chapter 2: slices.Backward over a slice of points, whose parts are coordinates.
-/
import Derived.RangeFuncNested
import Derived.RangeFuncBox
import Derived.RangeFuncBound
import Derived.RangeFuncCalls
import Derived.RangeFuncLeaves
import Derived.Shelf.Abstract
import Derived.Shelf.RegionOpen
import Derived.WalkKit
import Derived.OwnWalkIn
import Derived.TacticsInMore
import Derived.LoopNIn
import Derived.LoopIn
import Derived.Test.YteannojgicpbnabRf
namespace Go.Proofs.Yteannojgicpbnab
open Go.RowKit Go.Shelf Rm
attribute [local go_sem] Oper.semAt_some

abbrev CQ := { q : QP // co q.1 ∧ co q.2 }
/-- What a round is handed. -/
def encB (x : Nat × CQ) : Array Value := #[.int .i64 (x.1 : Int), .agg #[.int .i64 (x.2.1.1.num), .int .i64 (x.2.1.1.den), .int .i64 (x.2.1.2.num), .int .i64 (x.2.1.2.den)]]
def upto {α : Type} (f : Nat → α) (k : Nat) : List α := (List.range k).map f
theorem upto_succ {α : Type} (f : Nat → α) (k : Nat) : upto f (k + 1) = upto f k ++ [f k] := by simp [upto, List.range_succ]
theorem upto_length {α : Type} (f : Nat → α) (k : Nat) : (upto f k).length = k := by simp [upto]
/-- What a round must leave as it was: the box of the slice and the slice's cells. -/
def KpB (Bs b : Nat) (A B : World) : Prop := (∀ o, B.cell? ⟨Bs, o, none⟩ = A.cell? ⟨Bs, o, none⟩) ∧ ∀ o, B.cell? ⟨b, o, none⟩ = A.cell? ⟨b, o, none⟩
theorem KpB.refl (Bs b : Nat) (A : World) : KpB Bs b A A := ⟨fun _ => rfl, fun _ => rfl⟩
theorem KpB.trans {Bs b : Nat} {A B C : World} (h : KpB Bs b A B) (h' : KpB Bs b B C) : KpB Bs b A C := ⟨fun o => (h'.1 o).trans (h.1 o), fun o => (h'.2 o).trans (h.2 o)⟩
/-- The cells of a point. -/
def At4 (W : World) (b j : Nat) (q : QP) : Prop :=
  W.cell? ⟨b, j * 4, none⟩ = some (.int .i64 q.1.num) ∧ W.cell? ⟨b, j * 4 + 1, none⟩ = some (.int .i64 q.1.den) ∧ W.cell? ⟨b, j * 4 + 2, none⟩ = some (.int .i64 q.2.num) ∧ W.cell? ⟨b, j * 4 + 3, none⟩ = some (.int .i64 q.2.den)
/-- Round t. -/
def bkF (zs : Nat → CQ) (m t : Nat) : Nat × CQ := (m - t, zs (m - t))

set_option maxRecDepth 100000 in
set_option maxHeartbeats 2000000 in
theorem back1_in (F : Fence) (n : Nat) (h7 : F.fn 58) (hro : F.round = none) (hn : 1 ≤ n) (l Bs b m cap : Nat) (hm : m ≤ 1000) (zs : Nat → CQ) (J Jx : List (Nat × CQ) → World → Prop)
    (hY : ∀ pre x W, J pre W → pre.length < m + 1 → YieldAt F (n - 1) Try.prog l (encB x) W fun e W' =>
      (e = .returned (.bool true) ∧ J (pre ++ [x]) W' ∧ KpB Bs b W W') ∨ (e = .returned (.bool false) ∧ Jx (pre ++ [x]) W'))
    (W : World) (hBs : W.cell? ⟨Bs, 0, none⟩ = some (.slice (some ⟨b, 0, none⟩) (m + 1) cap)) (hc : ∀ j, j < m + 1 → At4 W b j (zs j).1) (h0 : J [] W) :
    CallsIn F n Try.prog 58 #[.func (.yield l) #[] #[], .pointer (some ⟨Bs, 0, none⟩)] W fun e W' => (∃ v, e = .returned v) ∧
      ((∃ ys, ys = upto (bkF zs m) (m + 1) ∧ J ys W') ∨ (∃ pre, (∃ k, k ≤ m + 1 ∧ pre = upto (bkF zs m) k) ∧ Jx pre W')) := by
  refine callsIn_of_wp Try.func58 rfl h7 ?_ hro
  simp only [Try.ntmps58, List.size_toArray, List.length_cons, List.length_nil, Nat.reduceAdd, Nat.reduceSub, Array.replicate_succ, Array.replicate_zero, List.push_toArray, List.append_toArray, List.nil_append, List.cons_append]
  gi_wp2
  gi_loopw [3] (fun i wr => ∃ k r : Nat, k + r = m + 1 ∧ i = .int .i64 ((r : Int) - 1) ∧ J (upto (bkF zs m) k) wr ∧ KpB Bs b W wr)
    (fun i _ => (intOf i + 1).toNat)
  case atStart => exact ⟨0, m + 1, by omega, by simp, h0, KpB.refl _ _ _⟩
  case round =>
    obtain ⟨k, r, hkr, rfl, hJs, hnx⟩ := hrel
    rcases r with _ | r
    · obtain rfl : k = m + 1 := by omega
      gi_wp2
      go_end0
      exact ⟨⟨_, rfl⟩, .inl (by first | exact hJs | exact ⟨_, rfl, hJs⟩)⟩
    · have hbx := (hnx.1 0).trans hBs
      obtain ⟨c0, c1, c2, c3⟩ := hc r (by omega)
      replace c0 := (hnx.2 _).trans c0
      replace c1 := (hnx.2 _).trans c1
      replace c2 := (hnx.2 _).trans c2
      replace c3 := (hnx.2 _).trans c3
      have hmk : bkF zs m k = (r, zs r) := by unfold bkF; rw [show m - k = r by omega]
      obtain ⟨fn, tmps, assign, body, hy, hR⟩ := hY _ (r, zs r) wr hJs (by rw [upto_length]; omega)
      simp only [encB] at hy hR
      have s1 : ((r + 1 : Nat) : Int) - 1 = (r : Int) := by omega
      have s2 : (0 : Int) ≤ (r : Int) := by omega
      have s3 : (r : Int) < (m : Int) + 1 := by omega
      have s4 : IntKind.i64.wrap ((r : Int) - 1) = (r : Int) - 1 := IntWalk.i64_in _ (by omega)
      rw [s1]
      gi_wp2
      refine hR.mono ?_
      rintro e W3 (⟨rfl, hJ3, hk3⟩ | ⟨rfl, hJx3⟩)
      · gi_wp2
        go_roundw
        case rel => exact ⟨k + 1, r, by omega, by go_num, by rw [upto_succ, hmk]; exact hJ3, hnx.trans hk3⟩
        case measure => (simp [intOf] <;> omega)
      · gi_wp2
        refine bodyPost_ret (results_none rfl _ _ _) rfl ?_
        exact ⟨⟨_, rfl⟩, .inr ⟨_, ⟨k + 1, by omega, by rw [upto_succ, hmk]⟩, hJx3⟩⟩

set_option maxHeartbeats 1000000 in
/-- slices.Backward(f): the slice is boxed; the function value captures the box. -/
theorem back_in (F : Fence) (n : Nat) (h5 : F.fn 38) (hro : F.round = none) (a : Option Addr) (len cap : Nat) (w : World) :
    CallsIn F n Try.prog 38 #[.slice a len cap] w fun e w' => e = .returned (.func (.func 58) #[] #[.pointer (some ⟨w.heap.size, 0, none⟩)]) ∧ w' = w.alloc (.cells #[.slice a len cap] 27) := by
  refine callsIn_of_wp Try.func38 rfl h5 ?_ hro
  simp only [Try.ntmps38, List.size_toArray, List.length_cons, List.length_nil, Nat.reduceAdd, Nat.reduceSub, Array.replicate_succ, Array.replicate_zero, List.push_toArray, List.append_toArray, List.nil_append, List.cons_append]
  gi_wp2
  go_ret
  exact ⟨rfl, rfl⟩

theorem back_stops (F : Fence) (n : Nat) (h7 : F.fn 58) (hro : F.round = none) (hn : 1 ≤ n) (Bs b m cap : Nat) (hm : m ≤ 1000) (zs : Nat → CQ) (w : World) (hBs : Bs < w.heap.size) (hb : b < w.heap.size)
    (hc : w.cell? ⟨Bs, 0, none⟩ = some (.slice (some ⟨b, 0, none⟩) (m + 1) cap)) (hI : ∀ j, j < m + 1 → At4 w b j (zs j).1) :
    SeqStopsK F n Try.prog 58 #[.pointer (some ⟨Bs, 0, none⟩)] encB (KpB Bs b) (fun ys => ys = upto (bkF zs m) (m + 1))
      (fun pre => ∃ k, k ≤ m + 1 ∧ pre = upto (bkF zs m) k) (m + 1) w := fun l J Jx W hW _ _ hY h0 => by
  have hc' := (hW.cell (p := ⟨Bs, 0, none⟩) hBs).trans hc
  exact back1_in F n h7 hro hn l Bs b m cap hm zs J Jx hY W hc' (fun j hj => by
    obtain ⟨c0, c1, c2, c3⟩ := hI j hj
    exact ⟨(hW.cell (p := ⟨b, _, none⟩) hb).trans c0, (hW.cell (p := ⟨b, _, none⟩) hb).trans c1, (hW.cell (p := ⟨b, _, none⟩) hb).trans c2, (hW.cell (p := ⟨b, _, none⟩) hb).trans c3⟩) h0
end Go.Proofs.Yteannojgicpbnab

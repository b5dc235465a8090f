/-
  Joined texts: Tc, Tp, Tq, Tr, LawTr.
-/
import Derived.Test.YtldmgjeecomddaaGreatDoorLw
import Derived.Test.YtldmgjeecomddaaGreatDoorUn
import Derived.Test.YtldmgjeecomddaaGreatDoorUm
namespace Go.Proofs.YtldmgjeecomddaaGreatDoor
open Go.RowKit Rm

/-- The points of a tent. -/
def tnT (a b : Int) : List Pt := [((0, 1), (0, 1)), ((1, 2), (a, b)), ((1, 1), (0, 1))]
def tnZ (a b : Int) : Bool := coB (a, b) && decide (a ≠ 0)
def tnL (a b : Int) : List Pt := match tnZ a b with | true => tnT a b | false => []
theorem tn_len (a b : Int) : (tnL a b).length ≤ 1048576 := by unfold tnL; split <;> simp [tnT]
theorem tn_map (a b : Int) : mapB (tnT a b) = coB (a, b) := by
  cases h : coB (a, b) with
  | false => exact mapB_at (i := 1) (by simp [tnT]) (okAt_y (p := ((1, 2), (a, b))) rfl h)
  | true =>
    rw [mapB_all (by simp [tnT])]
    · rfl
    · intro i hi
      have hi : i = 0 ∨ i = 1 ∨ i = 2 := by simp [tnT] at hi; omega
      have h01 : coB (0, 1) = true := by decide +kernel
      have h12 : coB (1, 2) = true := by decide +kernel
      have h11 : coB (1, 1) = true := by decide +kernel
      rcases hi with rfl | rfl | rfl
      · exact okAt_zero (p := ((0, 1), (0, 1))) rfl h01 h01
      · rw [okAt_succ (p := ((0, 1), (0, 1))) (q := ((1, 2), (a, b))) rfl rfl h12 h]
        rfl
      · rw [okAt_succ (p := ((1, 2), (a, b))) (q := ((1, 1), (0, 1))) rfl rfl h11 h01]
        rfl
theorem tn_own (W : World) (B : Nat) (hB : B ≤ W.heap.size) (X : Nat) (hX : X = W.heap.size) (a b : Int) : (W.alloc (.cells #[.int .i64 0, .int .i64 1, .int .i64 0, .int .i64 1, .int .i64 1, .int .i64 2, .int .i64 a, .int .i64 b, .int .i64 1, .int .i64 1, .int .i64 0, .int .i64 1] 50)).ownsRow B 50 4 (.slice (some ⟨X, 0, none⟩) 3 3) 3 (ptcs (tnT a b)) := by
  subst hX
  exact World.ownsRow_lit W #[.int .i64 0, .int .i64 1, .int .i64 0, .int .i64 1, .int .i64 1, .int .i64 2, .int .i64 a, .int .i64 b, .int .i64 1, .int .i64 1, .int .i64 0, .int .i64 1] 3 hB (by simp [maxLen]) (by simp)
theorem tn_no {a b : Int} (h : tnZ a b = false) : tnL a b = [] := by unfold tnL; rw [h]
theorem tn_yes {a b : Int} (h : tnZ a b = true) : tnL a b = tnT a b := by unfold tnL; rw [h]

set_option maxRecDepth 100000 in
set_option maxHeartbeats 3200000 in
theorem knTent_any (a b : Int) (w : World) : Calls Tryz.prog 10 #[.agg #[.int .i64 (a), .int .i64 (b)]] w fun e w' => ∃ g : Nat, e = .returned (.slice (some ⟨g, 0, none⟩) 3 3) ∧ w'.ownsRow w.heap.size 50 4 (.slice (some ⟨g, 0, none⟩) 3 3) 3 (ptcs (tnT a b)) ∧ Below w.heap.size w w' := by
  go_enter Tryz.func10, Tryz.ntmps10
  go_upto_region 1 with fail
  go_cut [2] (fun s2 wx => ∃ g : Nat, s2 = .slice (some ⟨g, 0, none⟩) 3 3 ∧ wx.ownsRow w.heap.size 50 4 (.slice (some ⟨g, 0, none⟩) 3 3) 3 (ptcs (tnT a b)) ∧ Below w.heap.size w wx)
  case first =>
    go_region_held3 (fun w' => w'.cell? ⟨w.heap.size, 0, none⟩ = some (.int .i64 a) ∧ w'.cell? ⟨w.heap.size, 1, none⟩ = some (.int .i64 b)) (simp [go_sem, *])
      (first
        | (go_at_call 24; have _t := hbw1; clear _t; have _t := hbw2; clear _t; have _t := hbw3; clear _t; (with_reducible refine (raInt_any _ _).mono ?_); rintro e w4 ⟨rfl, hbw4⟩; obtain ⟨hcw4, hfw4⟩ := bcell hbw4; have hzw4 := hbw4.size; (try simp at hzw4); (try ((have kw4w.heap.sizeX0 := (bnew hbw4) (w.heap.size) ?pf); (case pf => (first | omega | (simp; done) | (simp; omega))); obtain ⟨kcw4w.heap.sizeX0, kfw4w.heap.sizeX0, klw4w.heap.sizeX0⟩ := kw4w.heap.sizeX0)))
        | (go_at_call 24; have _t := hbw1; clear _t; have _t := hbw2; clear _t; (with_reducible refine (raInt_any _ _).mono ?_); rintro e w3 ⟨rfl, hbw3⟩; obtain ⟨hcw3, hfw3⟩ := bcell hbw3; have hzw3 := hbw3.size; (try simp at hzw3); (try ((have kw3w.heap.sizeX0 := (bnew hbw3) (w.heap.size) ?pf); (case pf => (first | omega | (simp; done) | (simp; omega))); obtain ⟨kcw3w.heap.sizeX0, kfw3w.heap.sizeX0, klw3w.heap.sizeX0⟩ := kw3w.heap.sizeX0)))
        | (go_at_call 24; have _t := hbw1; clear _t; (with_reducible refine (raInt_any _ _).mono ?_); rintro e w2 ⟨rfl, hbw2⟩; obtain ⟨hcw2, hfw2⟩ := bcell hbw2; have hzw2 := hbw2.size; (try simp at hzw2); (try ((have kw2w.heap.sizeX0 := (bnew hbw2) (w.heap.size) ?pf); (case pf => (first | omega | (simp; done) | (simp; omega))); obtain ⟨kcw2w.heap.sizeX0, kfw2w.heap.sizeX0, klw2w.heap.sizeX0⟩ := kw2w.heap.sizeX0)))
        | (go_at_call 24; (with_reducible refine (raInt_any _ _).mono ?_); rintro e w1 ⟨rfl, hbw1⟩; obtain ⟨hcw1, hfw1⟩ := bcell hbw1; have hzw1 := hbw1.size; (try simp at hzw1); (try ((have kw1w.heap.sizeX0 := (bnew hbw1) (w.heap.size) ?pf); (case pf => (first | omega | (simp; done) | (simp; omega))); obtain ⟨kcw1w.heap.sizeX0, kfw1w.heap.sizeX0, klw1w.heap.sizeX0⟩ := kw1w.heap.sizeX0))))
    all_goals
      go_wp2_with fail
      have hw : Below w.heap.size w w4 := (by repeat (first | with_reducible exact Below.refl _ _ | with_reducible assumption | (with_reducible refine Below.trans ?_ (Below.mono (by assumption) (by first | omega | (simp <;> omega)))) | with_reducible apply Below.drew | with_reducible apply below_drewN | (with_reducible refine Below.alloc ?_ (by first | omega | (simp <;> omega)) _) | (with_reducible refine Below.setCell ?_ (by first | omega | (simp <;> omega)) _)))
      go_meet
      exact ⟨_, rfl, tn_own _ _ hw.size _ rfl _ _, (by repeat (first | with_reducible exact Below.refl _ _ | with_reducible assumption | (with_reducible refine Below.trans ?_ (Below.mono (by assumption) (by first | omega | (simp <;> omega)))) | with_reducible apply Below.drew | with_reducible apply below_drewN | (with_reducible refine Below.alloc ?_ (by first | omega | (simp <;> omega)) _) | (with_reducible refine Below.setCell ?_ (by first | omega | (simp <;> omega)) _)))⟩
  case rest =>
    obtain ⟨g, rfl, ho, hb⟩ := hcut
    have HO := hide ho; clear ho
    go_wp2_with fail
    go_ret
    exact ⟨g, rfl, unhide HO, hb⟩

set_option maxRecDepth 100000 in
set_option maxHeartbeats 1600000 in
theorem iTentOf_any (a b : Int) (w : World) : Calls Tryz.prog 14 #[.agg #[.int .i64 (a), .int .i64 (b)]] w fun e w' => GivesP w.heap.size (tnL a b) (tnZ a b) e w' ∧ Below w.heap.size w w' := by
  have hmp := fun (g c base : Nat) W hW => isMap_any (some ⟨g, 0, none⟩) 3 c base (tnT a b) W hW (by omega)
  rw [tn_map] at hmp
  have HM := hide hmp
  clear hmp
  have hcase : (coB (a, b) = false ∧ tnZ a b = false) ∨ (coB (a, b) = true ∧ a = 0 ∧ b = 1 ∧ tnZ a b = false) ∨ (coB (a, b) = true ∧ a ≠ 0 ∧ tnZ a b = true) := by
    cases h : coB (a, b) with
    | false => exact .inl ⟨rfl, by unfold tnZ; rw [h]; rfl⟩
    | true =>
      by_cases h0 : a = 0
      · subst h0
        exact .inr (.inl ⟨rfl, rfl, zero_den h, by unfold tnZ; rw [h]; rfl⟩)
      · exact .inr (.inr ⟨rfl, h0, by unfold tnZ; rw [h, decide_eq_true h0]; rfl⟩)
  rcases hcase with ⟨h, hz⟩ | ⟨h, rfl, rfl, hz⟩ | ⟨h, h0, hz⟩
  all_goals
    rw [h] at HM
    rw [hz]
    have HZ := Lib.hid hz
    clear h hz
    try (have s1 : (a == 0) = false := (by simpa using h0))
    try (have s2 : decide (a = 0) = false := decide_eq_false h0)
    go_enter Tryz.func14, Tryz.ntmps14
    go_wp2_with (go_at_call 29; (with_reducible refine ((unhide HM) _ _ w.heap.size _ (tn_own _ _ ?q1 _ ?q2 _ _)).mono ?_); (case q1 => (first | (simp; done) | (simp <;> omega))); (case q2 => simp); rintro e w1 ⟨rfl, hbw1⟩; have hs1 := hbw1.size; (skip; (try ((have kw1w0 := (bnew hbw1) (w.heap.size) ?pf); (case pf => (first | omega | (simp; done) | (simp; omega))); obtain ⟨kcw1w0, kfw1w0, klw1w0⟩ := kw1w0)); (try ((have kw1w1 := (bnew hbw1) (w.heap.size + 1) ?pf); (case pf => (first | omega | (simp; done) | (simp; omega))); obtain ⟨kcw1w1, kfw1w1, klw1w1⟩ := kw1w1))))
    go_ret2
    first
      | (rw [tn_no HZ.out]; exact ⟨⟨none, 0, rfl, World.ownsRow_nil _ _ _ _⟩, (by repeat (first | with_reducible exact Below.refl _ _ | with_reducible assumption | (with_reducible refine Below.trans ?_ (Below.mono (by assumption) (by first | omega | (simp <;> omega)))) | with_reducible apply Below.drew | with_reducible apply below_drewN | (with_reducible refine Below.alloc ?_ (by first | omega | (simp <;> omega)) _) | (with_reducible refine Below.setCell ?_ (by first | omega | (simp <;> omega)) _)))⟩)
      | (rw [tn_yes HZ.out]
         refine ⟨⟨_, _, rfl, own_below (tn_own _ _ ?r1 _ ?r2 _ _) hbw1⟩, (by repeat (first | with_reducible exact Below.refl _ _ | with_reducible assumption | (with_reducible refine Below.trans ?_ (Below.mono (by assumption) (by first | omega | (simp <;> omega)))) | with_reducible apply Below.drew | with_reducible apply below_drewN | (with_reducible refine Below.alloc ?_ (by first | omega | (simp <;> omega)) _) | (with_reducible refine Below.setCell ?_ (by first | omega | (simp <;> omega)) _)))⟩
         case r1 => (first | (simp; done) | (simp <;> omega))
         case r2 => simp)
end Go.Proofs.YtldmgjeecomddaaGreatDoor

namespace Go.Proofs.YtldmgjeecomddaaGreatDoor
open Go.RowKit Rm

/-- The height k / 100 in lowest terms. -/
def hxN (k : Nat) : Int := rN (k : Int) 100
def hxD (k : Nat) : Int := rD (k : Int) 100
theorem hx_all : ((List.range 50).all fun j => mok ((j + 51 : Nat) : Int) 100 && (tnZ (hxN (j + 51)) (hxD (j + 51)) && umB (tnT (hxN (j + 51)) (hxD (j + 51))))) = true := by decide +kernel
theorem hx_at {k : Nat} (h1 : 51 ≤ k) (h2 : k ≤ 100) : mok (k : Int) 100 = true ∧ tnZ (hxN k) (hxD k) = true ∧ umB (tnT (hxN k) (hxD k)) = true := by
  have h := List.all_eq_true.1 hx_all (k - 51) (List.mem_range.2 (by omega))
  rw [show k - 51 + 51 = k by omega] at h
  simpa [Bool.and_eq_true] using h
theorem knT_le (ps : List Pt) (m : Int) : (knT ps m).length ≤ m.toNat := by
  unfold knT
  split
  · rw [knK_len]; exact Nat.le_refl _
  · exact Nat.zero_le _
/-- The kneading sequence of the height k / 100. -/
def hfT (s : ByteArray) (k : Nat) : List UInt8 := knT (tnT (hxN k) (hxD k)) (s.size : Int)
theorem hfT_size (s : ByteArray) (k : Nat) (h : s.size ≤ 4) : (⟨(hfT s k).toArray⟩ : ByteArray).size ≤ 1048576 := by
  rw [Lib.size_mk]
  have := knT_le (tnT (hxN k) (hxD k)) (s.size : Int)
  unfold hfT
  omega
def hfB (s : ByteArray) (k : Nat) : Bool := ckZ ⟨(hfT s k).toArray⟩ s && decide (ckI ⟨(hfT s k).toArray⟩ s ≤ 0)
/-- What the first j heights above 50 / 100 give, from the greatest one on. -/
def hfF (s : ByteArray) : Nat → (Int × Int) × Bool
  | 0 => ((0, 0), false)
  | j + 1 => if hfB s (51 + j) then ((hxN (51 + j), hxD (51 + j)), true) else hfF s j
def hfR (s : ByteArray) : (Int × Int) × Bool := match gdB sLCR s && decide (s.size ≤ 4) with | true => hfF s 50 | false => ((0, 0), false)
theorem hf_no {s : ByteArray} (h : (gdB sLCR s && decide (s.size ≤ 4)) = false) : hfR s = ((0, 0), false) := by unfold hfR; rw [h]
theorem hf_yes {s : ByteArray} (h : (gdB sLCR s && decide (s.size ≤ 4)) = true) : hfR s = hfF s 50 := by unfold hfR; rw [h]
theorem hf_step {s : ByteArray} {k : Nat} (h : 51 ≤ k) : hfF s (k - 50) = if hfB s k then ((hxN k, hxD k), true) else hfF s (k - 51) := by
  obtain ⟨j, rfl⟩ : ∃ j, k = 51 + j := ⟨k - 51, by omega⟩
  rw [show 51 + j - 50 = j + 1 by omega, show 51 + j - 51 = j by omega]
  rfl

set_option maxHeartbeats 400000 in
theorem iMakeRat_hf (n d : Int) (w : World) :
    Calls Tryz.prog 13 #[.int .i64 n, .int .i64 d] w fun e w' =>
      e = .returned (.tuple #[.agg #[.int .i64 (tN (Rm.inB (-1000000000000000000) 1000000000000000000 n && Rm.inB (-1000000000000000000) 1000000000000000000 d) n d), .int .i64 (tD (Rm.inB (-1000000000000000000) 1000000000000000000 n && Rm.inB (-1000000000000000000) 1000000000000000000 d) n d)],
        .bool (Rm.inB (-1000000000000000000) 1000000000000000000 n && Rm.inB (-1000000000000000000) 1000000000000000000 d && mok n d)]) ∧ Below w.heap.size w w' := by
  by_cases hr : (-1000000000000000000 ≤ n ∧ n ≤ 1000000000000000000) ∧ (-1000000000000000000 ≤ d ∧ d ≤ 1000000000000000000)
  · rw [inB_yes hr.1, inB_yes hr.2]
    simp only [tN, tD, Bool.true_and, if_true]
    obtain ⟨⟨h1, h2⟩, h3, h4⟩ := hr
    by_cases h0 : d = 0
    · subst h0
      simp only [rN, rD, mok_zero, Bool.false_eq_true, if_false]
      go_enter Tryz.func13, Tryz.ntmps13
      go_wp2_with fail
      all_goals exact bodyPost_ret (v := .tuple #[.agg #[.int .i64 0, .int .i64 0], .bool false]) (by simp [results, Tryz.results13, go_sem, *]) rfl ⟨rfl, (by repeat (first | with_reducible exact Below.refl _ _ | with_reducible assumption | (with_reducible refine Below.trans ?_ (Below.mono (by assumption) (by first | omega | (simp <;> omega)))) | with_reducible apply Below.drew | with_reducible apply below_drewN | (with_reducible refine Below.alloc ?_ (by first | omega | (simp <;> omega)) _) | (with_reducible refine Below.setCell ?_ (by first | omega | (simp <;> omega)) _)))⟩
    · have h5 : (d == 0) = false := by simpa using h0
      have hcl := fun W : World => reduceRat_any n d W (by omega) (by omega) (by omega) (by omega) h0
      generalize rN n d = x at *
      generalize rD n d = y at *
      generalize mok n d = z at *
      have HCL := hide hcl; clear hcl
      go_enter Tryz.func13, Tryz.ntmps13
      go_wp2_with ((go_at_call 28; (with_reducible refine ((unhide HCL) _).mono ?_); rintro e w1 ⟨rfl, hbw1⟩; obtain ⟨hcw1, hfw1⟩ := bcell hbw1; have hzw1 := hbw1.size; (try simp at hzw1); (try ((have kw1w0 := (bnew hbw1) (w.heap.size) ?pf); (case pf => (first | omega | (simp; done) | (simp; omega))); obtain ⟨kcw1w0, kfw1w0, klw1w0⟩ := kw1w0))))
      all_goals exact bodyPost_ret (v := .tuple #[.agg #[.int .i64 x, .int .i64 y], .bool z]) (by simp [results, Tryz.results13, go_sem, *]) rfl ⟨rfl, (by repeat (first | with_reducible exact Below.refl _ _ | with_reducible assumption | (with_reducible refine Below.trans ?_ (Below.mono (by assumption) (by first | omega | (simp <;> omega)))) | with_reducible apply Below.drew | with_reducible apply below_drewN | (with_reducible refine Below.alloc ?_ (by first | omega | (simp <;> omega)) _) | (with_reducible refine Below.setCell ?_ (by first | omega | (simp <;> omega)) _)))⟩
  · have e0 : (Rm.inB (-1000000000000000000) 1000000000000000000 n && Rm.inB (-1000000000000000000) 1000000000000000000 d) = false := by
      simp only [Rm.inB]; rw [← Bool.decide_and]; exact decide_eq_false hr
    simp only [e0, tN, tD, Bool.false_and, Bool.false_eq_true, if_false]
    clear e0
    go_enter Tryz.func13, Tryz.ntmps13
    go_wp2_with fail
    all_goals exact bodyPost_ret (v := .tuple #[.agg #[.int .i64 0, .int .i64 0], .bool false]) (by simp [results, Tryz.results13, go_sem]) rfl ⟨rfl, (by repeat (first | with_reducible exact Below.refl _ _ | with_reducible assumption | (with_reducible refine Below.trans ?_ (Below.mono (by assumption) (by first | omega | (simp <;> omega)))) | with_reducible apply Below.drew | with_reducible apply below_drewN | (with_reducible refine Below.alloc ?_ (by first | omega | (simp <;> omega)) _) | (with_reducible refine Below.setCell ?_ (by first | omega | (simp <;> omega)) _)))⟩

end Go.Proofs.YtldmgjeecomddaaGreatDoor

namespace Go.Proofs.YtldmgjeecomddaaGreatDoor
open Go.RowKit Rm

set_option maxRecDepth 100000 in
set_option maxHeartbeats 3200000 in
theorem iHeight_good (s : ByteArray) (w : World) (hg : gdB sLCR s = true) (h4 : s.size ≤ 4) :
    Calls Tryz.prog 5 #[.string s] w fun e w' => e = .returned (.tuple #[.agg #[.int .i64 ((hfF s 50).1.1), .int .i64 ((hfF s 50).1.2)], .bool (hfF s 50).2]) ∧ Below w.heap.size w w' := by
  have h30 := gd_size' hg
  have hgs := fun W => iIsKneadingWord_any s W (by omega)
  rw [hg] at hgs
  have hmr : ∀ k : Nat, 51 ≤ k → k ≤ 100 → ∀ W, Calls Tryz.prog 13 #[.int .i64 (k : Int), .int .i64 100] W fun e w' => e = .returned (.tuple #[.agg #[.int .i64 (hxN k), .int .i64 (hxD k)], .bool true]) ∧ Below W.heap.size W w' := fun k k1 k2 W => by
    have h := iMakeRat_hf (k : Int) 100 W
    rw [inB_yes (by omega), inB_yes (by omega), (hx_at k1 k2).1] at h
    exact h
  have htn : ∀ k : Nat, 51 ≤ k → k ≤ 100 → ∀ W, Calls Tryz.prog 14 #[.agg #[.int .i64 (hxN k), .int .i64 (hxD k)]] W fun e w' => (∃ (B : Option Addr) (d : Nat), e = .returned (.tuple #[.slice B 3 d, .bool true]) ∧ w'.ownsRow W.heap.size 50 4 (.slice B 3 d) 3 (ptcs (tnT (hxN k) (hxD k)))) ∧ Below W.heap.size W w' := fun k k1 k2 W => by
    have h := iTentOf_any (hxN k) (hxD k) W
    rw [tn_yes (hx_at k1 k2).2.1, (hx_at k1 k2).2.1] at h
    exact h
  have hkn : ∀ k : Nat, ∀ (A : Option Addr) (c base : Nat) (W : World), W.ownsRow base 50 4 (.slice A 3 c) 3 (ptcs (tnT (hxN k) (hxD k))) → Calls Tryz.prog 15 #[.slice A 3 c, .int .i64 (s.size : Int)] W fun e w' => (∃ z : Bool, e = .returned (.tuple #[.string ⟨(hfT s k).toArray⟩, .bool z])) ∧ Below W.heap.size W w' := fun k A c base W hW => by
    refine (iKneadingOf_any A 3 c base (tnT (hxN k) (hxD k)) (s.size : Int) W hW (by omega)).mono ?_
    rintro e w' ⟨h1, h2⟩
    exact ⟨⟨_, h1⟩, h2⟩
  have hck : ∀ k : Nat, ∀ W, Calls Tryz.prog 16 #[.string ⟨(hfT s k).toArray⟩, .string s] W fun e w' => e = .returned (.tuple #[.int .i64 (ckI ⟨(hfT s k).toArray⟩ s), .bool (ckZ ⟨(hfT s k).toArray⟩ s)]) ∧ Below W.heap.size W w' := fun k W => iCompareKneading_any _ s W (hfT_size s k h4) (by omega)
  obtain ⟨R, hR⟩ : ∃ R, R = hfF s 50 := ⟨_, rfl⟩
  rw [← hR]
  have HGS := hide hgs; have HMR := hide hmr; have HTN := hide htn; have HKN := hide hkn; have HCK := hide hck; have HR := Lib.hid hR
  clear hgs hmr htn hkn hck hR hg
  have e4 : ¬ (s.size : Int) > 4 := by omega
  go_enter Tryz.func5, Tryz.ntmps5
  go_wp2_with (go_at_call 12; (with_reducible refine ((unhide HGS) _).mono ?_); rintro e w1 ⟨rfl, hbw1⟩; obtain ⟨hcw1, hfw1⟩ := bcell hbw1; have hzw1 := hbw1.size; (try simp at hzw1); (try ((have kw1w0 := (bnew hbw1) (w.heap.size) ?pf); (case pf => (first | omega | (simp; done) | (simp; omega))); obtain ⟨kcw1w0, kfw1w0, klw1w0⟩ := kw1w0)))
  have x0 : w1.cell? ⟨w.heap.size, 0, none⟩ = some (.int .i64 0) := by first | assumption | (simp [go_sem, *]; done)
  have x1 : w1.cell? ⟨w.heap.size, 1, none⟩ = some (.int .i64 0) := by first | assumption | (simp [go_sem, *]; done)
  have y0 : w1.frozen? ⟨w.heap.size, 0, none⟩ = false := by first | assumption | (simp [go_sem, *]; done)
  have y1 : w1.frozen? ⟨w.heap.size, 1, none⟩ = false := by first | assumption | (simp [go_sem, *]; done)
  have hX : w.heap.size < w1.heap.size := by have h := hbw1.size; simp at h; omega
  have hbA : Below w.heap.size w w1 := (by repeat (first | with_reducible exact Below.refl _ _ | with_reducible assumption | (with_reducible refine Below.trans ?_ (Below.mono (by assumption) (by first | omega | (simp <;> omega)))) | with_reducible apply Below.drew | with_reducible apply below_drewN | (with_reducible refine Below.alloc ?_ (by first | omega | (simp <;> omega)) _) | (with_reducible refine Below.setCell ?_ (by first | omega | (simp <;> omega)) _)))
  clear hbw1 hcw1 hfw1 kcw1w0 kfw1w0 klw1w0
  generalize hXe : w.heap.size = X at *
  have HBA := hide hbA
  clear hbA
  go_loopw [4] (fun i wr => ∃ k : Nat, i = .int .i64 (k : Int) ∧ 50 ≤ k ∧ k ≤ 100 ∧ Hid (hfF s (k - 50) = R) ∧ Below w1.heap.size w1 wr) (fun i _ => (intOf i).toNat)
  case atStart => exact ⟨100, rfl, by omega, by omega, hide HR.out.symm, Below.refl _ _⟩
  case round =>
    obtain ⟨k, rfl, hk1, hk2, hR', hb⟩ := hrel
    have hzr := hb.size
    have c0 := (hb.cell (p := ⟨X, 0, none⟩) hX).trans x0
    have c1 := (hb.cell (p := ⟨X, 1, none⟩) hX).trans x1
    have g0 := (hb.frozen (p := ⟨X, 0, none⟩) hX).trans y0
    have g1 := (hb.frozen (p := ⟨X, 1, none⟩) hX).trans y1
    have hXr : X < wr.heap.size := by omega
    have HB := hide hb
    clear hb
    by_cases hlt : 51 ≤ k
    · have hst := hf_step (s := s) hlt
      rw [unhide hR'] at hst
      unfold hfB at hst
      have hm := (unhide HMR) k hlt hk2
      have ht := (unhide HTN) k hlt hk2
      have hn := (unhide HKN) k
      have hc := (unhide HCK) k
      have HM := hide hm; have HT := hide ht; have HN := hide hn; have HC := hide hc; have HST := Lib.hid hst
      have s1 : IntKind.i64.wrap ((k : Int) - 1) = ((k - 1 : Nat) : Int) := by rw [show (k : Int) - 1 = ((k - 1 : Nat) : Int) by omega]; exact IntWalk.i64_in _ (by omega)
      have t51 : (51 : Int) ≤ (k : Int) := by omega
      clear hm ht hn hc hst hR' HMR HTN HKN HCK
      generalize ckZ ⟨(hfT s k).toArray⟩ s = z at *
      generalize ckI ⟨(hfT s k).toArray⟩ s = x at *
      generalize hxN k = hn at *
      generalize hxD k = hd at *
      cases z
      · have hR2 := HST.out
        simp only [Bool.false_and, Bool.false_eq_true, if_false] at hR2
        have HR2 := hide hR2
        clear hR2
        go_wp2_with (first
          | (go_at_call 13; (with_reducible refine ((unhide HM) _).mono ?_); rintro e w2 ⟨rfl, hbw2⟩; obtain ⟨hcw2, hfw2⟩ := bcell hbw2; have hzw2 := hbw2.size; (try simp at hzw2); (try ((have kw2XX0 := (bnew hbw2) (X) ?pf); (case pf => (first | omega | (simp; done) | (simp; omega))); obtain ⟨kcw2XX0, kfw2XX0, klw2XX0⟩ := kw2XX0)))
          | (go_at_call 14; (with_reducible refine ((unhide HT) _).mono ?_); rintro e w3 ⟨⟨B3, d3, rfl, ho3⟩, hbw3⟩; have hz3 := hbw3.size; (try simp at hz3); (skip; (try ((have kw3XX0 := (bnew hbw3) (X) ?pf); (case pf => (first | omega | (simp; done) | (simp; omega))); obtain ⟨kcw3XX0, kfw3XX0, klw3XX0⟩ := kw3XX0)); (try ((have kw3w20 := (bnew hbw3) (w2.heap.size) ?pf); (case pf => (first | omega | (simp; done) | (simp; omega))); obtain ⟨kcw3w20, kfw3w20, klw3w20⟩ := kw3w20))); have HO3 := hide ho3; clear ho3)
          | (go_at_call 15; (with_reducible refine ((unhide HN) _ _ _ _ (own_below (unhide HO3) ?pb)).mono ?_); (case pb => exact (by repeat (first | with_reducible exact Below.refl _ _ | with_reducible assumption | (with_reducible refine Below.trans ?_ (Below.mono (by assumption) (by first | omega | (simp <;> omega)))) | with_reducible apply Below.drew | with_reducible apply below_drewN | (with_reducible refine Below.alloc ?_ (by first | omega | (simp <;> omega)) _) | (with_reducible refine Below.setCell ?_ (by first | omega | (simp <;> omega)) _)))); rintro e w4 ⟨⟨z4, rfl⟩, hbw4⟩; have hz4 := hbw4.size; (try simp at hz4); (skip; (try ((have kw4XX0 := (bnew hbw4) (X) ?pf); (case pf => (first | omega | (simp; done) | (simp; omega))); obtain ⟨kcw4XX0, kfw4XX0, klw4XX0⟩ := kw4XX0)); (try ((have kw4w20 := (bnew hbw4) (w2.heap.size) ?pf); (case pf => (first | omega | (simp; done) | (simp; omega))); obtain ⟨kcw4w20, kfw4w20, klw4w20⟩ := kw4w20))))
          | (go_at_call 16; (with_reducible refine ((unhide HC) _).mono ?_); rintro e w5 ⟨rfl, hbw5⟩; obtain ⟨hcw5, hfw5⟩ := bcell hbw5; have hzw5 := hbw5.size; (try simp at hzw5); (try ((have kw5XX0 := (bnew hbw5) (X) ?pf); (case pf => (first | omega | (simp; done) | (simp; omega))); obtain ⟨kcw5XX0, kfw5XX0, klw5XX0⟩ := kw5XX0)); (try ((have kw5w20 := (bnew hbw5) (w2.heap.size) ?pf); (case pf => (first | omega | (simp; done) | (simp; omega))); obtain ⟨kcw5w20, kfw5w20, klw5w20⟩ := kw5w20))))
        have hb := unhide HB
        go_roundw
        case rel => exact ⟨k - 1, by go_num, by omega, by omega, hide (by rw [show k - 1 - 50 = k - 51 by omega]; exact (unhide HR2).symm), (by repeat (first | with_reducible exact Below.refl _ _ | with_reducible assumption | (with_reducible refine Below.trans ?_ (Below.mono (by assumption) (by first | omega | (simp <;> omega)))) | with_reducible apply Below.drew | with_reducible apply below_drewN | (with_reducible refine Below.alloc ?_ (by first | omega | (simp <;> omega)) _) | (with_reducible refine Below.setCell ?_ (by first | omega | (simp <;> omega)) _)))⟩
        case measure => (simp [intOf] <;> omega)
      · by_cases hx : x ≤ 0
        · have hR2 := HST.out
          rw [decide_eq_true hx] at hR2
          simp only [Bool.and_true, if_true] at hR2
          subst hR2
          have d1 : decide (x ≤ 0) = true := decide_eq_true hx
          go_wp2_with (first
            | (go_at_call 13; (with_reducible refine ((unhide HM) _).mono ?_); rintro e w2 ⟨rfl, hbw2⟩; obtain ⟨hcw2, hfw2⟩ := bcell hbw2; have hzw2 := hbw2.size; (try simp at hzw2); (try ((have kw2XX0 := (bnew hbw2) (X) ?pf); (case pf => (first | omega | (simp; done) | (simp; omega))); obtain ⟨kcw2XX0, kfw2XX0, klw2XX0⟩ := kw2XX0)))
            | (go_at_call 14; (with_reducible refine ((unhide HT) _).mono ?_); rintro e w3 ⟨⟨B3, d3, rfl, ho3⟩, hbw3⟩; have hz3 := hbw3.size; (try simp at hz3); (skip; (try ((have kw3XX0 := (bnew hbw3) (X) ?pf); (case pf => (first | omega | (simp; done) | (simp; omega))); obtain ⟨kcw3XX0, kfw3XX0, klw3XX0⟩ := kw3XX0)); (try ((have kw3w20 := (bnew hbw3) (w2.heap.size) ?pf); (case pf => (first | omega | (simp; done) | (simp; omega))); obtain ⟨kcw3w20, kfw3w20, klw3w20⟩ := kw3w20))); have HO3 := hide ho3; clear ho3)
            | (go_at_call 15; (with_reducible refine ((unhide HN) _ _ _ _ (own_below (unhide HO3) ?pb)).mono ?_); (case pb => exact (by repeat (first | with_reducible exact Below.refl _ _ | with_reducible assumption | (with_reducible refine Below.trans ?_ (Below.mono (by assumption) (by first | omega | (simp <;> omega)))) | with_reducible apply Below.drew | with_reducible apply below_drewN | (with_reducible refine Below.alloc ?_ (by first | omega | (simp <;> omega)) _) | (with_reducible refine Below.setCell ?_ (by first | omega | (simp <;> omega)) _)))); rintro e w4 ⟨⟨z4, rfl⟩, hbw4⟩; have hz4 := hbw4.size; (try simp at hz4); (skip; (try ((have kw4XX0 := (bnew hbw4) (X) ?pf); (case pf => (first | omega | (simp; done) | (simp; omega))); obtain ⟨kcw4XX0, kfw4XX0, klw4XX0⟩ := kw4XX0)); (try ((have kw4w20 := (bnew hbw4) (w2.heap.size) ?pf); (case pf => (first | omega | (simp; done) | (simp; omega))); obtain ⟨kcw4w20, kfw4w20, klw4w20⟩ := kw4w20))))
            | (go_at_call 16; (with_reducible refine ((unhide HC) _).mono ?_); rintro e w5 ⟨rfl, hbw5⟩; obtain ⟨hcw5, hfw5⟩ := bcell hbw5; have hzw5 := hbw5.size; (try simp at hzw5); (try ((have kw5XX0 := (bnew hbw5) (X) ?pf); (case pf => (first | omega | (simp; done) | (simp; omega))); obtain ⟨kcw5XX0, kfw5XX0, klw5XX0⟩ := kw5XX0)); (try ((have kw5w20 := (bnew hbw5) (w2.heap.size) ?pf); (case pf => (first | omega | (simp; done) | (simp; omega))); obtain ⟨kcw5w20, kfw5w20, klw5w20⟩ := kw5w20))))
          have hb := unhide HB
          have hb5 : Below w1.heap.size w1 w5 := (by repeat (first | with_reducible exact Below.refl _ _ | with_reducible assumption | (with_reducible refine Below.trans ?_ (Below.mono (by assumption) (by first | omega | (simp <;> omega)))) | with_reducible apply Below.drew | with_reducible apply below_drewN | (with_reducible refine Below.alloc ?_ (by first | omega | (simp <;> omega)) _) | (with_reducible refine Below.setCell ?_ (by first | omega | (simp <;> omega)) _)))
          have hb6 : Below X w w5 := (unhide HBA).trans (hb5.mono (by omega))
          exact bodyPost_ret (v := .tuple #[.agg #[.int .i64 (hn), .int .i64 (hd)], .bool true]) (by simp [results, Tryz.results5, go_sem, *]) rfl ⟨rfl, by exact (hb6.setCell (Nat.le_refl _) _).setCell (Nat.le_refl _) _⟩
        · have hR2 := HST.out
          rw [decide_eq_false hx] at hR2
          simp only [Bool.and_false, Bool.false_eq_true, if_false] at hR2
          have HR2 := hide hR2
          clear hR2
          have d1 : decide (x ≤ 0) = false := decide_eq_false hx
          go_wp2_with (first
            | (go_at_call 13; (with_reducible refine ((unhide HM) _).mono ?_); rintro e w2 ⟨rfl, hbw2⟩; obtain ⟨hcw2, hfw2⟩ := bcell hbw2; have hzw2 := hbw2.size; (try simp at hzw2); (try ((have kw2XX0 := (bnew hbw2) (X) ?pf); (case pf => (first | omega | (simp; done) | (simp; omega))); obtain ⟨kcw2XX0, kfw2XX0, klw2XX0⟩ := kw2XX0)))
            | (go_at_call 14; (with_reducible refine ((unhide HT) _).mono ?_); rintro e w3 ⟨⟨B3, d3, rfl, ho3⟩, hbw3⟩; have hz3 := hbw3.size; (try simp at hz3); (skip; (try ((have kw3XX0 := (bnew hbw3) (X) ?pf); (case pf => (first | omega | (simp; done) | (simp; omega))); obtain ⟨kcw3XX0, kfw3XX0, klw3XX0⟩ := kw3XX0)); (try ((have kw3w20 := (bnew hbw3) (w2.heap.size) ?pf); (case pf => (first | omega | (simp; done) | (simp; omega))); obtain ⟨kcw3w20, kfw3w20, klw3w20⟩ := kw3w20))); have HO3 := hide ho3; clear ho3)
            | (go_at_call 15; (with_reducible refine ((unhide HN) _ _ _ _ (own_below (unhide HO3) ?pb)).mono ?_); (case pb => exact (by repeat (first | with_reducible exact Below.refl _ _ | with_reducible assumption | (with_reducible refine Below.trans ?_ (Below.mono (by assumption) (by first | omega | (simp <;> omega)))) | with_reducible apply Below.drew | with_reducible apply below_drewN | (with_reducible refine Below.alloc ?_ (by first | omega | (simp <;> omega)) _) | (with_reducible refine Below.setCell ?_ (by first | omega | (simp <;> omega)) _)))); rintro e w4 ⟨⟨z4, rfl⟩, hbw4⟩; have hz4 := hbw4.size; (try simp at hz4); (skip; (try ((have kw4XX0 := (bnew hbw4) (X) ?pf); (case pf => (first | omega | (simp; done) | (simp; omega))); obtain ⟨kcw4XX0, kfw4XX0, klw4XX0⟩ := kw4XX0)); (try ((have kw4w20 := (bnew hbw4) (w2.heap.size) ?pf); (case pf => (first | omega | (simp; done) | (simp; omega))); obtain ⟨kcw4w20, kfw4w20, klw4w20⟩ := kw4w20))))
            | (go_at_call 16; (with_reducible refine ((unhide HC) _).mono ?_); rintro e w5 ⟨rfl, hbw5⟩; obtain ⟨hcw5, hfw5⟩ := bcell hbw5; have hzw5 := hbw5.size; (try simp at hzw5); (try ((have kw5XX0 := (bnew hbw5) (X) ?pf); (case pf => (first | omega | (simp; done) | (simp; omega))); obtain ⟨kcw5XX0, kfw5XX0, klw5XX0⟩ := kw5XX0)); (try ((have kw5w20 := (bnew hbw5) (w2.heap.size) ?pf); (case pf => (first | omega | (simp; done) | (simp; omega))); obtain ⟨kcw5w20, kfw5w20, klw5w20⟩ := kw5w20))))
          have hb := unhide HB
          go_roundw
          case rel => exact ⟨k - 1, by go_num, by omega, by omega, hide (by rw [show k - 1 - 50 = k - 51 by omega]; exact (unhide HR2).symm), (by repeat (first | with_reducible exact Below.refl _ _ | with_reducible assumption | (with_reducible refine Below.trans ?_ (Below.mono (by assumption) (by first | omega | (simp <;> omega)))) | with_reducible apply Below.drew | with_reducible apply below_drewN | (with_reducible refine Below.alloc ?_ (by first | omega | (simp <;> omega)) _) | (with_reducible refine Below.setCell ?_ (by first | omega | (simp <;> omega)) _)))⟩
          case measure => (simp [intOf] <;> omega)
    · obtain rfl : k = 50 := by omega
      have hR2 := unhide hR'
      obtain rfl : R = ((0, 0), false) := hR2.symm
      clear hR2 hR'
      go_wp2_with fail
      have hb6 : Below X w wr := (unhide HBA).trans ((unhide HB).mono (by omega))
      exact bodyPost_ret (v := .tuple #[.agg #[.int .i64 (0), .int .i64 (0)], .bool false]) (by simp [results, Tryz.results5, go_sem, *]) rfl ⟨rfl, by exact (hb6.setCell (Nat.le_refl _) _).setCell (Nat.le_refl _) _⟩

set_option maxRecDepth 100000 in
set_option maxHeartbeats 800000 in
theorem iHeightFor_any (s : ByteArray) (w : World) (hs : s.size ≤ 1048576) :
    Calls Tryz.prog 5 #[.string s] w fun e w' => e = .returned (.tuple #[.agg #[.int .i64 ((hfR s).1.1), .int .i64 ((hfR s).1.2)], .bool (hfR s).2]) ∧ Below w.heap.size w w' := by
  have hgs := fun W => iIsKneadingWord_any s W hs
  rcases hg : gdB sLCR s with _ | _
  · rw [hf_no (by rw [hg]; rfl)]
    rw [hg] at hgs
    have HGS := hide hgs
    clear hgs hg
    go_enter Tryz.func5, Tryz.ntmps5
    go_wp2_with (go_at_call 12; (with_reducible refine ((unhide HGS) _).mono ?_); rintro e w1 ⟨rfl, hbw1⟩; obtain ⟨hcw1, hfw1⟩ := bcell hbw1; have hzw1 := hbw1.size; (try simp at hzw1); (try ((have kw1w0 := (bnew hbw1) (w.heap.size) ?pf); (case pf => (first | omega | (simp; done) | (simp; omega))); obtain ⟨kcw1w0, kfw1w0, klw1w0⟩ := kw1w0)))
    exact bodyPost_ret (v := .tuple #[.agg #[.int .i64 (0), .int .i64 (0)], .bool false]) (by simp [results, Tryz.results5, go_sem, *]) rfl ⟨rfl, (by repeat (first | with_reducible exact Below.refl _ _ | with_reducible assumption | (with_reducible refine Below.trans ?_ (Below.mono (by assumption) (by first | omega | (simp <;> omega)))) | with_reducible apply Below.drew | with_reducible apply below_drewN | (with_reducible refine Below.alloc ?_ (by first | omega | (simp <;> omega)) _) | (with_reducible refine Below.setCell ?_ (by first | omega | (simp <;> omega)) _)))⟩
  · by_cases h4 : s.size ≤ 4
    · rw [hf_yes (by rw [hg, decide_eq_true h4]; rfl)]
      exact iHeight_good s w hg h4
    · rw [hf_no (by rw [decide_eq_false h4, Bool.and_false])]
      rw [hg] at hgs
      have HGS := hide hgs
      have e4 : (s.size : Int) > 4 := by omega
      clear hgs hg
      go_enter Tryz.func5, Tryz.ntmps5
      go_wp2_with (go_at_call 12; (with_reducible refine ((unhide HGS) _).mono ?_); rintro e w1 ⟨rfl, hbw1⟩; obtain ⟨hcw1, hfw1⟩ := bcell hbw1; have hzw1 := hbw1.size; (try simp at hzw1); (try ((have kw1w0 := (bnew hbw1) (w.heap.size) ?pf); (case pf => (first | omega | (simp; done) | (simp; omega))); obtain ⟨kcw1w0, kfw1w0, klw1w0⟩ := kw1w0)))
      exact bodyPost_ret (v := .tuple #[.agg #[.int .i64 (0), .int .i64 (0)], .bool false]) (by simp [results, Tryz.results5, go_sem, *]) rfl ⟨rfl, (by repeat (first | with_reducible exact Below.refl _ _ | with_reducible assumption | (with_reducible refine Below.trans ?_ (Below.mono (by assumption) (by first | omega | (simp <;> omega)))) | with_reducible apply Below.drew | with_reducible apply below_drewN | (with_reducible refine Below.alloc ?_ (by first | omega | (simp <;> omega)) _) | (with_reducible refine Below.setCell ?_ (by first | omega | (simp <;> omega)) _)))⟩
end Go.Proofs.YtldmgjeecomddaaGreatDoor

namespace Go.Proofs.YtldmgjeecomddaaGreatDoor
open Go.RowKit Rm

theorem tent_map {k : Nat} (h1 : 51 ≤ k) (h2 : k ≤ 100) : ∃ qs : List QP, tnT (hxN k) (hxD k) = qs.map qp ∧ umB (qs.map qp) = true := by
  have h := (hx_at h1 h2).2.2
  obtain ⟨qs, hq, _⟩ := lmB_of (um_lm h)
  exact ⟨qs, hq, by rw [← hq]; exact h⟩
theorem let_good (d : Int) : sLCR.data.toList.contains (knLet d) = true := by
  unfold knLet
  split
  · rfl
  · split <;> rfl
theorem knK_good (l : List Rat) (c : Rat) : ∀ j, (knK l c j).all (fun b => sLCR.data.toList.contains b) = true
  | 0 => rfl
  | j + 1 => by rw [knK, List.all_append, knK_good l c j]; simpa using let_good _
/-- What the comparison gives, by whether there is a kneading sequence. -/
theorem hf_cmp {s : ByteArray} {k : Nat} (hg : gdB sLCR s = true) :
    ((ocO (tnT (hxN k) (hxD k)) (s.size : Int)).isSome = false → ckZ ⟨(hfT s k).toArray⟩ s = false) ∧
    ((ocO (tnT (hxN k) (hxD k)) (s.size : Int)).isSome = true → ckZ ⟨(hfT s k).toArray⟩ s = true ∧ (⟨(hfT s k).toArray⟩ : ByteArray).size = s.size ∧ ckI ⟨(hfT s k).toArray⟩ s = ckF (hfT s k) s.data.toList s.size 0) := by
  have h30 := gd_size' hg
  cases ho : ocO (tnT (hxN k) (hxD k)) (s.size : Int) with
  | none =>
    refine ⟨fun _ => ?_, fun h => by cases h⟩
    have e : hfT s k = [] := by unfold hfT knT; rw [ho]
    rw [e]
    have hz : gdB sLCR ⟨([] : List UInt8).toArray⟩ = false := by rfl
    unfold ckZ
    rw [hz]; rfl
  | some l =>
    refine ⟨fun h => (by cases h), fun _ => ?_⟩
    have e : hfT s k = knK l (cenQ (dec (tnT (hxN k) (hxD k)))) s.size := by unfold hfT knT; rw [ho]; simp
    have hsz : (⟨(hfT s k).toArray⟩ : ByteArray).size = s.size := by rw [Lib.size_mk, e, knK_len]
    have hgd : gdB sLCR ⟨(hfT s k).toArray⟩ = true := by
      unfold gdB inB
      rw [hsz, decide_eq_true h30, Bool.and_true, e]
      exact knK_good _ _ _
    have hz : ckZ ⟨(hfT s k).toArray⟩ s = true := by unfold ckZ; rw [hgd, hg, hsz]; simp
    refine ⟨hz, hsz, ?_⟩
    unfold ckI
    rw [hz, hsz]

set_option maxRecDepth 100000 in
set_option maxHeartbeats 3200000 in
theorem sHeight_good (s : ByteArray) (w : World) (hg : gdB sLCR s = true) (h4 : s.size ≤ 4) :
    Calls Tryz.prog 4 #[.string s] w fun e w' => e = .returned (.tuple #[.agg #[.int .i64 ((hfF s 50).1.1), .int .i64 ((hfF s 50).1.2)], .bool (hfF s 50).2]) ∧ Below w.heap.size w w' := by
  have h30 := gd_size' hg
  have hgs := fun W => knGood_any sLCR s W (by decide) (by omega)
  rw [hg] at hgs
  have hmr : ∀ k : Nat, 51 ≤ k → k ≤ 100 → ∀ W, Calls Tryz.prog 8 #[.int .i64 (k : Int), .int .i64 100] W fun e w' => e = .returned (.tuple #[.agg #[.int .i64 (hxN k), .int .i64 (hxD k)], .bool true]) ∧ Below W.heap.size W w' := fun k k1 k2 W => by
    have h := raMake_any (k : Int) 100 W (by omega) (by omega) (by omega) (by omega)
    rw [(hx_at k1 k2).1] at h
    exact h
  have htn : ∀ k : Nat, ∀ W, Calls Tryz.prog 10 #[.agg #[.int .i64 (hxN k), .int .i64 (hxD k)]] W fun e w' => (∃ g : Nat, e = .returned (.slice (some ⟨g, 0, none⟩) 3 3) ∧ w'.ownsRow W.heap.size 50 4 (.slice (some ⟨g, 0, none⟩) 3 3) 3 (ptcs (tnT (hxN k) (hxD k)))) ∧ Below W.heap.size W w' := fun k W => by
    refine (knTent_any (hxN k) (hxD k) W).mono ?_
    rintro e w' ⟨g, h1, h2, h3⟩
    exact ⟨⟨g, h1, h2⟩, h3⟩
  have hkn : ∀ k : Nat, 51 ≤ k → k ≤ 100 → ∀ (g base : Nat) (W : World), W.ownsRow base 50 4 (.slice (some ⟨g, 0, none⟩) 3 3) 3 (ptcs (tnT (hxN k) (hxD k))) → Calls Tryz.prog 9 #[.slice (some ⟨g, 0, none⟩) 3 3, .int .i64 (s.size : Int)] W fun e w' => e = .returned (.tuple #[.string ⟨(hfT s k).toArray⟩, .bool (ocO (tnT (hxN k) (hxD k)) (s.size : Int)).isSome]) ∧ Below W.heap.size W w' := fun k k1 k2 g base W hW => by
    obtain ⟨qs, hq, hu⟩ := tent_map k1 k2
    unfold hfT
    rw [hq] at hW ⊢
    exact knWord_map g 2 3 base qs s.size W hW hu (by omega) (by omega)
  have hck : ∀ k : Nat, (ocO (tnT (hxN k) (hxD k)) (s.size : Int)).isSome = true → ∀ W, Calls Tryz.prog 11 #[.string ⟨(hfT s k).toArray⟩, .string s] W fun e w' => e = .returned (.int .i64 (ckI ⟨(hfT s k).toArray⟩ s)) ∧ Below W.heap.size W w' := fun k hz W => by
    obtain ⟨_, hsz, hv⟩ := (hf_cmp (k := k) hg).2 hz
    have h := knCompare_any ⟨(hfT s k).toArray⟩ s W (by omega) (by omega)
    rw [hsz] at h
    rw [hv]
    exact h
  have hcz : ∀ k : Nat, ckZ ⟨(hfT s k).toArray⟩ s = (ocO (tnT (hxN k) (hxD k)) (s.size : Int)).isSome := fun k => by
    cases hz : (ocO (tnT (hxN k) (hxD k)) (s.size : Int)).isSome with
    | false => exact (hf_cmp (k := k) hg).1 hz
    | true => exact ((hf_cmp (k := k) hg).2 hz).1
  obtain ⟨R, hR⟩ : ∃ R, R = hfF s 50 := ⟨_, rfl⟩
  rw [← hR]
  have HGS := hide hgs; have HMR := hide hmr; have HTN := hide htn; have HKN := hide hkn; have HCK := hide hck; have HR := Lib.hid hR; have HCZ := hide hcz
  clear hgs hmr htn hkn hck hR hg hcz
  have e4 : ¬ (s.size : Int) > 4 := by omega
  go_enter Tryz.func4, Tryz.ntmps4
  go_wp2_with (go_at_call 7; (with_reducible refine ((unhide HGS) _).mono ?_); rintro e w1 ⟨rfl, hbw1⟩; obtain ⟨hcw1, hfw1⟩ := bcell hbw1; have hzw1 := hbw1.size; (try simp at hzw1); (try ((have kw1w0 := (bnew hbw1) (w.heap.size) ?pf); (case pf => (first | omega | (simp; done) | (simp; omega))); obtain ⟨kcw1w0, kfw1w0, klw1w0⟩ := kw1w0)))
  have x0 : w1.cell? ⟨w.heap.size, 0, none⟩ = some (.int .i64 0) := by first | assumption | (simp [go_sem, *]; done)
  have x1 : w1.cell? ⟨w.heap.size, 1, none⟩ = some (.int .i64 0) := by first | assumption | (simp [go_sem, *]; done)
  have y0 : w1.frozen? ⟨w.heap.size, 0, none⟩ = false := by first | assumption | (simp [go_sem, *]; done)
  have y1 : w1.frozen? ⟨w.heap.size, 1, none⟩ = false := by first | assumption | (simp [go_sem, *]; done)
  have hX : w.heap.size < w1.heap.size := by have h := hbw1.size; simp at h; omega
  have hbA : Below w.heap.size w w1 := (by repeat (first | with_reducible exact Below.refl _ _ | with_reducible assumption | (with_reducible refine Below.trans ?_ (Below.mono (by assumption) (by first | omega | (simp <;> omega)))) | with_reducible apply Below.drew | with_reducible apply below_drewN | (with_reducible refine Below.alloc ?_ (by first | omega | (simp <;> omega)) _) | (with_reducible refine Below.setCell ?_ (by first | omega | (simp <;> omega)) _)))
  clear hbw1 hcw1 hfw1 kcw1w0 kfw1w0 klw1w0
  generalize hXe : w.heap.size = X at *
  have HBA := hide hbA
  clear hbA
  go_loopw [4] (fun i wr => ∃ k : Nat, i = .int .i64 (k : Int) ∧ 50 ≤ k ∧ k ≤ 100 ∧ Hid (hfF s (k - 50) = R) ∧ Below w1.heap.size w1 wr) (fun i _ => (intOf i).toNat)
  case atStart => exact ⟨100, rfl, by omega, by omega, hide HR.out.symm, Below.refl _ _⟩
  case round =>
    obtain ⟨k, rfl, hk1, hk2, hR', hb⟩ := hrel
    have hzr := hb.size
    have c0 := (hb.cell (p := ⟨X, 0, none⟩) hX).trans x0
    have c1 := (hb.cell (p := ⟨X, 1, none⟩) hX).trans x1
    have g0 := (hb.frozen (p := ⟨X, 0, none⟩) hX).trans y0
    have g1 := (hb.frozen (p := ⟨X, 1, none⟩) hX).trans y1
    have hXr : X < wr.heap.size := by omega
    have HB := hide hb
    clear hb
    by_cases hlt : 51 ≤ k
    · have hst := hf_step (s := s) hlt
      rw [unhide hR'] at hst
      unfold hfB at hst
      have hm := (unhide HMR) k hlt hk2
      have ht := (unhide HTN) k
      have hn := (unhide HKN) k hlt hk2
      have hc := (unhide HCK) k
      have hcz := (unhide HCZ) k
      rw [← hcz] at hn hc
      have HM := hide hm; have HT := hide ht; have HN := hide hn; have HC := hide hc; have HST := Lib.hid hst
      have s1 : IntKind.i64.wrap ((k : Int) - 1) = ((k - 1 : Nat) : Int) := by rw [show (k : Int) - 1 = ((k - 1 : Nat) : Int) by omega]; exact IntWalk.i64_in _ (by omega)
      have t51 : (50 : Int) < (k : Int) := by omega
      clear hm ht hn hc hst hR' HMR HTN HKN HCK HCZ hcz
      generalize ckZ ⟨(hfT s k).toArray⟩ s = z at *
      generalize ckI ⟨(hfT s k).toArray⟩ s = x at *
      generalize hxN k = hn at *
      generalize hxD k = hd at *
      cases z
      · have hR2 := HST.out
        simp only [Bool.false_and, Bool.false_eq_true, if_false] at hR2
        have HR2 := hide hR2
        clear hR2
        go_wp2_with (first
          | (go_at_call 8; (with_reducible refine ((unhide HM) _).mono ?_); rintro e w2 ⟨rfl, hbw2⟩; obtain ⟨hcw2, hfw2⟩ := bcell hbw2; have hzw2 := hbw2.size; (try simp at hzw2); (try ((have kw2XX0 := (bnew hbw2) (X) ?pf); (case pf => (first | omega | (simp; done) | (simp; omega))); obtain ⟨kcw2XX0, kfw2XX0, klw2XX0⟩ := kw2XX0)))
          | (go_at_call 10; (with_reducible refine ((unhide HT) _).mono ?_); rintro e w3 ⟨⟨G3, rfl, ho3⟩, hbw3⟩; have hz3 := hbw3.size; (try simp at hz3); (skip; (try ((have kw3XX0 := (bnew hbw3) (X) ?pf); (case pf => (first | omega | (simp; done) | (simp; omega))); obtain ⟨kcw3XX0, kfw3XX0, klw3XX0⟩ := kw3XX0)); (try ((have kw3w20 := (bnew hbw3) (w2.heap.size) ?pf); (case pf => (first | omega | (simp; done) | (simp; omega))); obtain ⟨kcw3w20, kfw3w20, klw3w20⟩ := kw3w20))); have HO3 := hide ho3; clear ho3)
          | (go_at_call 9; (with_reducible refine ((unhide HN) _ _ _ (own_below (unhide HO3) ?pb)).mono ?_); (case pb => exact (by repeat (first | with_reducible exact Below.refl _ _ | with_reducible assumption | (with_reducible refine Below.trans ?_ (Below.mono (by assumption) (by first | omega | (simp <;> omega)))) | with_reducible apply Below.drew | with_reducible apply below_drewN | (with_reducible refine Below.alloc ?_ (by first | omega | (simp <;> omega)) _) | (with_reducible refine Below.setCell ?_ (by first | omega | (simp <;> omega)) _)))); rintro e w4 ⟨rfl, hbw4⟩; have hz4 := hbw4.size; (try simp at hz4); (skip; (try ((have kw4XX0 := (bnew hbw4) (X) ?pf); (case pf => (first | omega | (simp; done) | (simp; omega))); obtain ⟨kcw4XX0, kfw4XX0, klw4XX0⟩ := kw4XX0)); (try ((have kw4w20 := (bnew hbw4) (w2.heap.size) ?pf); (case pf => (first | omega | (simp; done) | (simp; omega))); obtain ⟨kcw4w20, kfw4w20, klw4w20⟩ := kw4w20)))))
        have hb := unhide HB
        go_roundw
        case rel => exact ⟨k - 1, by go_num, by omega, by omega, hide (by rw [show k - 1 - 50 = k - 51 by omega]; exact (unhide HR2).symm), (by repeat (first | with_reducible exact Below.refl _ _ | with_reducible assumption | (with_reducible refine Below.trans ?_ (Below.mono (by assumption) (by first | omega | (simp <;> omega)))) | with_reducible apply Below.drew | with_reducible apply below_drewN | (with_reducible refine Below.alloc ?_ (by first | omega | (simp <;> omega)) _) | (with_reducible refine Below.setCell ?_ (by first | omega | (simp <;> omega)) _)))⟩
        case measure => (simp [intOf] <;> omega)
      · by_cases hx : x ≤ 0
        · have hR2 := HST.out
          rw [decide_eq_true hx] at hR2
          simp only [Bool.and_true, if_true] at hR2
          subst hR2
          have d1 : decide (x ≤ 0) = true := decide_eq_true hx
          go_wp2_with (first
            | (go_at_call 8; (with_reducible refine ((unhide HM) _).mono ?_); rintro e w2 ⟨rfl, hbw2⟩; obtain ⟨hcw2, hfw2⟩ := bcell hbw2; have hzw2 := hbw2.size; (try simp at hzw2); (try ((have kw2XX0 := (bnew hbw2) (X) ?pf); (case pf => (first | omega | (simp; done) | (simp; omega))); obtain ⟨kcw2XX0, kfw2XX0, klw2XX0⟩ := kw2XX0)))
            | (go_at_call 10; (with_reducible refine ((unhide HT) _).mono ?_); rintro e w3 ⟨⟨G3, rfl, ho3⟩, hbw3⟩; have hz3 := hbw3.size; (try simp at hz3); (skip; (try ((have kw3XX0 := (bnew hbw3) (X) ?pf); (case pf => (first | omega | (simp; done) | (simp; omega))); obtain ⟨kcw3XX0, kfw3XX0, klw3XX0⟩ := kw3XX0)); (try ((have kw3w20 := (bnew hbw3) (w2.heap.size) ?pf); (case pf => (first | omega | (simp; done) | (simp; omega))); obtain ⟨kcw3w20, kfw3w20, klw3w20⟩ := kw3w20))); have HO3 := hide ho3; clear ho3)
            | (go_at_call 9; (with_reducible refine ((unhide HN) _ _ _ (own_below (unhide HO3) ?pb)).mono ?_); (case pb => exact (by repeat (first | with_reducible exact Below.refl _ _ | with_reducible assumption | (with_reducible refine Below.trans ?_ (Below.mono (by assumption) (by first | omega | (simp <;> omega)))) | with_reducible apply Below.drew | with_reducible apply below_drewN | (with_reducible refine Below.alloc ?_ (by first | omega | (simp <;> omega)) _) | (with_reducible refine Below.setCell ?_ (by first | omega | (simp <;> omega)) _)))); rintro e w4 ⟨rfl, hbw4⟩; have hz4 := hbw4.size; (try simp at hz4); (skip; (try ((have kw4XX0 := (bnew hbw4) (X) ?pf); (case pf => (first | omega | (simp; done) | (simp; omega))); obtain ⟨kcw4XX0, kfw4XX0, klw4XX0⟩ := kw4XX0)); (try ((have kw4w20 := (bnew hbw4) (w2.heap.size) ?pf); (case pf => (first | omega | (simp; done) | (simp; omega))); obtain ⟨kcw4w20, kfw4w20, klw4w20⟩ := kw4w20))))
            | (go_at_call 11; (with_reducible refine ((unhide HC) (by simp) _).mono ?_); rintro e w5 ⟨rfl, hbw5⟩; obtain ⟨hcw5, hfw5⟩ := bcell hbw5; have hzw5 := hbw5.size; (try simp at hzw5); (try ((have kw5XX0 := (bnew hbw5) (X) ?pf); (case pf => (first | omega | (simp; done) | (simp; omega))); obtain ⟨kcw5XX0, kfw5XX0, klw5XX0⟩ := kw5XX0)); (try ((have kw5w20 := (bnew hbw5) (w2.heap.size) ?pf); (case pf => (first | omega | (simp; done) | (simp; omega))); obtain ⟨kcw5w20, kfw5w20, klw5w20⟩ := kw5w20))))
          have hb := unhide HB
          have hb5 : Below w1.heap.size w1 w5 := (by repeat (first | with_reducible exact Below.refl _ _ | with_reducible assumption | (with_reducible refine Below.trans ?_ (Below.mono (by assumption) (by first | omega | (simp <;> omega)))) | with_reducible apply Below.drew | with_reducible apply below_drewN | (with_reducible refine Below.alloc ?_ (by first | omega | (simp <;> omega)) _) | (with_reducible refine Below.setCell ?_ (by first | omega | (simp <;> omega)) _)))
          have hb6 : Below X w w5 := (unhide HBA).trans (hb5.mono (by omega))
          exact bodyPost_ret (v := .tuple #[.agg #[.int .i64 (hn), .int .i64 (hd)], .bool true]) (by simp [results, Tryz.results4, go_sem, *]) rfl ⟨rfl, by exact (hb6.setCell (Nat.le_refl _) _).setCell (Nat.le_refl _) _⟩
        · have hR2 := HST.out
          rw [decide_eq_false hx] at hR2
          simp only [Bool.and_false, Bool.false_eq_true, if_false] at hR2
          have HR2 := hide hR2
          clear hR2
          have d1 : decide (x ≤ 0) = false := decide_eq_false hx
          go_wp2_with (first
            | (go_at_call 8; (with_reducible refine ((unhide HM) _).mono ?_); rintro e w2 ⟨rfl, hbw2⟩; obtain ⟨hcw2, hfw2⟩ := bcell hbw2; have hzw2 := hbw2.size; (try simp at hzw2); (try ((have kw2XX0 := (bnew hbw2) (X) ?pf); (case pf => (first | omega | (simp; done) | (simp; omega))); obtain ⟨kcw2XX0, kfw2XX0, klw2XX0⟩ := kw2XX0)))
            | (go_at_call 10; (with_reducible refine ((unhide HT) _).mono ?_); rintro e w3 ⟨⟨G3, rfl, ho3⟩, hbw3⟩; have hz3 := hbw3.size; (try simp at hz3); (skip; (try ((have kw3XX0 := (bnew hbw3) (X) ?pf); (case pf => (first | omega | (simp; done) | (simp; omega))); obtain ⟨kcw3XX0, kfw3XX0, klw3XX0⟩ := kw3XX0)); (try ((have kw3w20 := (bnew hbw3) (w2.heap.size) ?pf); (case pf => (first | omega | (simp; done) | (simp; omega))); obtain ⟨kcw3w20, kfw3w20, klw3w20⟩ := kw3w20))); have HO3 := hide ho3; clear ho3)
            | (go_at_call 9; (with_reducible refine ((unhide HN) _ _ _ (own_below (unhide HO3) ?pb)).mono ?_); (case pb => exact (by repeat (first | with_reducible exact Below.refl _ _ | with_reducible assumption | (with_reducible refine Below.trans ?_ (Below.mono (by assumption) (by first | omega | (simp <;> omega)))) | with_reducible apply Below.drew | with_reducible apply below_drewN | (with_reducible refine Below.alloc ?_ (by first | omega | (simp <;> omega)) _) | (with_reducible refine Below.setCell ?_ (by first | omega | (simp <;> omega)) _)))); rintro e w4 ⟨rfl, hbw4⟩; have hz4 := hbw4.size; (try simp at hz4); (skip; (try ((have kw4XX0 := (bnew hbw4) (X) ?pf); (case pf => (first | omega | (simp; done) | (simp; omega))); obtain ⟨kcw4XX0, kfw4XX0, klw4XX0⟩ := kw4XX0)); (try ((have kw4w20 := (bnew hbw4) (w2.heap.size) ?pf); (case pf => (first | omega | (simp; done) | (simp; omega))); obtain ⟨kcw4w20, kfw4w20, klw4w20⟩ := kw4w20))))
            | (go_at_call 11; (with_reducible refine ((unhide HC) (by simp) _).mono ?_); rintro e w5 ⟨rfl, hbw5⟩; obtain ⟨hcw5, hfw5⟩ := bcell hbw5; have hzw5 := hbw5.size; (try simp at hzw5); (try ((have kw5XX0 := (bnew hbw5) (X) ?pf); (case pf => (first | omega | (simp; done) | (simp; omega))); obtain ⟨kcw5XX0, kfw5XX0, klw5XX0⟩ := kw5XX0)); (try ((have kw5w20 := (bnew hbw5) (w2.heap.size) ?pf); (case pf => (first | omega | (simp; done) | (simp; omega))); obtain ⟨kcw5w20, kfw5w20, klw5w20⟩ := kw5w20))))
          have hb := unhide HB
          go_roundw
          case rel => exact ⟨k - 1, by go_num, by omega, by omega, hide (by rw [show k - 1 - 50 = k - 51 by omega]; exact (unhide HR2).symm), (by repeat (first | with_reducible exact Below.refl _ _ | with_reducible assumption | (with_reducible refine Below.trans ?_ (Below.mono (by assumption) (by first | omega | (simp <;> omega)))) | with_reducible apply Below.drew | with_reducible apply below_drewN | (with_reducible refine Below.alloc ?_ (by first | omega | (simp <;> omega)) _) | (with_reducible refine Below.setCell ?_ (by first | omega | (simp <;> omega)) _)))⟩
          case measure => (simp [intOf] <;> omega)
    · obtain rfl : k = 50 := by omega
      have hR2 := unhide hR'
      obtain rfl : R = ((0, 0), false) := hR2.symm
      clear hR2 hR'
      go_wp2_with fail
      have hb6 : Below X w wr := (unhide HBA).trans ((unhide HB).mono (by omega))
      exact bodyPost_ret (v := .tuple #[.agg #[.int .i64 (0), .int .i64 (0)], .bool false]) (by simp [results, Tryz.results4, go_sem, *]) rfl ⟨rfl, by exact (hb6.setCell (Nat.le_refl _) _).setCell (Nat.le_refl _) _⟩


set_option maxRecDepth 100000 in
set_option maxHeartbeats 800000 in
theorem sHeightFor_any (s : ByteArray) (w : World) (hs : s.size ≤ 1048576) :
    Calls Tryz.prog 4 #[.string s] w fun e w' => e = .returned (.tuple #[.agg #[.int .i64 ((hfR s).1.1), .int .i64 ((hfR s).1.2)], .bool (hfR s).2]) ∧ Below w.heap.size w w' := by
  have hgs := fun W => knGood_any sLCR s W (by decide) hs
  rcases hg : gdB sLCR s with _ | _
  · rw [hf_no (by rw [hg]; rfl)]
    rw [hg] at hgs
    have HGS := hide hgs
    clear hgs hg
    go_enter Tryz.func4, Tryz.ntmps4
    go_wp2_with (go_at_call 7; (with_reducible refine ((unhide HGS) _).mono ?_); rintro e w1 ⟨rfl, hbw1⟩; obtain ⟨hcw1, hfw1⟩ := bcell hbw1; have hzw1 := hbw1.size; (try simp at hzw1); (try ((have kw1w0 := (bnew hbw1) (w.heap.size) ?pf); (case pf => (first | omega | (simp; done) | (simp; omega))); obtain ⟨kcw1w0, kfw1w0, klw1w0⟩ := kw1w0)))
    exact bodyPost_ret (v := .tuple #[.agg #[.int .i64 (0), .int .i64 (0)], .bool false]) (by simp [results, Tryz.results4, go_sem, *]) rfl ⟨rfl, (by repeat (first | with_reducible exact Below.refl _ _ | with_reducible assumption | (with_reducible refine Below.trans ?_ (Below.mono (by assumption) (by first | omega | (simp <;> omega)))) | with_reducible apply Below.drew | with_reducible apply below_drewN | (with_reducible refine Below.alloc ?_ (by first | omega | (simp <;> omega)) _) | (with_reducible refine Below.setCell ?_ (by first | omega | (simp <;> omega)) _)))⟩
  · by_cases h4 : s.size ≤ 4
    · rw [hf_yes (by rw [hg, decide_eq_true h4]; rfl)]
      exact sHeight_good s w hg h4
    · rw [hf_no (by rw [decide_eq_false h4, Bool.and_false])]
      rw [hg] at hgs
      have HGS := hide hgs
      have e4 : (s.size : Int) > 4 := by omega
      clear hgs hg
      go_enter Tryz.func4, Tryz.ntmps4
      go_wp2_with (go_at_call 7; (with_reducible refine ((unhide HGS) _).mono ?_); rintro e w1 ⟨rfl, hbw1⟩; obtain ⟨hcw1, hfw1⟩ := bcell hbw1; have hzw1 := hbw1.size; (try simp at hzw1); (try ((have kw1w0 := (bnew hbw1) (w.heap.size) ?pf); (case pf => (first | omega | (simp; done) | (simp; omega))); obtain ⟨kcw1w0, kfw1w0, klw1w0⟩ := kw1w0)))
      exact bodyPost_ret (v := .tuple #[.agg #[.int .i64 (0), .int .i64 (0)], .bool false]) (by simp [results, Tryz.results4, go_sem, *]) rfl ⟨rfl, (by repeat (first | with_reducible exact Below.refl _ _ | with_reducible assumption | (with_reducible refine Below.trans ?_ (Below.mono (by assumption) (by first | omega | (simp <;> omega)))) | with_reducible apply Below.drew | with_reducible apply below_drewN | (with_reducible refine Below.alloc ?_ (by first | omega | (simp <;> omega)) _) | (with_reducible refine Below.setCell ?_ (by first | omega | (simp <;> omega)) _)))⟩
end Go.Proofs.YtldmgjeecomddaaGreatDoor

namespace Go.Proofs.YtldmgjeecomddaaGreatDoor
open Go.RowKit Rm

set_option maxRecDepth 100000 in
set_option maxHeartbeats 800000 in
theorem lawHeightFor (s : ByteArray) (w : World) :
    Calls Tryz.prog 3 #[.string s] w fun e w' => e = .returned (.bool true) ∧ Below w.heap.size w w' := by
  by_cases hs : s.size ≤ 1048576
  · have hl : decide ((s.size : Int) > 1048576) = false := decide_eq_false (by omega)
    have hsv := fun W => sHeightFor_any s W hs
    have hiv := fun W => iHeightFor_any s W hs
    generalize (hfR s).1.1 = x at *
    generalize (hfR s).1.2 = y at *
    generalize (hfR s).2 = z at *
    have heq := fun W => eqRat_same x y W
    have HSV := hide hsv; have HIV := hide hiv; have HEQ := hide heq; clear hsv hiv heq
    cases z
    all_goals
      go_enter Tryz.func3, Tryz.ntmps3
      go_wp2_with (first
        | (go_at_call 4; (with_reducible refine ((unhide HSV) _).mono ?_); rintro e w1 ⟨rfl, hbw1⟩; obtain ⟨hcw1, hfw1⟩ := bcell hbw1; have hzw1 := hbw1.size; (try simp at hzw1))
        | (go_at_call 5; (with_reducible refine ((unhide HIV) _).mono ?_); rintro e w2 ⟨rfl, hbw2⟩; obtain ⟨hcw2, hfw2⟩ := bcell hbw2; have hzw2 := hbw2.size; (try simp at hzw2); (try ((have kw2w10 := (bnew hbw2) (w1.heap.size) ?pf); (case pf => (first | omega | (simp; done) | (simp; omega))); obtain ⟨kcw2w10, kfw2w10, klw2w10⟩ := kw2w10)))
        | (go_at_call 6; (with_reducible refine ((unhide HEQ) _).mono ?_); rintro e w3 ⟨rfl, hbw3⟩; obtain ⟨hcw3, hfw3⟩ := bcell hbw3; have hzw3 := hbw3.size; (try simp at hzw3)))
      go_ret
      exact ⟨rfl, (by repeat (first | with_reducible exact Below.refl _ _ | with_reducible assumption | (with_reducible refine Below.trans ?_ (Below.mono (by assumption) (by first | omega | (simp <;> omega)))) | with_reducible apply Below.drew | with_reducible apply below_drewN | (with_reducible refine Below.alloc ?_ (by first | omega | (simp <;> omega)) _) | (with_reducible refine Below.setCell ?_ (by first | omega | (simp <;> omega)) _)))⟩
  · have hl : decide ((s.size : Int) > 1048576) = true := decide_eq_true (by omega)
    go_enter Tryz.func3, Tryz.ntmps3
    go_wp2_with fail
    go_ret
    exact ⟨rfl, (by repeat (first | with_reducible exact Below.refl _ _ | with_reducible assumption | (with_reducible refine Below.trans ?_ (Below.mono (by assumption) (by first | omega | (simp <;> omega)))) | with_reducible apply Below.drew | with_reducible apply below_drewN | (with_reducible refine Below.alloc ?_ (by first | omega | (simp <;> omega)) _) | (with_reducible refine Below.setCell ?_ (by first | omega | (simp <;> omega)) _)))⟩
end Go.Proofs.YtldmgjeecomddaaGreatDoor

/-
  Chapter 7: TentOf of both.
-/
import Derived.Test.YtldmgjeecomddaaLw
namespace Go.Proofs.Ytldmgjeecomddaa
open Go.RowKit Rm

/-- The points of a tent. -/
def tnT (a b : Int) : List Pt := [((0, 1), (0, 1)), ((1, 2), (a, b)), ((1, 1), (0, 1))]
def tnZ (a b : Int) : Bool := coB (a, b) && decide (a ≠ 0)
def tnL (a b : Int) : List Pt := match tnZ a b with | true => tnT a b | false => []
theorem tn_len (a b : Int) : (tnL a b).length ≤ 1048576 := by unfold tnL; split <;> simp [tnT]
theorem tn_map (a b : Int) : mapB (tnT a b) = coB (a, b) := by
  cases h : coB (a, b) with
  | false => exact mapB_at (i := 1) (by simp [tnT]) (okAt_y (p := ((1, 2), (a, b))) rfl h)
  | true =>
    rw [mapB_all (by simp [tnT])]
    · rfl
    · intro i hi
      have hi : i = 0 ∨ i = 1 ∨ i = 2 := by simp [tnT] at hi; omega
      have h01 : coB (0, 1) = true := by decide +kernel
      have h12 : coB (1, 2) = true := by decide +kernel
      have h11 : coB (1, 1) = true := by decide +kernel
      rcases hi with rfl | rfl | rfl
      · exact okAt_zero (p := ((0, 1), (0, 1))) rfl h01 h01
      · rw [okAt_succ (p := ((0, 1), (0, 1))) (q := ((1, 2), (a, b))) rfl rfl h12 h]
        rfl
      · rw [okAt_succ (p := ((1, 2), (a, b))) (q := ((1, 1), (0, 1))) rfl rfl h11 h01]
        rfl
theorem tn_own (W : World) (B : Nat) (hB : B ≤ W.heap.size) (X : Nat) (hX : X = W.heap.size) (a b : Int) : (W.alloc (.cells #[.int .i64 0, .int .i64 1, .int .i64 0, .int .i64 1, .int .i64 1, .int .i64 2, .int .i64 a, .int .i64 b, .int .i64 1, .int .i64 1, .int .i64 0, .int .i64 1] 49)).ownsRow B 49 4 (.slice (some ⟨X, 0, none⟩) 3 3) 3 (ptcs (tnT a b)) := by
  subst hX
  exact World.ownsRow_lit W #[.int .i64 0, .int .i64 1, .int .i64 0, .int .i64 1, .int .i64 1, .int .i64 2, .int .i64 a, .int .i64 b, .int .i64 1, .int .i64 1, .int .i64 0, .int .i64 1] 3 hB (by simp [maxLen]) (by simp)
theorem tn_no {a b : Int} (h : tnZ a b = false) : tnL a b = [] := by unfold tnL; rw [h]
theorem tn_yes {a b : Int} (h : tnZ a b = true) : tnL a b = tnT a b := by unfold tnL; rw [h]

set_option maxRecDepth 100000 in
set_option maxHeartbeats 3200000 in
theorem knTent_any (a b : Int) (w : World) : Calls Try.prog 37 #[.agg #[.int .i64 (a), .int .i64 (b)]] w fun e w' => ∃ g : Nat, e = .returned (.slice (some ⟨g, 0, none⟩) 3 3) ∧ w'.ownsRow w.heap.size 49 4 (.slice (some ⟨g, 0, none⟩) 3 3) 3 (ptcs (tnT a b)) ∧ Below w.heap.size w w' := by
  go_enter Try.func37, Try.ntmps37
  go_upto_region 1 with fail
  go_cut [2] (fun s2 wx => ∃ g : Nat, s2 = .slice (some ⟨g, 0, none⟩) 3 3 ∧ wx.ownsRow w.heap.size 49 4 (.slice (some ⟨g, 0, none⟩) 3 3) 3 (ptcs (tnT a b)) ∧ Below w.heap.size w wx)
  case first =>
    go_region_held3 (fun w' => w'.cell? ⟨w.heap.size, 0, none⟩ = some (.int .i64 a) ∧ w'.cell? ⟨w.heap.size, 1, none⟩ = some (.int .i64 b)) (simp [go_sem, *])
      (first
        | (go_at_call 55; have _t := hbw1; clear _t; have _t := hbw2; clear _t; have _t := hbw3; clear _t; (with_reducible refine (raInt_any _ _).mono ?_); rintro e w4 ⟨rfl, hbw4⟩; obtain ⟨hcw4, hfw4⟩ := bcell hbw4; have hzw4 := hbw4.size; (try simp at hzw4); (try ((have kw4w.heap.sizeX0 := (bnew hbw4) (w.heap.size) ?pf); (case pf => (first | omega | (simp; done) | (simp; omega))); obtain ⟨kcw4w.heap.sizeX0, kfw4w.heap.sizeX0, klw4w.heap.sizeX0⟩ := kw4w.heap.sizeX0)))
        | (go_at_call 55; have _t := hbw1; clear _t; have _t := hbw2; clear _t; (with_reducible refine (raInt_any _ _).mono ?_); rintro e w3 ⟨rfl, hbw3⟩; obtain ⟨hcw3, hfw3⟩ := bcell hbw3; have hzw3 := hbw3.size; (try simp at hzw3); (try ((have kw3w.heap.sizeX0 := (bnew hbw3) (w.heap.size) ?pf); (case pf => (first | omega | (simp; done) | (simp; omega))); obtain ⟨kcw3w.heap.sizeX0, kfw3w.heap.sizeX0, klw3w.heap.sizeX0⟩ := kw3w.heap.sizeX0)))
        | (go_at_call 55; have _t := hbw1; clear _t; (with_reducible refine (raInt_any _ _).mono ?_); rintro e w2 ⟨rfl, hbw2⟩; obtain ⟨hcw2, hfw2⟩ := bcell hbw2; have hzw2 := hbw2.size; (try simp at hzw2); (try ((have kw2w.heap.sizeX0 := (bnew hbw2) (w.heap.size) ?pf); (case pf => (first | omega | (simp; done) | (simp; omega))); obtain ⟨kcw2w.heap.sizeX0, kfw2w.heap.sizeX0, klw2w.heap.sizeX0⟩ := kw2w.heap.sizeX0)))
        | (go_at_call 55; (with_reducible refine (raInt_any _ _).mono ?_); rintro e w1 ⟨rfl, hbw1⟩; obtain ⟨hcw1, hfw1⟩ := bcell hbw1; have hzw1 := hbw1.size; (try simp at hzw1); (try ((have kw1w.heap.sizeX0 := (bnew hbw1) (w.heap.size) ?pf); (case pf => (first | omega | (simp; done) | (simp; omega))); obtain ⟨kcw1w.heap.sizeX0, kfw1w.heap.sizeX0, klw1w.heap.sizeX0⟩ := kw1w.heap.sizeX0))))
    all_goals
      go_wp2_with fail
      have hw : Below w.heap.size w w4 := (by repeat (first | with_reducible exact Below.refl _ _ | with_reducible assumption | (with_reducible refine Below.trans ?_ (Below.mono (by assumption) (by first | omega | (simp <;> omega)))) | with_reducible apply Below.drew | with_reducible apply below_drewN | (with_reducible refine Below.alloc ?_ (by first | omega | (simp <;> omega)) _) | (with_reducible refine Below.setCell ?_ (by first | omega | (simp <;> omega)) _)))
      go_meet
      exact ⟨_, rfl, tn_own _ _ hw.size _ rfl _ _, (by repeat (first | with_reducible exact Below.refl _ _ | with_reducible assumption | (with_reducible refine Below.trans ?_ (Below.mono (by assumption) (by first | omega | (simp <;> omega)))) | with_reducible apply Below.drew | with_reducible apply below_drewN | (with_reducible refine Below.alloc ?_ (by first | omega | (simp <;> omega)) _) | (with_reducible refine Below.setCell ?_ (by first | omega | (simp <;> omega)) _)))⟩
  case rest =>
    obtain ⟨g, rfl, ho, hb⟩ := hcut
    have HO := hide ho; clear ho
    go_wp2_with fail
    go_ret
    exact ⟨g, rfl, unhide HO, hb⟩

set_option maxRecDepth 100000 in
set_option maxHeartbeats 1600000 in
theorem sTentOf_any (a b : Int) (w : World) : Calls Try.prog 13 #[.agg #[.int .i64 (a), .int .i64 (b)]] w fun e w' => GivesP w.heap.size (tnL a b) (tnZ a b) e w' ∧ Below w.heap.size w w' := by
  have hco := fun W => raUnit_any_co a b W
  have hkn := fun W => knTent_any a b W
  have HCO := hide hco; have HKN := hide hkn
  clear hco hkn
  cases h : coB (a, b) with
  | false =>
    have hz : tnZ a b = false := by unfold tnZ; rw [h]; rfl
    rw [tn_no hz, hz]
    rw [h] at HCO
    clear h hz
    go_enter Try.func13, Try.ntmps13
    go_wp2_with (go_at_call 36; (with_reducible refine ((unhide HCO) _).mono ?_); rintro e w1 ⟨rfl, hbw1⟩; obtain ⟨hcw1, hfw1⟩ := bcell hbw1; have hzw1 := hbw1.size; (try simp at hzw1); (try ((have kw1w0 := (bnew hbw1) (w.heap.size) ?pf); (case pf => (first | omega | (simp; done) | (simp; omega))); obtain ⟨kcw1w0, kfw1w0, klw1w0⟩ := kw1w0)))
    go_ret2
    exact ⟨⟨none, 0, rfl, World.ownsRow_nil _ _ _ _⟩, (by repeat (first | with_reducible exact Below.refl _ _ | with_reducible assumption | (with_reducible refine Below.trans ?_ (Below.mono (by assumption) (by first | omega | (simp <;> omega)))) | with_reducible apply Below.drew | with_reducible apply below_drewN | (with_reducible refine Below.alloc ?_ (by first | omega | (simp <;> omega)) _) | (with_reducible refine Below.setCell ?_ (by first | omega | (simp <;> omega)) _)))⟩
  | true =>
    rw [h] at HCO
    by_cases h0 : a = 0
    · have hz : tnZ a b = false := by unfold tnZ; rw [h, h0]; rfl
      rw [tn_no hz, hz]
      clear h hz
      subst h0
      go_enter Try.func13, Try.ntmps13
      go_wp2_with (go_at_call 36; (with_reducible refine ((unhide HCO) _).mono ?_); rintro e w1 ⟨rfl, hbw1⟩; obtain ⟨hcw1, hfw1⟩ := bcell hbw1; have hzw1 := hbw1.size; (try simp at hzw1); (try ((have kw1w0 := (bnew hbw1) (w.heap.size) ?pf); (case pf => (first | omega | (simp; done) | (simp; omega))); obtain ⟨kcw1w0, kfw1w0, klw1w0⟩ := kw1w0)))
      go_ret2
      exact ⟨⟨none, 0, rfl, World.ownsRow_nil _ _ _ _⟩, (by repeat (first | with_reducible exact Below.refl _ _ | with_reducible assumption | (with_reducible refine Below.trans ?_ (Below.mono (by assumption) (by first | omega | (simp <;> omega)))) | with_reducible apply Below.drew | with_reducible apply below_drewN | (with_reducible refine Below.alloc ?_ (by first | omega | (simp <;> omega)) _) | (with_reducible refine Below.setCell ?_ (by first | omega | (simp <;> omega)) _)))⟩
    · have hz : tnZ a b = true := by unfold tnZ; rw [h, decide_eq_true h0]; rfl
      rw [tn_yes hz, hz]
      clear h hz
      have s1 : (a == 0) = false := by simpa using h0
      have s2 : decide (a = 0) = false := decide_eq_false h0
      go_enter Try.func13, Try.ntmps13
      go_wp2_with (first
        | (go_at_call 36; (with_reducible refine ((unhide HCO) _).mono ?_); rintro e w1 ⟨rfl, hbw1⟩; obtain ⟨hcw1, hfw1⟩ := bcell hbw1; have hzw1 := hbw1.size; (try simp at hzw1); (try ((have kw1w0 := (bnew hbw1) (w.heap.size) ?pf); (case pf => (first | omega | (simp; done) | (simp; omega))); obtain ⟨kcw1w0, kfw1w0, klw1w0⟩ := kw1w0)))
        | (go_at_call 37; (with_reducible refine ((unhide HKN) _).mono ?_); rintro e w2 ⟨g, rfl, hown, hbw2⟩; have hs2 := hbw2.size; have HO := hide hown; clear hown))
      go_ret2
      exact ⟨⟨_, _, rfl, (unhide HO).mono (by simp at *; omega)⟩, (by repeat (first | with_reducible exact Below.refl _ _ | with_reducible assumption | (with_reducible refine Below.trans ?_ (Below.mono (by assumption) (by first | omega | (simp <;> omega)))) | with_reducible apply Below.drew | with_reducible apply below_drewN | (with_reducible refine Below.alloc ?_ (by first | omega | (simp <;> omega)) _) | (with_reducible refine Below.setCell ?_ (by first | omega | (simp <;> omega)) _)))⟩

set_option maxRecDepth 100000 in
set_option maxHeartbeats 1600000 in
theorem iTentOf_any (a b : Int) (w : World) : Calls Try.prog 15 #[.agg #[.int .i64 (a), .int .i64 (b)]] w fun e w' => GivesP w.heap.size (tnL a b) (tnZ a b) e w' ∧ Below w.heap.size w w' := by
  have hmp := fun (g c base : Nat) W hW => isMap_any (some ⟨g, 0, none⟩) 3 c base (tnT a b) W hW (by omega)
  rw [tn_map] at hmp
  have HM := hide hmp
  clear hmp
  have hcase : (coB (a, b) = false ∧ tnZ a b = false) ∨ (coB (a, b) = true ∧ a = 0 ∧ b = 1 ∧ tnZ a b = false) ∨ (coB (a, b) = true ∧ a ≠ 0 ∧ tnZ a b = true) := by
    cases h : coB (a, b) with
    | false => exact .inl ⟨rfl, by unfold tnZ; rw [h]; rfl⟩
    | true =>
      by_cases h0 : a = 0
      · subst h0
        exact .inr (.inl ⟨rfl, rfl, zero_den h, by unfold tnZ; rw [h]; rfl⟩)
      · exact .inr (.inr ⟨rfl, h0, by unfold tnZ; rw [h, decide_eq_true h0]; rfl⟩)
  rcases hcase with ⟨h, hz⟩ | ⟨h, rfl, rfl, hz⟩ | ⟨h, h0, hz⟩
  all_goals
    rw [h] at HM
    rw [hz]
    have HZ := Lib.hid hz
    clear h hz
    try (have s1 : (a == 0) = false := (by simpa using h0))
    try (have s2 : decide (a = 0) = false := decide_eq_false h0)
    go_enter Try.func15, Try.ntmps15
    go_wp2_with (go_at_call 38; (with_reducible refine ((unhide HM) _ _ w.heap.size _ (tn_own _ _ ?q1 _ ?q2 _ _)).mono ?_); (case q1 => (first | (simp; done) | (simp <;> omega))); (case q2 => simp); rintro e w1 ⟨rfl, hbw1⟩; have hs1 := hbw1.size; (skip; (try ((have kw1w0 := (bnew hbw1) (w.heap.size) ?pf); (case pf => (first | omega | (simp; done) | (simp; omega))); obtain ⟨kcw1w0, kfw1w0, klw1w0⟩ := kw1w0)); (try ((have kw1w1 := (bnew hbw1) (w.heap.size + 1) ?pf); (case pf => (first | omega | (simp; done) | (simp; omega))); obtain ⟨kcw1w1, kfw1w1, klw1w1⟩ := kw1w1))))
    go_ret2
    first
      | (rw [tn_no HZ.out]; exact ⟨⟨none, 0, rfl, World.ownsRow_nil _ _ _ _⟩, (by repeat (first | with_reducible exact Below.refl _ _ | with_reducible assumption | (with_reducible refine Below.trans ?_ (Below.mono (by assumption) (by first | omega | (simp <;> omega)))) | with_reducible apply Below.drew | with_reducible apply below_drewN | (with_reducible refine Below.alloc ?_ (by first | omega | (simp <;> omega)) _) | (with_reducible refine Below.setCell ?_ (by first | omega | (simp <;> omega)) _)))⟩)
      | (rw [tn_yes HZ.out]
         refine ⟨⟨_, _, rfl, own_below (tn_own _ _ ?r1 _ ?r2 _ _) hbw1⟩, (by repeat (first | with_reducible exact Below.refl _ _ | with_reducible assumption | (with_reducible refine Below.trans ?_ (Below.mono (by assumption) (by first | omega | (simp <;> omega)))) | with_reducible apply Below.drew | with_reducible apply below_drewN | (with_reducible refine Below.alloc ?_ (by first | omega | (simp <;> omega)) _) | (with_reducible refine Below.setCell ?_ (by first | omega | (simp <;> omega)) _)))⟩
         case r1 => (first | (simp; done) | (simp <;> omega))
         case r2 => simp)
end Go.Proofs.Ytldmgjeecomddaa

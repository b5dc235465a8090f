/-
  Chapter 4: OrbitDistance of both.
-/
import Derived.Test.YtmkejopkmdcfeaaOp
namespace Go.Proofs.Ytmkejopkmdcfeaa
open Go.RowKit Rm

theorem grown_on {a w w1 : World} {g : Nat} (h : a.grownBy w (some g)) (hb : Below w.heap.size w w1) : a.grownBy w1 (some g) :=
  ⟨hb.os.trans h.os, hb.tape.trans h.tape, hb.output.trans h.output, Nat.le_trans h.size hb.size, fun i hi hn => (hb.block i (Nat.lt_of_lt_of_le hi h.size)).trans (h.block i hi hn)⟩
/-- The distance of two fractions. -/
def apR (y z : Rat) : Option Rat := if y < z then keep (z - y) else keep (y - z)
def odK (l l' : List Rat) : Nat → Option Rat
  | 0 => some 0
  | k + 1 => (odK l l' k).bind fun c => (apR (l.getD k 0) (l'.getD k 0)).map fun d => if c < d then d else c
theorem apR_fits {y z d : Rat} (h : apR y z = some d) : fits d = true := by
  unfold apR at h
  split at h
  · obtain ⟨rfl, h2⟩ := keep_some h; exact h2
  · obtain ⟨rfl, h2⟩ := keep_some h; exact h2
theorem odK_none {l l' : List Rat} {k : Nat} {c : Rat} (h : odK l l' k = some c) (h2 : apR (l.getD k 0) (l'.getD k 0) = none) : odK l l' (k + 1) = none := by
  simp only [odK, h, h2]; rfl
theorem odK_step {l l' : List Rat} {k : Nat} {c d : Rat} (h : odK l l' k = some c) (h2 : apR (l.getD k 0) (l'.getD k 0) = some d) : odK l l' (k + 1) = some (if c < d then d else c) := by
  simp only [odK, h, h2]; rfl
theorem odK_up {l l' : List Rat} {k : Nat} (h : odK l l' k = none) : ∀ m, k ≤ m → odK l l' m = none
  | 0, hm => by rw [show (0 : Nat) = k by omega]; exact h
  | m + 1, hm => by
    rcases Nat.lt_or_eq_of_le hm with h1 | h1
    · have := odK_up h m (by omega)
      simp only [odK, this]; rfl
    · rw [← h1]; exact h
theorem odK_fits {l l' : List Rat} : ∀ {k : Nat} {c : Rat}, odK l l' k = some c → fits c = true
  | 0, c, h => by
    have h' : (0 : Rat) = c := Option.some.inj h
    rw [← h']; rfl
  | k + 1, c, h => by
    cases h1 : odK l l' k with
    | none => simp [odK, h1] at h
    | some c' =>
      cases h2 : apR (l.getD k 0) (l'.getD k 0) with
      | none => rw [odK_none h1 h2] at h; cases h
      | some d =>
        rw [odK_step h1 h2] at h
        have h' := Option.some.inj h
        rw [← h']
        split
        · exact apR_fits h2
        · exact odK_fits h1
def dsO (ps : List Pt) (a b p q m : Int) : Option Rat := (orbO ps a b m).bind fun l => (orbO ps p q m).bind fun l' => odK l l' l.length
theorem dsO_no {ps : List Pt} {a b p q m : Int} (h : orbO ps a b m = none ∨ orbO ps p q m = none) : dsO ps a b p q m = none := by
  unfold dsO
  rcases h with h | h
  · rw [h]; rfl
  · rw [h]; cases orbO ps a b m <;> rfl
theorem dsO_some {ps : List Pt} {a b p q m : Int} {l l' : List Rat} (h : orbO ps a b m = some l) (h2 : orbO ps p q m = some l') : dsO ps a b p q m = odK l l' l.length := by
  unfold dsO
  rw [h, h2]
  rfl
/-- What is known of the fractions of a whole orbit. -/
theorem orb_list {ps : List Pt} {a b : Int} {k : Nat} {l : List Rat} (h : orbO ps a b k = some l) : k ≤ 60 ∧ l.length = k + 1 ∧ ∀ i, i < k + 1 → Un (l.getD i 0) := by
  rcases orb_cases ps a b k with ⟨_, _, h3⟩ | ⟨qs, x, k', rfl, hg, rfl, rfl, hx, hkk, hk, hr, _, ⟨_, _, ho⟩ | ⟨hO, ho⟩⟩
  · rw [h3] at h; cases h
  · rw [ho] at h; cases h
  · obtain rfl : k = k' := by omega
    rw [ho] at h
    obtain rfl := Option.some.inj h
    exact ⟨hk, hO.len, hO.all⟩
theorem RCells.kept {w w' : World} {gs j M : Nat} {l : List Rat} (h : RCells w gs j l) (hg : w.grownBy w' (some M)) (hne : gs ≠ M) : RCells w' gs j l :=
  ⟨Nat.lt_of_lt_of_le h.lt hg.size, fun i hi => (World.cell?_of_block (a := ⟨gs, i * 2, none⟩) (hg.block gs h.lt (fun e => hne (Option.some.inj e)))).trans (h.at0 i hi),
    fun i hi => (World.cell?_of_block (a := ⟨gs, i * 2 + 1, none⟩) (hg.block gs h.lt (fun e => hne (Option.some.inj e)))).trans (h.at1 i hi)⟩

set_option maxRecDepth 100000 in
set_option maxHeartbeats 800000 in
theorem distanceOf_q (y z : Rat) (hy : fits y = true) (hz : fits z = true) (w : World) : Calls Try.prog 73 #[.agg #[.int .i64 (y.num), .int .i64 (y.den)], .agg #[.int .i64 (z.num), .int .i64 (z.den)]] w fun e w' => e = .returned (.tuple #[.agg #[.int .i64 (oN (apR y z)), .int .i64 (oD (apR y z))], .bool (apR y z).isSome]) ∧ Below w.heap.size w w' := by
  have hor := fun W => orderOf_q y z hy hz W
  have hs1 := fun W => iSubtractRats_o (some y) (some z) (isR_some hy) (isR_some hz) W
  have hs2 := fun W => iSubtractRats_o (some z) (some y) (isR_some hz) (isR_some hy) W
  simp only [oN_some, oD_some] at hs1 hs2
  by_cases hc : y < z
  · have e : apR y z = osub (some z) (some y) := by unfold apR; rw [if_pos hc]; rfl
    have hcd : decide (cq y z < 0) = true := decide_eq_true (cq_lt.2 hc)
    rw [e]
    generalize osub (some z) (some y) = res at *
    generalize cq y z = cz at *
    have HO := hide hor; have HS := hide hs2
    clear hor hs1 hs2 hc e
    generalize y.num = yn at *
    generalize (y.den : Int) = yd at *
    generalize z.num = zn at *
    generalize (z.den : Int) = zd at *
    go_enter Try.func73, Try.ntmps73
    go_wp2_with (first
      | ((go_at_call 70; (with_reducible refine ((unhide HO) _).mono ?_); rintro e w1 ⟨rfl, hbw1⟩; obtain ⟨hcw1, hfw1⟩ := bcell hbw1; have hzw1 := hbw1.size; (try simp at hzw1); (try ((have kw1w0 := (bnew hbw1) (w.heap.size) ?pf); (case pf => (first | omega | (simp; done) | (simp; omega))); obtain ⟨kcw1w0, kfw1w0, klw1w0⟩ := kw1w0)); (try ((have kw1w1 := (bnew hbw1) (w.heap.size + 1) ?pf); (case pf => (first | omega | (simp; done) | (simp; omega))); obtain ⟨kcw1w1, kfw1w1, klw1w1⟩ := kw1w1)); (try ((have kw1w2 := (bnew hbw1) (w.heap.size + 1 + 1) ?pf); (case pf => (first | omega | (simp; done) | (simp; omega))); obtain ⟨kcw1w2, kfw1w2, klw1w2⟩ := kw1w2))); have a0 : w1.cell? ⟨w.heap.size, 0, none⟩ = some (.int .i64 yn) := (by rw [kcw1w0]; simp [go_sem]); have a1 : w1.cell? ⟨w.heap.size, 1, none⟩ = some (.int .i64 yd) := (by rw [kcw1w0]; simp [go_sem]); have b0 : w1.cell? ⟨w.heap.size + 1, 0, none⟩ = some (.int .i64 zn) := (by rw [kcw1w1]; simp [go_sem]); have b1 : w1.cell? ⟨w.heap.size + 1, 1, none⟩ = some (.int .i64 zd) := (by rw [kcw1w1]; simp [go_sem]); have r0 : w1.cell? ⟨w.heap.size + 1 + 1, 0, none⟩ = some (.int .i64 0) := (by rw [kcw1w2]; simp [go_sem]); have r1 : w1.cell? ⟨w.heap.size + 1 + 1, 1, none⟩ = some (.int .i64 0) := (by rw [kcw1w2]; simp [go_sem]); have fa : ∀ o, w1.frozen? ⟨w.heap.size, o, none⟩ = false := (fun o => by rw [kfw1w0]; simp [go_sem]); have fb : ∀ o, w1.frozen? ⟨w.heap.size + 1, o, none⟩ = false := (fun o => by rw [kfw1w1]; simp [go_sem]); have fr : ∀ o, w1.frozen? ⟨w.heap.size + 1 + 1, o, none⟩ = false := (fun o => by rw [kfw1w2]; simp [go_sem]); clear kcw1w0 kcw1w1 kcw1w2 kfw1w0 kfw1w1 kfw1w2 hcw1 hfw1)
      | (go_at_call 93; (with_reducible refine ((unhide HS) _).mono ?_); rintro e w2 ⟨rfl, hbw2⟩; obtain ⟨hcw2, hfw2⟩ := bcell hbw2; have hzw2 := hbw2.size; (try simp at hzw2); (try ((have kw2w0 := (bnew hbw2) (w.heap.size) ?pf); (case pf => (first | omega | (simp; done) | (simp; omega))); obtain ⟨kcw2w0, kfw2w0, klw2w0⟩ := kw2w0)); (try ((have kw2w1 := (bnew hbw2) (w.heap.size + 1) ?pf); (case pf => (first | omega | (simp; done) | (simp; omega))); obtain ⟨kcw2w1, kfw2w1, klw2w1⟩ := kw2w1)); (try ((have kw2w2 := (bnew hbw2) (w.heap.size + 1 + 1) ?pf); (case pf => (first | omega | (simp; done) | (simp; omega))); obtain ⟨kcw2w2, kfw2w2, klw2w2⟩ := kw2w2))))
    exact bodyPost_ret (v := .tuple #[.agg #[.int .i64 (oN res), .int .i64 (oD res)], .bool res.isSome]) (by simp [results, Try.results73, go_sem, *]) rfl ⟨rfl, (by repeat (first | with_reducible exact Below.refl _ _ | with_reducible assumption | (with_reducible refine Below.trans ?_ (Below.mono (by assumption) (by first | omega | (simp <;> omega)))) | with_reducible apply Below.drew | with_reducible apply below_drewN | (with_reducible refine Below.alloc ?_ (by first | omega | (simp <;> omega)) _) | (with_reducible refine Below.setCell ?_ (by first | omega | (simp <;> omega)) _)))⟩
  · have e : apR y z = osub (some y) (some z) := by unfold apR; rw [if_neg hc]; rfl
    have hcd : decide (cq y z < 0) = false := decide_eq_false (fun h => hc (cq_lt.1 h))
    rw [e]
    generalize osub (some y) (some z) = res at *
    generalize cq y z = cz at *
    have HO := hide hor; have HS := hide hs1
    clear hor hs1 hs2 hc e
    generalize y.num = yn at *
    generalize (y.den : Int) = yd at *
    generalize z.num = zn at *
    generalize (z.den : Int) = zd at *
    go_enter Try.func73, Try.ntmps73
    go_wp2_with (first | (go_at_call 70; (with_reducible refine ((unhide HO) _).mono ?_); rintro e w1 ⟨rfl, hbw1⟩; obtain ⟨hcw1, hfw1⟩ := bcell hbw1; have hzw1 := hbw1.size; (try simp at hzw1); (try ((have kw1w0 := (bnew hbw1) (w.heap.size) ?pf); (case pf => (first | omega | (simp; done) | (simp; omega))); obtain ⟨kcw1w0, kfw1w0, klw1w0⟩ := kw1w0)); (try ((have kw1w1 := (bnew hbw1) (w.heap.size + 1) ?pf); (case pf => (first | omega | (simp; done) | (simp; omega))); obtain ⟨kcw1w1, kfw1w1, klw1w1⟩ := kw1w1)); (try ((have kw1w2 := (bnew hbw1) (w.heap.size + 1 + 1) ?pf); (case pf => (first | omega | (simp; done) | (simp; omega))); obtain ⟨kcw1w2, kfw1w2, klw1w2⟩ := kw1w2))) | (go_at_call 93; (with_reducible refine ((unhide HS) _).mono ?_); rintro e w2 ⟨rfl, hbw2⟩; obtain ⟨hcw2, hfw2⟩ := bcell hbw2; have hzw2 := hbw2.size; (try simp at hzw2); (try ((have kw2w0 := (bnew hbw2) (w.heap.size) ?pf); (case pf => (first | omega | (simp; done) | (simp; omega))); obtain ⟨kcw2w0, kfw2w0, klw2w0⟩ := kw2w0)); (try ((have kw2w1 := (bnew hbw2) (w.heap.size + 1) ?pf); (case pf => (first | omega | (simp; done) | (simp; omega))); obtain ⟨kcw2w1, kfw2w1, klw2w1⟩ := kw2w1)); (try ((have kw2w2 := (bnew hbw2) (w.heap.size + 1 + 1) ?pf); (case pf => (first | omega | (simp; done) | (simp; omega))); obtain ⟨kcw2w2, kfw2w2, klw2w2⟩ := kw2w2))))
    exact bodyPost_ret (v := .tuple #[.agg #[.int .i64 (oN res), .int .i64 (oD res)], .bool res.isSome]) (by simp [results, Try.results73, go_sem, *]) rfl ⟨rfl, (by repeat (first | with_reducible exact Below.refl _ _ | with_reducible assumption | (with_reducible refine Below.trans ?_ (Below.mono (by assumption) (by first | omega | (simp <;> omega)))) | with_reducible apply Below.drew | with_reducible apply below_drewN | (with_reducible refine Below.alloc ?_ (by first | omega | (simp <;> omega)) _) | (with_reducible refine Below.setCell ?_ (by first | omega | (simp <;> omega)) _)))⟩
set_option maxRecDepth 100000 in
set_option maxHeartbeats 800000 in
theorem orApart_q (y z : Rat) (hy : fits y = true) (hz : fits z = true) (w : World) : Calls Try.prog 72 #[.agg #[.int .i64 (y.num), .int .i64 (y.den)], .agg #[.int .i64 (z.num), .int .i64 (z.den)]] w fun e w' => e = .returned (.tuple #[.agg #[.int .i64 (oN (apR y z)), .int .i64 (oD (apR y z))], .bool (apR y z).isSome]) ∧ Below w.heap.size w w' := by
  have hor := fun W => raCmp_q y z hy hz W
  have hs1 := fun W => raSub_o (some y) (some z) (isR_some hy) (isR_some hz) W
  have hs2 := fun W => raSub_o (some z) (some y) (isR_some hz) (isR_some hy) W
  simp only [oN_some, oD_some] at hs1 hs2
  by_cases hc : y < z
  · have e : apR y z = osub (some z) (some y) := by unfold apR; rw [if_pos hc]; rfl
    have hcd : decide (cq y z < 0) = true := decide_eq_true (cq_lt.2 hc)
    rw [e]
    generalize osub (some z) (some y) = res at *
    generalize cq y z = cz at *
    have HO := hide hor; have HS := hide hs2
    clear hor hs1 hs2 hc e
    generalize y.num = yn at *
    generalize (y.den : Int) = yd at *
    generalize z.num = zn at *
    generalize (z.den : Int) = zd at *
    go_enter Try.func72, Try.ntmps72
    go_wp2_with (first | (go_at_call 69; (with_reducible refine ((unhide HO) _).mono ?_); rintro e w1 ⟨rfl, hbw1⟩; obtain ⟨hcw1, hfw1⟩ := bcell hbw1; have hzw1 := hbw1.size; (try simp at hzw1); (try ((have kw1w0 := (bnew hbw1) (w.heap.size) ?pf); (case pf => (first | omega | (simp; done) | (simp; omega))); obtain ⟨kcw1w0, kfw1w0, klw1w0⟩ := kw1w0)); (try ((have kw1w1 := (bnew hbw1) (w.heap.size + 1) ?pf); (case pf => (first | omega | (simp; done) | (simp; omega))); obtain ⟨kcw1w1, kfw1w1, klw1w1⟩ := kw1w1)); (try ((have kw1w2 := (bnew hbw1) (w.heap.size + 1 + 1) ?pf); (case pf => (first | omega | (simp; done) | (simp; omega))); obtain ⟨kcw1w2, kfw1w2, klw1w2⟩ := kw1w2))) | (go_at_call 100; (with_reducible refine ((unhide HS) _).mono ?_); rintro e w2 ⟨rfl, hbw2⟩; obtain ⟨hcw2, hfw2⟩ := bcell hbw2; have hzw2 := hbw2.size; (try simp at hzw2); (try ((have kw2w0 := (bnew hbw2) (w.heap.size) ?pf); (case pf => (first | omega | (simp; done) | (simp; omega))); obtain ⟨kcw2w0, kfw2w0, klw2w0⟩ := kw2w0)); (try ((have kw2w1 := (bnew hbw2) (w.heap.size + 1) ?pf); (case pf => (first | omega | (simp; done) | (simp; omega))); obtain ⟨kcw2w1, kfw2w1, klw2w1⟩ := kw2w1)); (try ((have kw2w2 := (bnew hbw2) (w.heap.size + 1 + 1) ?pf); (case pf => (first | omega | (simp; done) | (simp; omega))); obtain ⟨kcw2w2, kfw2w2, klw2w2⟩ := kw2w2))))
    exact bodyPost_ret (v := .tuple #[.agg #[.int .i64 (oN res), .int .i64 (oD res)], .bool res.isSome]) (by simp [results, Try.results72, go_sem, *]) rfl ⟨rfl, (by repeat (first | with_reducible exact Below.refl _ _ | with_reducible assumption | (with_reducible refine Below.trans ?_ (Below.mono (by assumption) (by first | omega | (simp <;> omega)))) | with_reducible apply Below.drew | with_reducible apply below_drewN | (with_reducible refine Below.alloc ?_ (by first | omega | (simp <;> omega)) _) | (with_reducible refine Below.setCell ?_ (by first | omega | (simp <;> omega)) _)))⟩
  · have e : apR y z = osub (some y) (some z) := by unfold apR; rw [if_neg hc]; rfl
    have hcd : decide (cq y z < 0) = false := decide_eq_false (fun h => hc (cq_lt.1 h))
    rw [e]
    generalize osub (some y) (some z) = res at *
    generalize cq y z = cz at *
    have HO := hide hor; have HS := hide hs1
    clear hor hs1 hs2 hc e
    generalize y.num = yn at *
    generalize (y.den : Int) = yd at *
    generalize z.num = zn at *
    generalize (z.den : Int) = zd at *
    go_enter Try.func72, Try.ntmps72
    go_wp2_with (first | (go_at_call 69; (with_reducible refine ((unhide HO) _).mono ?_); rintro e w1 ⟨rfl, hbw1⟩; obtain ⟨hcw1, hfw1⟩ := bcell hbw1; have hzw1 := hbw1.size; (try simp at hzw1); (try ((have kw1w0 := (bnew hbw1) (w.heap.size) ?pf); (case pf => (first | omega | (simp; done) | (simp; omega))); obtain ⟨kcw1w0, kfw1w0, klw1w0⟩ := kw1w0)); (try ((have kw1w1 := (bnew hbw1) (w.heap.size + 1) ?pf); (case pf => (first | omega | (simp; done) | (simp; omega))); obtain ⟨kcw1w1, kfw1w1, klw1w1⟩ := kw1w1)); (try ((have kw1w2 := (bnew hbw1) (w.heap.size + 1 + 1) ?pf); (case pf => (first | omega | (simp; done) | (simp; omega))); obtain ⟨kcw1w2, kfw1w2, klw1w2⟩ := kw1w2))) | (go_at_call 100; (with_reducible refine ((unhide HS) _).mono ?_); rintro e w2 ⟨rfl, hbw2⟩; obtain ⟨hcw2, hfw2⟩ := bcell hbw2; have hzw2 := hbw2.size; (try simp at hzw2); (try ((have kw2w0 := (bnew hbw2) (w.heap.size) ?pf); (case pf => (first | omega | (simp; done) | (simp; omega))); obtain ⟨kcw2w0, kfw2w0, klw2w0⟩ := kw2w0)); (try ((have kw2w1 := (bnew hbw2) (w.heap.size + 1) ?pf); (case pf => (first | omega | (simp; done) | (simp; omega))); obtain ⟨kcw2w1, kfw2w1, klw2w1⟩ := kw2w1)); (try ((have kw2w2 := (bnew hbw2) (w.heap.size + 1 + 1) ?pf); (case pf => (first | omega | (simp; done) | (simp; omega))); obtain ⟨kcw2w2, kfw2w2, klw2w2⟩ := kw2w2))))
    exact bodyPost_ret (v := .tuple #[.agg #[.int .i64 (oN res), .int .i64 (oD res)], .bool res.isSome]) (by simp [results, Try.results72, go_sem, *]) rfl ⟨rfl, (by repeat (first | with_reducible exact Below.refl _ _ | with_reducible assumption | (with_reducible refine Below.trans ?_ (Below.mono (by assumption) (by first | omega | (simp <;> omega)))) | with_reducible apply Below.drew | with_reducible apply below_drewN | (with_reducible refine Below.alloc ?_ (by first | omega | (simp <;> omega)) _) | (with_reducible refine Below.setCell ?_ (by first | omega | (simp <;> omega)) _)))⟩

set_option maxRecDepth 100000 in
set_option maxHeartbeats 3200000 in
theorem iOrbitDistance_no (A : Option Addr) (n c base : Nat) (ps : List Pt) (a b p q m : Int) (w : World) (ha : w.ownsRow base 65 4 (.slice A n c) n (ptcs ps)) (hn : n ≤ 1048576) (h : orbO ps a b m = none ∨ orbO ps p q m = none) :
    Calls Try.prog 37 #[.slice A n c, .agg #[.int .i64 (a), .int .i64 (b)], .agg #[.int .i64 (p), .int .i64 (q)], .int .i64 m] w fun e w' => e = .returned (.tuple #[.agg #[.int .i64 (0), .int .i64 (0)], .bool false]) ∧ Below w.heap.size w w' := by
  have key : ∀ (a b : Int), ∃ z, z = (orbO ps a b m).isSome ∧ ∀ W : World, W.ownsRow base 65 4 (.slice A n c) n (ptcs ps) → Calls Try.prog 25 #[.slice A n c, .agg #[.int .i64 (a), .int .i64 (b)], .int .i64 m] W fun e w' => ∃ (B : Option Addr) (L d : Nat), e = .returned (.tuple #[.slice B L d, .bool z]) ∧ Below W.heap.size W w' := by
    intro a b
    refine ⟨_, rfl, fun W hW => (iOrbitOf_any A n c base ps a b m W hW hn).mono ?_⟩
    rintro e w' ⟨⟨B, d, he, _⟩, hb⟩
    exact ⟨B, _, d, he, hb⟩
  obtain ⟨z1, hz1, h1⟩ := key a b
  obtain ⟨z2, hz2, h2⟩ := key p q
  have hz : z1 = false ∨ z2 = false := by
    rcases h with h | h
    · left; rw [hz1, h]; rfl
    · right; rw [hz2, h]; rfl
  have H1 := hide h1; have H2 := hide h2; have HA := hide ha
  clear h1 h2 key hz1 hz2 h ha
  cases z1 <;> cases z2
  case true.true => rcases hz with h | h <;> cases h
  all_goals
    clear hz
    go_enter Try.func37, Try.ntmps37
    go_wp2_with (go_at_call 25; first
      | (have _t := hbw1; clear _t; (with_reducible refine ((unhide H2) _ (own_below (unhide HA) ?pb)).mono ?_); (case pb => exact (by repeat (first | with_reducible exact Below.refl _ _ | with_reducible assumption | (with_reducible refine Below.trans ?_ (Below.mono (by assumption) (by first | omega | (simp <;> omega)))) | with_reducible apply Below.drew | with_reducible apply below_drewN | (with_reducible refine Below.alloc ?_ (by first | omega | (simp <;> omega)) _) | (with_reducible refine Below.setCell ?_ (by first | omega | (simp <;> omega)) _)))); rintro e w2 ⟨B2, L2, d2, rfl, hbw2⟩; have hs2 := hbw2.size; (skip; (try ((have kw2w0 := (bnew hbw2) (w.heap.size) ?pf); (case pf => (first | omega | (simp; done) | (simp; omega))); obtain ⟨kcw2w0, kfw2w0, klw2w0⟩ := kw2w0)); (try ((have kw2w1 := (bnew hbw2) (w.heap.size + 1) ?pf); (case pf => (first | omega | (simp; done) | (simp; omega))); obtain ⟨kcw2w1, kfw2w1, klw2w1⟩ := kw2w1)); (try ((have kw2w2 := (bnew hbw2) (w.heap.size + 1 + 1) ?pf); (case pf => (first | omega | (simp; done) | (simp; omega))); obtain ⟨kcw2w2, kfw2w2, klw2w2⟩ := kw2w2))))
      | ((with_reducible refine ((unhide H1) _ (own_below (unhide HA) ?pb)).mono ?_); (case pb => exact (by repeat (first | with_reducible exact Below.refl _ _ | with_reducible assumption | (with_reducible refine Below.trans ?_ (Below.mono (by assumption) (by first | omega | (simp <;> omega)))) | with_reducible apply Below.drew | with_reducible apply below_drewN | (with_reducible refine Below.alloc ?_ (by first | omega | (simp <;> omega)) _) | (with_reducible refine Below.setCell ?_ (by first | omega | (simp <;> omega)) _)))); rintro e w1 ⟨B1, L1, d1, rfl, hbw1⟩; have hs1 := hbw1.size; (skip; (try ((have kw1w0 := (bnew hbw1) (w.heap.size) ?pf); (case pf => (first | omega | (simp; done) | (simp; omega))); obtain ⟨kcw1w0, kfw1w0, klw1w0⟩ := kw1w0)); (try ((have kw1w1 := (bnew hbw1) (w.heap.size + 1) ?pf); (case pf => (first | omega | (simp; done) | (simp; omega))); obtain ⟨kcw1w1, kfw1w1, klw1w1⟩ := kw1w1)); (try ((have kw1w2 := (bnew hbw1) (w.heap.size + 1 + 1) ?pf); (case pf => (first | omega | (simp; done) | (simp; omega))); obtain ⟨kcw1w2, kfw1w2, klw1w2⟩ := kw1w2)))))
    exact bodyPost_ret (v := .tuple #[.agg #[.int .i64 (0), .int .i64 (0)], .bool false]) (by simp [results, Try.results37, go_sem, *]) rfl ⟨rfl, (by repeat (first | with_reducible exact Below.refl _ _ | with_reducible assumption | (with_reducible refine Below.trans ?_ (Below.mono (by assumption) (by first | omega | (simp <;> omega)))) | with_reducible apply Below.drew | with_reducible apply below_drewN | (with_reducible refine Below.alloc ?_ (by first | omega | (simp <;> omega)) _) | (with_reducible refine Below.setCell ?_ (by first | omega | (simp <;> omega)) _)))⟩

set_option maxRecDepth 100000 in
set_option maxHeartbeats 6400000 in
theorem iOrbitDistance_any (A : Option Addr) (n c base : Nat) (ps : List Pt) (a b p q m : Int) (w : World) (ha : w.ownsRow base 65 4 (.slice A n c) n (ptcs ps)) (hn : n ≤ 1048576) :
    Calls Try.prog 37 #[.slice A n c, .agg #[.int .i64 (a), .int .i64 (b)], .agg #[.int .i64 (p), .int .i64 (q)], .int .i64 m] w fun e w' => e = .returned (.tuple #[.agg #[.int .i64 (oN (dsO ps a b p q m)), .int .i64 (oD (dsO ps a b p q m))], .bool (dsO ps a b p q m).isSome]) ∧ Below w.heap.size w w' := by
  rcases i_cases (A := A) (n := n) (c := c) (base := base) (ps := ps) (a := a) (b := b) (m := m) hn with ⟨ho, _⟩ | ⟨qs, x, k, hps, hax, hbx, rfl, hk, hO, ho, hrun⟩
  · rw [dsO_no (.inl ho)]
    exact iOrbitDistance_no A n c base ps a b p q m w ha hn (.inl ho)
  rcases i_cases (A := A) (n := n) (c := c) (base := base) (ps := ps) (a := p) (b := q) (m := (k : Int)) hn with ⟨ho2, _⟩ | ⟨qs2, x2, k2, hqa, hqb, hqc, hkk, _, _, ho2, hrun2⟩
  · rw [dsO_no (.inr ho2)]
    exact iOrbitDistance_no A n c base ps a b p q k w ha hn (.inr ho2)
  · obtain rfl : k = k2 := by omega
    obtain ⟨_, hll, hua⟩ := orb_list ho
    obtain ⟨_, _, hub⟩ := orb_list ho2
    rw [dsO_some ho ho2, hll]
    clear ho ho2 hO hax hbx hll hqa hqb hqc
    generalize run qs k x = l1 at *
    generalize run qs2 k x2 = l2 at *
    have H1 := hide hrun; have H2 := hide hrun2; have HA := hide ha; have HU1 := hide hua; have HU2 := hide hub
    clear hrun hrun2 ha hua hub hps
    go_enter Try.func37, Try.ntmps37
    go_wp2_with (go_at_call 25; first
      | (have _t := hbw1; clear _t; (with_reducible refine ((unhide H2) _ (own_below (unhide HA) ?pb)).mono ?_); (case pb => exact (by repeat (first | with_reducible exact Below.refl _ _ | with_reducible assumption | (with_reducible refine Below.trans ?_ (Below.mono (by assumption) (by first | omega | (simp <;> omega)))) | with_reducible apply Below.drew | with_reducible apply below_drewN | (with_reducible refine Below.alloc ?_ (by first | omega | (simp <;> omega)) _) | (with_reducible refine Below.setCell ?_ (by first | omega | (simp <;> omega)) _)))); rintro e w2 ⟨gs2, d2, rfl, hown2, hbw2⟩; have hs2 := hbw2.size; (skip; (try ((have kw2w0 := (bnew hbw2) (w.heap.size) ?pf); (case pf => (first | omega | (simp; done) | (simp; omega))); obtain ⟨kcw2w0, kfw2w0, klw2w0⟩ := kw2w0)); (try ((have kw2w1 := (bnew hbw2) (w.heap.size + 1) ?pf); (case pf => (first | omega | (simp; done) | (simp; omega))); obtain ⟨kcw2w1, kfw2w1, klw2w1⟩ := kw2w1)); (try ((have kw2w2 := (bnew hbw2) (w.heap.size + 1 + 1) ?pf); (case pf => (first | omega | (simp; done) | (simp; omega))); obtain ⟨kcw2w2, kfw2w2, klw2w2⟩ := kw2w2))); have HOW2 := hide hown2; clear hown2)
      | ((with_reducible refine ((unhide H1) _ (own_below (unhide HA) ?pb)).mono ?_); (case pb => exact (by repeat (first | with_reducible exact Below.refl _ _ | with_reducible assumption | (with_reducible refine Below.trans ?_ (Below.mono (by assumption) (by first | omega | (simp <;> omega)))) | with_reducible apply Below.drew | with_reducible apply below_drewN | (with_reducible refine Below.alloc ?_ (by first | omega | (simp <;> omega)) _) | (with_reducible refine Below.setCell ?_ (by first | omega | (simp <;> omega)) _)))); rintro e w1 ⟨gs1, d1, rfl, hown1, hbw1⟩; have hs1 := hbw1.size; (skip; (try ((have kw1w0 := (bnew hbw1) (w.heap.size) ?pf); (case pf => (first | omega | (simp; done) | (simp; omega))); obtain ⟨kcw1w0, kfw1w0, klw1w0⟩ := kw1w0)); (try ((have kw1w1 := (bnew hbw1) (w.heap.size + 1) ?pf); (case pf => (first | omega | (simp; done) | (simp; omega))); obtain ⟨kcw1w1, kfw1w1, klw1w1⟩ := kw1w1)); (try ((have kw1w2 := (bnew hbw1) (w.heap.size + 1 + 1) ?pf); (case pf => (first | omega | (simp; done) | (simp; omega))); obtain ⟨kcw1w2, kfw1w2, klw1w2⟩ := kw1w2))); have HOW1' := hide hown1; clear hown1))
    have HOW1 := hide (own_below (unhide HOW1') hbw2)
    clear HOW1'
    have hsq : w.heap.size + 1 + 1 < w2.heap.size := klw2w2
    have r0 : w2.cell? ⟨w.heap.size + 1 + 1, 0, none⟩ = some (.int .i64 0) := by rw [kcw2w2, kcw1w2]; simp [go_sem]
    have r1 : w2.cell? ⟨w.heap.size + 1 + 1, 1, none⟩ = some (.int .i64 0) := by rw [kcw2w2, kcw1w2]; simp [go_sem]
    have rf : ∀ o, w2.frozen? ⟨w.heap.size + 1 + 1, o, none⟩ = false := fun o => by rw [kfw2w2, kfw1w2]; simp [go_sem]
    have hC1 := rcells_own (unhide HOW1)
    have hC2 := rcells_own (unhide HOW2)
    have hb0 : Below w.heap.size w (w2.alloc (.cells #[.int .i64 0, .int .i64 1] 26)) := (by repeat (first | with_reducible exact Below.refl _ _ | with_reducible assumption | (with_reducible refine Below.trans ?_ (Below.mono (by assumption) (by first | omega | (simp <;> omega)))) | with_reducible apply Below.drew | with_reducible apply below_drewN | (with_reducible refine Below.alloc ?_ (by first | omega | (simp <;> omega)) _) | (with_reducible refine Below.setCell ?_ (by first | omega | (simp <;> omega)) _)))
    have hbA : Below w2.heap.size w2 (w2.alloc (.cells #[.int .i64 0, .int .i64 1] 26)) := (by repeat (first | with_reducible exact Below.refl _ _ | with_reducible assumption | (with_reducible refine Below.trans ?_ (Below.mono (by assumption) (by first | omega | (simp <;> omega)))) | with_reducible apply Below.drew | with_reducible apply below_drewN | (with_reducible refine Below.alloc ?_ (by first | omega | (simp <;> omega)) _) | (with_reducible refine Below.setCell ?_ (by first | omega | (simp <;> omega)) _)))
    have m0 : (w2.alloc (.cells #[.int .i64 0, .int .i64 1] 26)).cell? ⟨w2.heap.size, 0, none⟩ = some (.int .i64 (0 : Rat).num) := by simp [go_sem]
    have m1 : (w2.alloc (.cells #[.int .i64 0, .int .i64 1] 26)).cell? ⟨w2.heap.size, 1, none⟩ = some (.int .i64 ((0 : Rat).den : Int)) := by simp [go_sem]
    have mf : ∀ o, (w2.alloc (.cells #[.int .i64 0, .int .i64 1] 26)).frozen? ⟨w2.heap.size, o, none⟩ = false := by intro o; simp [go_sem]
    have hMq : w2.heap.size < (w2.alloc (.cells #[.int .i64 0, .int .i64 1] 26)).heap.size := by simp
    have hg1M := hC1.lt
    have hg2M := hC2.lt
    have HC1 := hide (hC1.below hbA)
    have HC2 := hide (hC2.below hbA)
    replace r0 := (hbA.cell (p := ⟨w.heap.size + 1 + 1, 0, none⟩) hsq).trans r0
    replace r1 := (hbA.cell (p := ⟨w.heap.size + 1 + 1, 1, none⟩) hsq).trans r1
    replace rf := fun o => (hbA.frozen (p := ⟨w.heap.size + 1 + 1, o, none⟩) hsq).trans (rf o)
    have HBQ := hide hb0
    have hwW : w.heap.size ≤ w2.heap.size := by omega
    clear hb0 hbA hC1 hC2 hbw1 hbw2 kcw1w0 kcw1w1 kcw1w2 kfw1w0 kfw1w1 kfw1w2 klw1w0 klw1w1 klw1w2 kcw2w0 kcw2w1 kcw2w2 kfw2w0 kfw2w1 kfw2w2 klw2w0 klw2w1 klw2w2
    generalize w2.alloc (.cells #[.int .i64 0, .int .i64 1] 26) = wq at *
    generalize w2.heap.size = M at *
    have hRq : w.heap.size + 1 + 1 < wq.heap.size := by omega
    go_loopw [42] (fun i wr => ∃ (j : Nat) (cur : Rat), i = .int .i64 j ∧ j ≤ k + 1 ∧ Hid (odK l1 l2 j = some cur) ∧ wr.cell? ⟨M, 0, none⟩ = some (.int .i64 cur.num) ∧ wr.cell? ⟨M, 1, none⟩ = some (.int .i64 cur.den) ∧ (∀ o, wr.frozen? ⟨M, o, none⟩ = false) ∧ wq.grownBy wr (some M)) (fun i _ => k + 1 - (intOf i).toNat)
    case atStart => exact ⟨0, 0, rfl, by omega, hide rfl, m0, m1, mf, World.grownBy.refl _ _⟩
    case round =>
      obtain ⟨j, cur, rfl, hj, HP, c0, c1, cf, hgr⟩ := hrel
      have hsr := hgr.size
      have hMr : M < wr.heap.size := by omega
      have hRr : w.heap.size + 1 + 1 < wr.heap.size := by omega
      have q0 := (World.cell?_of_block (a := ⟨w.heap.size + 1 + 1, 0, none⟩) (hgr.block (w.heap.size + 1 + 1) hRq (fun e => by have := Option.some.inj e; omega))).trans r0
      have q1 := (World.cell?_of_block (a := ⟨w.heap.size + 1 + 1, 1, none⟩) (hgr.block (w.heap.size + 1 + 1) hRq (fun e => by have := Option.some.inj e; omega))).trans r1
      have qz := fun o => (World.frozen?_of_block (a := ⟨w.heap.size + 1 + 1, o, none⟩) (hgr.block (w.heap.size + 1 + 1) hRq (fun e => by have := Option.some.inj e; omega))).trans (rf o)
      have hb := (unhide HBQ).grown hgr (by omega) (fun i e => by have := Option.some.inj e; omega)
      by_cases hlt : j < k + 1
      · have hC1 := (unhide HC1).kept hgr (by omega)
        have hC2 := (unhide HC2).kept hgr (by omega)
        have y0 := hC1.at0 j hlt
        have y1 := hC1.at1 j hlt
        have z0 := hC2.at0 j hlt
        have z1 := hC2.at1 j hlt
        have hgs1 := hC1.lt
        have hgs2 := hC2.lt
        have hu1 := (unhide HU1) j hlt
        have hu2 := (unhide HU2) j hlt
        have hcurf := odK_fits (unhide HP)
        have hap := fun W => distanceOf_q (l1.getD j 0) (l2.getD j 0) hu1.fit hu2.fit W
        have HB := hide hb
        have HG := hide hgr
        clear hC1 hC2 hb hgr m0 m1 r0 r1 hu1 hu2
        rcases hd : apR (l1.getD j 0) (l2.getD j 0) with _ | d
        · have hno := odK_up (odK_none (unhide HP) hd) (k + 1) (by omega)
          have HNO := Lib.hid hno
          rw [hd] at hap
          simp only [oN_none, oD_none, Option.isSome_none] at hap
          have HAP := hide hap
          clear hap hd hno hcurf
          generalize (l1.getD j 0).num = a1 at *
          generalize ((l1.getD j 0).den : Int) = a2 at *
          generalize (l2.getD j 0).num = b1 at *
          generalize ((l2.getD j 0).den : Int) = b2 at *
          generalize cur.num = u1 at *
          generalize (cur.den : Int) = u2 at *
          go_upto_region 9 with fail
          go_cut [16, 17] (fun s16 s17 wx => s17 = .bool false ∧ (∃ D : Nat, s16 = .pointer (some ⟨D, 0, none⟩) ∧ Box2 wr wx D 0 0) ∧ Below wr.heap.size wr wx)
          case first =>
            go_region_held3 (fun w' => w'.cell? ⟨gs1, j * 2, none⟩ = some (.int .i64 a1) ∧ w'.cell? ⟨gs1, j * 2 + 1, none⟩ = some (.int .i64 a2) ∧ w'.cell? ⟨gs2, j * 2, none⟩ = some (.int .i64 b1) ∧ w'.cell? ⟨gs2, j * 2 + 1, none⟩ = some (.int .i64 b2)) (simp [go_sem, World.cell?_alloc_past, *])
              ((go_at_call 73; (with_reducible refine ((unhide HAP) _).mono ?_); rintro e w5 ⟨rfl, hbw5⟩; obtain ⟨hcw5, hfw5⟩ := bcell hbw5; have hzw5 := hbw5.size; (try simp at hzw5); (try ((have kw5gs1X0 := (bnew hbw5) (gs1) ?pf); (case pf => (first | omega | (simp; done) | (simp; omega))); obtain ⟨kcw5gs1X0, kfw5gs1X0, klw5gs1X0⟩ := kw5gs1X0)); (try ((have kw5gs2X0 := (bnew hbw5) (gs2) ?pf); (case pf => (first | omega | (simp; done) | (simp; omega))); obtain ⟨kcw5gs2X0, kfw5gs2X0, klw5gs2X0⟩ := kw5gs2X0)); (try ((have kw5wr0 := (bnew hbw5) (wr.heap.size) ?pf); (case pf => (first | omega | (simp; done) | (simp; omega))); obtain ⟨kcw5wr0, kfw5wr0, klw5wr0⟩ := kw5wr0))))
            all_goals
              go_wp2_with fail
              go_meet
              refine ⟨rfl, ⟨_, rfl, ⟨(by repeat (first | with_reducible exact Below.refl _ _ | with_reducible assumption | (with_reducible refine Below.trans ?_ (Below.mono (by assumption) (by first | omega | (simp <;> omega)))) | with_reducible apply Below.drew | with_reducible apply below_drewN | (with_reducible refine Below.alloc ?_ (by first | omega | (simp <;> omega)) _) | (with_reducible refine Below.setCell ?_ (by first | omega | (simp <;> omega)) _))), ?_, ?_, ?_, ?_, ?_, ?_⟩⟩, (by repeat (first | with_reducible exact Below.refl _ _ | with_reducible assumption | (with_reducible refine Below.trans ?_ (Below.mono (by assumption) (by first | omega | (simp <;> omega)))) | with_reducible apply Below.drew | with_reducible apply below_drewN | (with_reducible refine Below.alloc ?_ (by first | omega | (simp <;> omega)) _) | (with_reducible refine Below.setCell ?_ (by first | omega | (simp <;> omega)) _)))⟩
            all_goals first | (go_simp; done) | (simp [go_sem, *]; done) | omega | (simp; omega)
          case rest =>
            obtain ⟨rfl, ⟨D, rfl, hB2⟩, hbwc⟩ := hcut
            have hzc := hbwc.size
            have p0 := (hbwc.cell (p := ⟨w.heap.size + 1 + 1, 0, none⟩) hRr).trans q0
            have p1 := (hbwc.cell (p := ⟨w.heap.size + 1 + 1, 1, none⟩) hRr).trans q1
            have pz := fun o => (hbwc.frozen (p := ⟨w.heap.size + 1 + 1, o, none⟩) hRr).trans (qz o)
            have hRc : w.heap.size + 1 + 1 < wc.heap.size := by omega
            have hb := unhide HB
            have hbz := hb.size
            clear hB2 q0 q1 qz c0 c1 cf y0 y1 z0 z1
            go_wp2_with fail
            rw [HNO.out]
            exact bodyPost_ret (v := .tuple #[.agg #[.int .i64 (0), .int .i64 (0)], .bool false]) (by simp [results, Try.results37, go_sem, *]) rfl ⟨rfl, (by repeat (first | with_reducible exact Below.refl _ _ | with_reducible assumption | (with_reducible refine Below.trans ?_ (Below.mono (by assumption) (by first | omega | (simp <;> omega)))) | with_reducible apply Below.drew | with_reducible apply below_drewN | (with_reducible refine Below.alloc ?_ (by first | omega | (simp <;> omega)) _) | (with_reducible refine Below.setCell ?_ (by first | omega | (simp <;> omega)) _)))⟩
        · have hdf := apR_fits hd
          have hst := odK_step (unhide HP) hd
          have HST := Lib.hid hst
          rw [hd] at hap
          simp only [oN_some, oD_some, Option.isSome_some] at hap
          have HAP := hide hap
          have hord := fun W => orderOf_q d cur hdf hcurf W
          obtain ⟨cz, hcz⟩ : ∃ r, r = cq d cur := ⟨_, rfl⟩
          rw [← hcz] at hord
          have hlt2 : cur < d ↔ 0 < cz := by rw [hcz]; exact cq_gt.symm
          have HO := hide hord
          clear hap hd hst hcz hord
          obtain ⟨dn, hdn⟩ : ∃ r, r = d.num := ⟨_, rfl⟩
          obtain ⟨dd, hdd⟩ : ∃ r, r = (d.den : Int) := ⟨_, rfl⟩
          rw [← hdn, ← hdd] at HAP HO
          have HDV := Lib.hid (And.intro hdn hdd)
          clear hdn hdd
          obtain ⟨u1, hu1⟩ : ∃ r, r = cur.num := ⟨_, rfl⟩
          obtain ⟨u2, hu2⟩ : ∃ r, r = (cur.den : Int) := ⟨_, rfl⟩
          rw [← hu1, ← hu2] at HO
          rw [← hu1] at c0
          rw [← hu2] at c1
          have HCV := Lib.hid (And.intro hu1 hu2)
          clear hu1 hu2
          generalize (l1.getD j 0).num = a1 at *
          generalize ((l1.getD j 0).den : Int) = a2 at *
          generalize (l2.getD j 0).num = b1 at *
          generalize ((l2.getD j 0).den : Int) = b2 at *
          go_upto_region 9 with fail
          go_cut [16, 17] (fun s16 s17 wx => s17 = .bool true ∧ (∃ D : Nat, s16 = .pointer (some ⟨D, 0, none⟩) ∧ Box2 wr wx D dn dd) ∧ Below wr.heap.size wr wx)
          case first =>
            go_region_held3 (fun w' => w'.cell? ⟨gs1, j * 2, none⟩ = some (.int .i64 a1) ∧ w'.cell? ⟨gs1, j * 2 + 1, none⟩ = some (.int .i64 a2) ∧ w'.cell? ⟨gs2, j * 2, none⟩ = some (.int .i64 b1) ∧ w'.cell? ⟨gs2, j * 2 + 1, none⟩ = some (.int .i64 b2)) (simp [go_sem, World.cell?_alloc_past, *])
              ((go_at_call 73; (with_reducible refine ((unhide HAP) _).mono ?_); rintro e w5 ⟨rfl, hbw5⟩; obtain ⟨hcw5, hfw5⟩ := bcell hbw5; have hzw5 := hbw5.size; (try simp at hzw5); (try ((have kw5gs1X0 := (bnew hbw5) (gs1) ?pf); (case pf => (first | omega | (simp; done) | (simp; omega))); obtain ⟨kcw5gs1X0, kfw5gs1X0, klw5gs1X0⟩ := kw5gs1X0)); (try ((have kw5gs2X0 := (bnew hbw5) (gs2) ?pf); (case pf => (first | omega | (simp; done) | (simp; omega))); obtain ⟨kcw5gs2X0, kfw5gs2X0, klw5gs2X0⟩ := kw5gs2X0)); (try ((have kw5wr0 := (bnew hbw5) (wr.heap.size) ?pf); (case pf => (first | omega | (simp; done) | (simp; omega))); obtain ⟨kcw5wr0, kfw5wr0, klw5wr0⟩ := kw5wr0))))
            all_goals
              go_wp2_with fail
              go_meet
              refine ⟨rfl, ⟨_, rfl, ⟨(by repeat (first | with_reducible exact Below.refl _ _ | with_reducible assumption | (with_reducible refine Below.trans ?_ (Below.mono (by assumption) (by first | omega | (simp <;> omega)))) | with_reducible apply Below.drew | with_reducible apply below_drewN | (with_reducible refine Below.alloc ?_ (by first | omega | (simp <;> omega)) _) | (with_reducible refine Below.setCell ?_ (by first | omega | (simp <;> omega)) _))), ?_, ?_, ?_, ?_, ?_, ?_⟩⟩, (by repeat (first | with_reducible exact Below.refl _ _ | with_reducible assumption | (with_reducible refine Below.trans ?_ (Below.mono (by assumption) (by first | omega | (simp <;> omega)))) | with_reducible apply Below.drew | with_reducible apply below_drewN | (with_reducible refine Below.alloc ?_ (by first | omega | (simp <;> omega)) _) | (with_reducible refine Below.setCell ?_ (by first | omega | (simp <;> omega)) _)))⟩
            all_goals first | (go_simp; done) | (simp [go_sem, *]; done) | omega | (simp; omega)
          case rest =>
            obtain ⟨rfl, ⟨D, rfl, hB2⟩, hbwc⟩ := hcut
            have hzc := hbwc.size
            have d0 := hB2.c0
            have d1 := hB2.c1
            have hDl := hB2.hi
            have n0 := (hbwc.cell (p := ⟨M, 0, none⟩) hMr).trans c0
            have n1 := (hbwc.cell (p := ⟨M, 1, none⟩) hMr).trans c1
            have nf := fun o => (hbwc.frozen (p := ⟨M, o, none⟩) hMr).trans (cf o)
            have hMc : M < wc.heap.size := by omega
            have HGC := hide (grown_on (unhide HG) hbwc)
            clear hB2 q0 q1 qz c0 c1 cf y0 y1 z0 z1 hbwc
            by_cases hc : cur < d
            · have hcd : decide (0 < cz) = true := decide_eq_true (hlt2.1 hc)
              rw [if_pos hc] at HST
              clear hc hlt2 hcurf hdf
              go_upto_region 12 with fail
              go_wp2_with ((go_at_call 70; (with_reducible refine ((unhide HO) _).mono ?_); rintro e w6 ⟨rfl, hbw6⟩; obtain ⟨hcw6, hfw6⟩ := bcell hbw6; have hzw6 := hbw6.size; (try simp at hzw6); (try ((have kw6MX0 := (bnew hbw6) (M) ?pf); (case pf => (first | omega | (simp; done) | (simp; omega))); obtain ⟨kcw6MX0, kfw6MX0, klw6MX0⟩ := kw6MX0)); (try ((have kw6DX0 := (bnew hbw6) (D) ?pf); (case pf => (first | omega | (simp; done) | (simp; omega))); obtain ⟨kcw6DX0, kfw6DX0, klw6DX0⟩ := kw6DX0))))
              have HGD := hide (grown_set (grown_set (grown_on (unhide HGC) hbw6) 0 (.int .i64 dn)) 1 (.int .i64 dd))
              go_roundw
              case rel => exact ⟨j + 1, d, by go_num, by omega, hide HST.out, by rw [← HDV.out.1]; simp [go_sem, *], by rw [← HDV.out.2]; simp [go_sem, *], fun o => by simp [go_sem, *], unhide HGD⟩
              case measure => simp [intOf]; omega
            · have hcd : decide (0 < cz) = false := decide_eq_false (fun h => hc (hlt2.2 h))
              rw [if_neg hc] at HST
              clear hc hlt2 hcurf hdf
              go_upto_region 12 with fail
              go_wp2_with ((go_at_call 70; (with_reducible refine ((unhide HO) _).mono ?_); rintro e w6 ⟨rfl, hbw6⟩; obtain ⟨hcw6, hfw6⟩ := bcell hbw6; have hzw6 := hbw6.size; (try simp at hzw6); (try ((have kw6MX0 := (bnew hbw6) (M) ?pf); (case pf => (first | omega | (simp; done) | (simp; omega))); obtain ⟨kcw6MX0, kfw6MX0, klw6MX0⟩ := kw6MX0)); (try ((have kw6DX0 := (bnew hbw6) (D) ?pf); (case pf => (first | omega | (simp; done) | (simp; omega))); obtain ⟨kcw6DX0, kfw6DX0, klw6DX0⟩ := kw6DX0))))
              have HGD := hide (grown_on (unhide HGC) hbw6)
              go_roundw
              case rel => exact ⟨j + 1, cur, by go_num, by omega, hide HST.out, by rw [← HCV.out.1]; simp [go_sem, *], by rw [← HCV.out.2]; simp [go_sem, *], fun o => by simp [go_sem, *], unhide HGD⟩
              case measure => simp [intOf]; omega
      · obtain rfl : j = k + 1 := by omega
        have HB := hide hb
        have hbz := hb.size
        have HPR := Lib.hid (unhide HP)
        clear hb hgr cf m0 m1 r0 r1 rf HP
        generalize hcn : cur.num = u1 at *
        generalize hcd : (cur.den : Int) = u2 at *
        have HCN := Lib.hid (And.intro hcn hcd)
        clear hcn hcd
        go_wp2_with fail
        have hb := unhide HB
        rw [HPR.out]
        simp only [oN_some, oD_some, Option.isSome_some]
        rw [HCN.out.1, HCN.out.2]
        exact bodyPost_ret (v := .tuple #[.agg #[.int .i64 (u1), .int .i64 (u2)], .bool true]) (by simp [results, Try.results37, go_sem, *]) rfl ⟨rfl, (by repeat (first | with_reducible exact Below.refl _ _ | with_reducible assumption | (with_reducible refine Below.trans ?_ (Below.mono (by assumption) (by first | omega | (simp <;> omega)))) | with_reducible apply Below.drew | with_reducible apply below_drewN | (with_reducible refine Below.alloc ?_ (by first | omega | (simp <;> omega)) _) | (with_reducible refine Below.setCell ?_ (by first | omega | (simp <;> omega)) _)))⟩
end Go.Proofs.Ytmkejopkmdcfeaa

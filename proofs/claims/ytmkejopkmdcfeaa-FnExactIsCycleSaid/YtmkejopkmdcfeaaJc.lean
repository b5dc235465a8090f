/-
  Chapter 4: IsCycle of both.
-/
import Derived.Test.YtmkejopkmdcfeaaJf
namespace Go.Proofs.Ytmkejopkmdcfeaa
open Go.RowKit Rm

/-- Whether the first k fractions have the next ones as values and are no earlier ones; none where a value cannot be computed. -/
def icK (ps : List Pt) (xs : List Fr) (n : Nat) : Nat → Option Bool
  | 0 => some true
  | k + 1 => (icK ps xs n k).bind fun b => (valO ps (fAt xs k).1 (fAt xs k).2).map fun y => b && decide ((y.num, (y.den : Int)) = fAt xs ((k + 1) % n)) && decide (ixF xs k (fAt xs k) < 0)
theorem icK_none {ps : List Pt} {xs : List Fr} {n k : Nat} {b : Bool} (h : icK ps xs n k = some b) (h2 : valO ps (fAt xs k).1 (fAt xs k).2 = none) : icK ps xs n (k + 1) = none := by
  simp only [icK, h, h2]; rfl
theorem icK_step {ps : List Pt} {xs : List Fr} {n k : Nat} {b : Bool} {y : Rat} (h : icK ps xs n k = some b) (h2 : valO ps (fAt xs k).1 (fAt xs k).2 = some y) :
    icK ps xs n (k + 1) = some (b && decide ((y.num, (y.den : Int)) = fAt xs ((k + 1) % n)) && decide (ixF xs k (fAt xs k) < 0)) := by
  simp only [icK, h, h2]; rfl
theorem icK_up {ps : List Pt} {xs : List Fr} {n k : Nat} (h : icK ps xs n k = none) : ∀ m, k ≤ m → icK ps xs n m = none
  | 0, hm => by rw [show (0 : Nat) = k by omega]; exact h
  | m + 1, hm => by
    rcases Nat.lt_or_eq_of_le hm with h1 | h1
    · have := icK_up h m (by omega)
      simp only [icK, this]; rfl
    · rw [← h1]; exact h
def icO (ps : List Pt) (xs : List Fr) (n : Nat) : Option Bool := if mapB ps = true ∧ 1 ≤ n ∧ n ≤ 60 then icK ps xs n n else none
theorem icO_yes {ps : List Pt} {xs : List Fr} {n : Nat} (h : mapB ps = true) (h1 : 1 ≤ n) (h2 : n ≤ 60) : icO ps xs n = icK ps xs n n := if_pos ⟨h, h1, h2⟩
theorem icO_no {ps : List Pt} {xs : List Fr} {n : Nat} (h : mapB ps = false ∨ ¬ (1 ≤ n ∧ n ≤ 60)) : icO ps xs n = none := by
  refine if_neg fun k => ?_
  rcases h with h | h
  · rw [k.1] at h; cases h
  · exact h k.2

set_option maxRecDepth 100000 in
set_option maxHeartbeats 6400000 in
theorem iIsCycle_any (A B : Option Addr) (n c base n1 d1 base1 : Nat) (ps : List Pt) (xs : List Fr) (w : World) (ha : w.ownsRow base 65 4 (.slice A n c) n (ptcs ps)) (hx : w.ownsRow base1 26 2 (.slice B n1 d1) n1 (frcs xs)) (hn : n ≤ 1048576) (hn1 : n1 ≤ 1048576) :
    Calls Try.prog 52 #[.slice A n c, .slice B n1 d1] w fun e w' => e = .returned (.tuple #[.bool ((icO ps xs n1).getD false), .bool (icO ps xs n1).isSome]) ∧ Below w.heap.size w w' := by
  have hmap := fun W hW => isMap_any A n c base ps W hW hn
  have HA := hide ha
  rcases hm : mapB ps with _ | _
  · rw [hm] at hmap
    rw [icO_no (.inl hm)]
    simp only [Option.getD_none, Option.isSome_none]
    have HM := hide hmap
    clear hmap hm ha hx
    go_enter Try.func52, Try.ntmps52
    go_wp2_with (go_at_call 57; (with_reducible refine ((unhide HM) _ (own_below (unhide HA) ?pb)).mono ?_); (case pb => exact (by repeat (first | with_reducible exact Below.refl _ _ | with_reducible assumption | (with_reducible refine Below.trans ?_ (Below.mono (by assumption) (by first | omega | (simp <;> omega)))) | with_reducible apply Below.drew | with_reducible apply below_drewN | (with_reducible refine Below.alloc ?_ (by first | omega | (simp <;> omega)) _) | (with_reducible refine Below.setCell ?_ (by first | omega | (simp <;> omega)) _)))); rintro e w1 ⟨rfl, hbw1⟩)
    go_ret2
    exact ⟨rfl, (by repeat (first | with_reducible exact Below.refl _ _ | with_reducible assumption | (with_reducible refine Below.trans ?_ (Below.mono (by assumption) (by first | omega | (simp <;> omega)))) | with_reducible apply Below.drew | with_reducible apply below_drewN | (with_reducible refine Below.alloc ?_ (by first | omega | (simp <;> omega)) _) | (with_reducible refine Below.setCell ?_ (by first | omega | (simp <;> omega)) _)))⟩
  rw [hm] at hmap
  have HM := hide hmap
  clear hmap
  by_cases hl : 1 ≤ n1 ∧ n1 ≤ 60
  · obtain ⟨hl1, hl2⟩ := hl
    rw [icO_yes hm hl1 hl2]
    obtain ⟨gs, hB⟩ := own_form hx (by omega)
    subst hB
    have hcap := own_cap hx
    have HC0 := hide (fcells_own hx)
    clear ha hx hm
    go_enter Try.func52, Try.ntmps52
    go_wp2_with (go_at_call 57; (with_reducible refine ((unhide HM) _ (own_below (unhide HA) ?pb)).mono ?_); (case pb => exact (by repeat (first | with_reducible exact Below.refl _ _ | with_reducible assumption | (with_reducible refine Below.trans ?_ (Below.mono (by assumption) (by first | omega | (simp <;> omega)))) | with_reducible apply Below.drew | with_reducible apply below_drewN | (with_reducible refine Below.alloc ?_ (by first | omega | (simp <;> omega)) _) | (with_reducible refine Below.setCell ?_ (by first | omega | (simp <;> omega)) _)))); rintro e w1 ⟨rfl, hbw1⟩)
    have HC := hide ((unhide HC0).below hbw1)
    have HA1 := hide (own_below (unhide HA) hbw1)
    have HB1 := hide hbw1
    have hs1 := hbw1.size
    clear hbw1 HC0
    go_loopw [6, 27] (fun v i wr => ∃ (j : Nat) (bk : Bool), i = .int .i64 j ∧ v = .bool bk ∧ j ≤ n1 ∧ Hid (icK ps xs n1 j = some bk) ∧ Below w1.heap.size w1 wr) (fun _ i _ => n1 - (intOf i).toNat)
    case atStart => exact ⟨0, true, rfl, rfl, by omega, hide rfl, Below.refl _ _⟩
    case round =>
      obtain ⟨j, bk, rfl, rfl, hj, HP, hbwr⟩ := hrel
      have hzwr := hbwr.size
      by_cases hlt : j < n1
      · have HAr := hide (own_below (unhide HA1) hbwr)
        have hC := (unhide HC).below hbwr
        have x0 := hC.at0 j hlt
        have x1 := hC.at1 j hlt
        have hgs := hC.lt
        obtain ⟨r, hr⟩ : ∃ r, r = (j + 1) % n1 := ⟨_, rfl⟩
        have hrn : r < n1 := by rw [hr]; exact Nat.mod_lt _ (by omega)
        have hmod : ((j : Int) + 1).tmod (n1 : Int) = (r : Int) := by
          rw [Int.tmod_eq_emod_of_nonneg (by omega), hr, Int.natCast_emod]
          rfl
        have q0 := hC.at0 r hrn
        have q1 := hC.at1 r hrn
        have s1 : IntKind.i64.wrap ((j : Int) + 1) = (j : Int) + 1 := IntWalk.i64_in _ (by omega)
        have s2 : IntKind.i64.wrap (r : Int) = (r : Int) := IntWalk.i64_in _ (by omega)
        have s3 : (0 : Int) ≤ (r : Int) := by omega
        have s4 : (r : Int) < (n1 : Int) := by omega
        have s5 : ((r : Int)).toNat = r := by omega
        have s6 : ¬ (n1 : Int) = 0 := by omega
        have s7 : (0 : Int) ≤ (j : Int) := by omega
        have s8 : (j : Int) ≤ (d1 : Int) := by omega
        have s9 : ((j : Int)).toNat = j := by omega
        have hcj := fun (W : World) (hW : FCells W gs j xs) => containsF_any gs j d1 xs (fAt xs j) W hW (by omega)
        have HCJ := hide (hC.less (i := j) (by omega))
        have hstep : ∀ (b : Bool) (y : Rat), icK ps xs n1 j = some b → valO ps (fAt xs j).1 (fAt xs j).2 = some y → icK ps xs n1 (j + 1) = some (b && decide ((y.num, (y.den : Int)) = fAt xs r) && decide (ixF xs j (fAt xs j) < 0)) := fun b y h h2 => by rw [hr]; exact icK_step h h2
        have HB := hide hbwr
        clear hC hbwr hr
        obtain ⟨xn, hxn⟩ : ∃ z, z = (fAt xs j).1 := ⟨_, rfl⟩
        obtain ⟨xd, hxd⟩ : ∃ z, z = (fAt xs j).2 := ⟨_, rfl⟩
        obtain ⟨nn, hnn⟩ : ∃ z, z = (fAt xs r).1 := ⟨_, rfl⟩
        obtain ⟨nd, hnd⟩ : ∃ z, z = (fAt xs r).2 := ⟨_, rfl⟩
        have hval := fun W hW => iValueAt_any A n c base ps (fAt xs j).1 (fAt xs j).2 W hW hn
        rw [← hxn, ← hxd] at hval hcj
        rw [← hxn] at x0
        rw [← hxd] at x1
        rw [← hnn] at q0
        rw [← hnd] at q1
        have hfr : fAt xs r = (nn, nd) := by rw [hnn, hnd]
        have hvx : valO ps xn xd = valO ps (fAt xs j).1 (fAt xs j).2 := by rw [hxn, hxd]
        clear hxn hxd hnn hnd
        rcases hv : valO ps (fAt xs j).1 (fAt xs j).2 with _ | y
        · have hno := icK_up (icK_none (unhide HP) hv) n1 (by omega)
          have HNO := Lib.hid hno
          rw [hvx, hv] at hval
          simp only [oN_none, oD_none, Option.isSome_none] at hval
          have HV := hide hval
          clear hval hno hvx hv hcj hstep hfr
          go_wp2_with (go_at_call 19; (with_reducible refine ((unhide HV) _ (own_below (unhide HAr) ?pb)).mono ?_); (case pb => exact (by repeat (first | with_reducible exact Below.refl _ _ | with_reducible assumption | (with_reducible refine Below.trans ?_ (Below.mono (by assumption) (by first | omega | (simp <;> omega)))) | with_reducible apply Below.drew | with_reducible apply below_drewN | (with_reducible refine Below.alloc ?_ (by first | omega | (simp <;> omega)) _) | (with_reducible refine Below.setCell ?_ (by first | omega | (simp <;> omega)) _)))); rintro e w5 ⟨rfl, hbw5⟩; have hs5 := hbw5.size; (try simp at hs5); (skip; (try ((have kw5wr0 := (bnew hbw5) (wr.heap.size) ?pf); (case pf => (first | omega | (simp; done) | (simp; omega))); obtain ⟨kcw5wr0, kfw5wr0, klw5wr0⟩ := kw5wr0)); (try ((have kw5gsX0 := (bnew hbw5) (gs) ?pf); (case pf => (first | omega | (simp; done) | (simp; omega))); obtain ⟨kcw5gsX0, kfw5gsX0, klw5gsX0⟩ := kw5gsX0))))
          have hb := unhide HB
          have hb1 := unhide HB1
          go_ret2
          exact ⟨by rw [HNO.out]; rfl, (by repeat (first | with_reducible exact Below.refl _ _ | with_reducible assumption | (with_reducible refine Below.trans ?_ (Below.mono (by assumption) (by first | omega | (simp <;> omega)))) | with_reducible apply Below.drew | with_reducible apply below_drewN | (with_reducible refine Below.alloc ?_ (by first | omega | (simp <;> omega)) _) | (with_reducible refine Below.setCell ?_ (by first | omega | (simp <;> omega)) _)))⟩
        · have hst := hstep _ _ (unhide HP) hv
          rw [hfr] at hst
          rw [hvx, hv] at hval
          simp only [oN_some, oD_some, Option.isSome_some] at hval
          have HV := hide hval
          have hneg : decide (ixF xs j (fAt xs j) < 0) = !decide (0 ≤ ixF xs j (fAt xs j)) := by
            by_cases h : 0 ≤ ixF xs j (fAt xs j)
            · rw [decide_eq_true h, decide_eq_false (by omega)]; rfl
            · rw [decide_eq_false h, decide_eq_true (by omega)]; rfl
          rw [hneg] at hst
          obtain ⟨ct, hct⟩ : ∃ z, z = decide (0 ≤ ixF xs j (fAt xs j)) := ⟨_, rfl⟩
          rw [← hct] at hst
          replace hcj : ∀ W : World, FCells W gs j xs → Calls Try.prog 86 #[.slice (some ⟨gs, 0, none⟩) j d1, .agg #[.int .i64 (xn), .int .i64 (xd)]] W fun e w' => e = .returned (.bool ct) ∧ Below W.heap.size W w' := by
            intro W hW
            have := hcj W hW
            rwa [← hct] at this
          have HCONT := hide hcj
          clear hval hvx hv hcj hstep hfr hneg hct
          obtain ⟨yn, hyn⟩ : ∃ z, z = y.num := ⟨_, rfl⟩
          obtain ⟨yd, hyd⟩ : ∃ z, z = (y.den : Int) := ⟨_, rfl⟩
          rw [← hyn, ← hyd] at HV hst
          clear hyn hyd
          by_cases he : (yn, yd) = (nn, nd)
          · obtain ⟨rfl, rfl⟩ := Prod.mk.inj he
            rw [decide_eq_true rfl, Bool.and_true] at hst
            clear he
            cases ct
            · rw [Bool.not_false, Bool.and_true] at hst
              have HST := hide hst
              clear hst
              go_upto_region 11 with (go_at_call 19; (with_reducible refine ((unhide HV) _ (own_below (unhide HAr) ?pb)).mono ?_); (case pb => exact (by repeat (first | with_reducible exact Below.refl _ _ | with_reducible assumption | (with_reducible refine Below.trans ?_ (Below.mono (by assumption) (by first | omega | (simp <;> omega)))) | with_reducible apply Below.drew | with_reducible apply below_drewN | (with_reducible refine Below.alloc ?_ (by first | omega | (simp <;> omega)) _) | (with_reducible refine Below.setCell ?_ (by first | omega | (simp <;> omega)) _)))); rintro e w5 ⟨rfl, hbw5⟩; have hs5 := hbw5.size; (try simp at hs5); (skip; (try ((have kw5wr0 := (bnew hbw5) (wr.heap.size) ?pf); (case pf => (first | omega | (simp; done) | (simp; omega))); obtain ⟨kcw5wr0, kfw5wr0, klw5wr0⟩ := kw5wr0)); (try ((have kw5gsX0 := (bnew hbw5) (gs) ?pf); (case pf => (first | omega | (simp; done) | (simp; omega))); obtain ⟨kcw5gsX0, kfw5gsX0, klw5gsX0⟩ := kw5gsX0))))
              go_cut [57] (fun s57 wx => s57 = .bool false ∧ Below ((w5.alloc (.cells #[.int .i64 yn, .int .i64 yd] 26)).alloc (.cells #[.int .i64 yn, .int .i64 yd] 26)).heap.size ((w5.alloc (.cells #[.int .i64 yn, .int .i64 yd] 26)).alloc (.cells #[.int .i64 yn, .int .i64 yd] 26)) wx)
              case first =>
                refine wp_region_held_drew (S := (fun w' => w'.cell? ⟨w5.heap.size, 0, none⟩ = some (.int .i64 yn) ∧ w'.cell? ⟨w5.heap.size, 1, none⟩ = some (.int .i64 yd) ∧ w'.cell? ⟨wr.heap.size, 0, none⟩ = some (.int .i64 xn) ∧ w'.cell? ⟨wr.heap.size, 1, none⟩ = some (.int .i64 xd) ∧ w'.cell? ⟨w5.heap.size + 1, 0, none⟩ = some (.int .i64 yn) ∧ w'.cell? ⟨w5.heap.size + 1, 1, none⟩ = some (.int .i64 yd))) (by kernel_rfl) ?_ (fun hHeld => ?_)
                · ((try dsimp only); simp [go_sem, *])
                refine wpAnyH_take (i := 0) (oi := _) (v := ?_) (op_at rfl rfl) (by kernel_rfl) (by kernel_rfl) (by kernel_rfl) (fun _ _ _ h => h) (Or.inl ⟨by kernel_rfl, ?_⟩) hHeld ?_
                rotate_left
                · (intro w hSw; (try dsimp only at hSw); go_simp) <;> with_reducible rfl
                try simp only [Act.put, List.setIfInBounds_toArray, List.set_cons_zero, List.set_cons_succ]
                refine wpAnyH_take (i := 1) (oi := _) (v := ?_) (op_at rfl rfl) (by kernel_rfl) (by kernel_rfl) (by kernel_rfl) (fun _ _ _ h => h) (Or.inl ⟨by kernel_rfl, ?_⟩) hHeld ?_
                rotate_left
                · (intro w hSw; (try dsimp only at hSw); go_simp) <;> with_reducible rfl
                try simp only [Act.put, List.setIfInBounds_toArray, List.set_cons_zero, List.set_cons_succ]
                refine wpAnyH_take (i := 2) (oi := _) (v := ?_) (op_at rfl rfl) (by kernel_rfl) (by kernel_rfl) (by kernel_rfl) (fun _ _ _ h => h) (Or.inl ⟨by kernel_rfl, ?_⟩) hHeld ?_
                rotate_left
                · (intro w hSw; (try dsimp only at hSw); go_simp) <;> with_reducible rfl
                try simp only [Act.put, List.setIfInBounds_toArray, List.set_cons_zero, List.set_cons_succ]
                refine wpAnyH_take (i := 3) (oi := _) (v := ?_) (op_at rfl rfl) (by kernel_rfl) (by kernel_rfl) (by kernel_rfl) (fun _ _ _ h => h) (Or.inl ⟨by kernel_rfl, ?_⟩) hHeld ?_
                rotate_left
                · (intro w hSw; (try dsimp only at hSw); go_simp) <;> with_reducible rfl
                try simp only [Act.put, List.setIfInBounds_toArray, List.set_cons_zero, List.set_cons_succ]
                refine wpAnyH_take (i := 4) (oi := _) (v := ?_) (op_at rfl rfl) (by kernel_rfl) (by kernel_rfl) (by kernel_rfl) (fun _ _ _ h => h) (Or.inl ⟨by kernel_rfl, ?_⟩) hHeld ?_
                rotate_left
                · (intro w hSw; (try dsimp only at hSw); go_simp) <;> with_reducible rfl
                try simp only [Act.put, List.setIfInBounds_toArray, List.set_cons_zero, List.set_cons_succ]
                refine wpAnyH_take (i := 5) (oi := _) (v := ?_) (op_at rfl rfl) (by kernel_rfl) (by kernel_rfl) (by kernel_rfl) (fun _ _ _ h => h) (Or.inl ⟨by kernel_rfl, ?_⟩) hHeld ?_
                rotate_left
                · (intro w hSw; (try dsimp only at hSw); go_simp) <;> with_reducible rfl
                try simp only [Act.put, List.setIfInBounds_toArray, List.set_cons_zero, List.set_cons_succ]
                refine wpAnyH_take (i := 6) (oi := _) (v := ?_) (op_at rfl rfl) (by kernel_rfl) (by kernel_rfl) (by kernel_rfl) (fun _ _ _ h => h) (Or.inl ⟨by kernel_rfl, ?_⟩) hHeld ?_
                rotate_left
                · (intro w hSw; (try dsimp only at hSw); go_simp) <;> with_reducible rfl
                try simp only [Act.put, List.setIfInBounds_toArray, List.set_cons_zero, List.set_cons_succ]
                refine wpAnyH_take (i := 7) (oi := _) (v := ?_) (op_at rfl rfl) (by kernel_rfl) (by kernel_rfl) (by kernel_rfl) (fun _ _ _ h => h) (Or.inl ⟨by kernel_rfl, ?_⟩) hHeld ?_
                rotate_left
                · (intro w hSw; (try dsimp only at hSw); go_simp) <;> with_reducible rfl
                try simp only [Act.put, List.setIfInBounds_toArray, List.set_cons_zero, List.set_cons_succ]
                refine wpAnyH_ready (rs := [8]) (by kernel_rfl) (by simp) ?_
                refine AllReadyH.cons (o := _) (op_at rfl rfl) (fun K hK => ?_) AllReadyH.nil
                go_simp
                (go_at_call 86; (with_reducible refine ((unhide HCONT) _ ((unhide HCJ).below ?pb)).mono ?_); (case pb => exact (by repeat (first | with_reducible exact Below.refl _ _ | with_reducible assumption | (with_reducible refine Below.trans ?_ (Below.mono (by assumption) (by first | omega | (simp <;> omega)))) | with_reducible apply Below.drew | with_reducible apply below_drewN | (with_reducible refine Below.alloc ?_ (by first | omega | (simp <;> omega)) _) | (with_reducible refine Below.setCell ?_ (by first | omega | (simp <;> omega)) _)))); rintro e w8 ⟨rfl, hbw8⟩; have hs8 := hbw8.size; (try simp at hs8); (skip; (try ((have kw8w5.heap.sizeX0 := (bnew hbw8) (w5.heap.size) ?pf); (case pf => (first | omega | (simp; done) | (simp; omega))); obtain ⟨kcw8w5.heap.sizeX0, kfw8w5.heap.sizeX0, klw8w5.heap.sizeX0⟩ := kw8w5.heap.sizeX0)); (try ((have kw8w5.heap.sizeX1 := (bnew hbw8) (w5.heap.size + 1) ?pf); (case pf => (first | omega | (simp; done) | (simp; omega))); obtain ⟨kcw8w5.heap.sizeX1, kfw8w5.heap.sizeX1, klw8w5.heap.sizeX1⟩ := kw8w5.heap.sizeX1)); (try ((have kw8wr.heap.sizeX0 := (bnew hbw8) (wr.heap.size) ?pf); (case pf => (first | omega | (simp; done) | (simp; omega))); obtain ⟨kcw8wr.heap.sizeX0, kfw8wr.heap.sizeX0, klw8wr.heap.sizeX0⟩ := kw8wr.heap.sizeX0))))
                go_wp2_with fail
                refine hK.out _ _ ?_ (fun hHeld => ?_)
                · ((try dsimp only); simp [go_sem, *])
                clear hK K
                try simp only [Act.put, List.setIfInBounds_toArray, List.set_cons_zero, List.set_cons_succ]
                refine wpAnyH_take (i := 9) (oi := _) (v := ?_) (op_at rfl rfl) (by kernel_rfl) (by kernel_rfl) (by kernel_rfl) (fun _ _ _ h => h) (Or.inl ⟨by kernel_rfl, ?_⟩) hHeld ?_
                rotate_left
                · (intro w hSw; (try dsimp only at hSw); go_simp) <;> with_reducible rfl
                try simp only [Act.put, List.setIfInBounds_toArray, List.set_cons_zero, List.set_cons_succ]
                refine wpAnyH_done (by kernel_rfl) ?_ _
                all_goals
                  go_wp2_with fail
                  go_meet
                  exact ⟨by simp, (by repeat (first | with_reducible exact Below.refl _ _ | with_reducible assumption | (with_reducible refine Below.trans ?_ (Below.mono (by assumption) (by first | omega | (simp <;> omega)))) | with_reducible apply Below.drew | with_reducible apply below_drewN | (with_reducible refine Below.alloc ?_ (by first | omega | (simp <;> omega)) _) | (with_reducible refine Below.setCell ?_ (by first | omega | (simp <;> omega)) _)))⟩
              case rest =>
              obtain ⟨rfl, hbwc⟩ := hcut
              have hb := unhide HB
              have hX : Below wr.heap.size wr ((w5.alloc (.cells #[.int .i64 yn, .int .i64 yd] 26)).alloc (.cells #[.int .i64 yn, .int .i64 yd] 26)) := (by repeat (first | with_reducible exact Below.refl _ _ | with_reducible assumption | (with_reducible refine Below.trans ?_ (Below.mono (by assumption) (by first | omega | (simp <;> omega)))) | with_reducible apply Below.drew | with_reducible apply below_drewN | (with_reducible refine Below.alloc ?_ (by first | omega | (simp <;> omega)) _) | (with_reducible refine Below.setCell ?_ (by first | omega | (simp <;> omega)) _)))
              have hbz : Below w1.heap.size w1 wc := hb.trans ((hX.trans (hbwc.mono hX.size)).mono hb.size)
              have HBZ := hide hbz
              clear hb hbwc hbz hX
              go_wp2_with fail
              go_roundw
              case rel => exact ⟨j + 1, bk, by go_num, rfl, by omega, HST, unhide HBZ⟩
              case measure => simp [intOf]; omega
            · rw [Bool.not_true, Bool.and_false] at hst
              have HST := hide hst
              clear hst
              go_upto_region 11 with (go_at_call 19; (with_reducible refine ((unhide HV) _ (own_below (unhide HAr) ?pb)).mono ?_); (case pb => exact (by repeat (first | with_reducible exact Below.refl _ _ | with_reducible assumption | (with_reducible refine Below.trans ?_ (Below.mono (by assumption) (by first | omega | (simp <;> omega)))) | with_reducible apply Below.drew | with_reducible apply below_drewN | (with_reducible refine Below.alloc ?_ (by first | omega | (simp <;> omega)) _) | (with_reducible refine Below.setCell ?_ (by first | omega | (simp <;> omega)) _)))); rintro e w5 ⟨rfl, hbw5⟩; have hs5 := hbw5.size; (try simp at hs5); (skip; (try ((have kw5wr0 := (bnew hbw5) (wr.heap.size) ?pf); (case pf => (first | omega | (simp; done) | (simp; omega))); obtain ⟨kcw5wr0, kfw5wr0, klw5wr0⟩ := kw5wr0)); (try ((have kw5gsX0 := (bnew hbw5) (gs) ?pf); (case pf => (first | omega | (simp; done) | (simp; omega))); obtain ⟨kcw5gsX0, kfw5gsX0, klw5gsX0⟩ := kw5gsX0))))
              go_cut [57] (fun s57 wx => s57 = .bool true ∧ Below ((w5.alloc (.cells #[.int .i64 yn, .int .i64 yd] 26)).alloc (.cells #[.int .i64 yn, .int .i64 yd] 26)).heap.size ((w5.alloc (.cells #[.int .i64 yn, .int .i64 yd] 26)).alloc (.cells #[.int .i64 yn, .int .i64 yd] 26)) wx)
              case first =>
                refine wp_region_held_drew (S := (fun w' => w'.cell? ⟨w5.heap.size, 0, none⟩ = some (.int .i64 yn) ∧ w'.cell? ⟨w5.heap.size, 1, none⟩ = some (.int .i64 yd) ∧ w'.cell? ⟨wr.heap.size, 0, none⟩ = some (.int .i64 xn) ∧ w'.cell? ⟨wr.heap.size, 1, none⟩ = some (.int .i64 xd) ∧ w'.cell? ⟨w5.heap.size + 1, 0, none⟩ = some (.int .i64 yn) ∧ w'.cell? ⟨w5.heap.size + 1, 1, none⟩ = some (.int .i64 yd))) (by kernel_rfl) ?_ (fun hHeld => ?_)
                · ((try dsimp only); simp [go_sem, *])
                refine wpAnyH_take (i := 0) (oi := _) (v := ?_) (op_at rfl rfl) (by kernel_rfl) (by kernel_rfl) (by kernel_rfl) (fun _ _ _ h => h) (Or.inl ⟨by kernel_rfl, ?_⟩) hHeld ?_
                rotate_left
                · (intro w hSw; (try dsimp only at hSw); go_simp) <;> with_reducible rfl
                try simp only [Act.put, List.setIfInBounds_toArray, List.set_cons_zero, List.set_cons_succ]
                refine wpAnyH_take (i := 1) (oi := _) (v := ?_) (op_at rfl rfl) (by kernel_rfl) (by kernel_rfl) (by kernel_rfl) (fun _ _ _ h => h) (Or.inl ⟨by kernel_rfl, ?_⟩) hHeld ?_
                rotate_left
                · (intro w hSw; (try dsimp only at hSw); go_simp) <;> with_reducible rfl
                try simp only [Act.put, List.setIfInBounds_toArray, List.set_cons_zero, List.set_cons_succ]
                refine wpAnyH_take (i := 2) (oi := _) (v := ?_) (op_at rfl rfl) (by kernel_rfl) (by kernel_rfl) (by kernel_rfl) (fun _ _ _ h => h) (Or.inl ⟨by kernel_rfl, ?_⟩) hHeld ?_
                rotate_left
                · (intro w hSw; (try dsimp only at hSw); go_simp) <;> with_reducible rfl
                try simp only [Act.put, List.setIfInBounds_toArray, List.set_cons_zero, List.set_cons_succ]
                refine wpAnyH_take (i := 3) (oi := _) (v := ?_) (op_at rfl rfl) (by kernel_rfl) (by kernel_rfl) (by kernel_rfl) (fun _ _ _ h => h) (Or.inl ⟨by kernel_rfl, ?_⟩) hHeld ?_
                rotate_left
                · (intro w hSw; (try dsimp only at hSw); go_simp) <;> with_reducible rfl
                try simp only [Act.put, List.setIfInBounds_toArray, List.set_cons_zero, List.set_cons_succ]
                refine wpAnyH_take (i := 4) (oi := _) (v := ?_) (op_at rfl rfl) (by kernel_rfl) (by kernel_rfl) (by kernel_rfl) (fun _ _ _ h => h) (Or.inl ⟨by kernel_rfl, ?_⟩) hHeld ?_
                rotate_left
                · (intro w hSw; (try dsimp only at hSw); go_simp) <;> with_reducible rfl
                try simp only [Act.put, List.setIfInBounds_toArray, List.set_cons_zero, List.set_cons_succ]
                refine wpAnyH_take (i := 5) (oi := _) (v := ?_) (op_at rfl rfl) (by kernel_rfl) (by kernel_rfl) (by kernel_rfl) (fun _ _ _ h => h) (Or.inl ⟨by kernel_rfl, ?_⟩) hHeld ?_
                rotate_left
                · (intro w hSw; (try dsimp only at hSw); go_simp) <;> with_reducible rfl
                try simp only [Act.put, List.setIfInBounds_toArray, List.set_cons_zero, List.set_cons_succ]
                refine wpAnyH_take (i := 6) (oi := _) (v := ?_) (op_at rfl rfl) (by kernel_rfl) (by kernel_rfl) (by kernel_rfl) (fun _ _ _ h => h) (Or.inl ⟨by kernel_rfl, ?_⟩) hHeld ?_
                rotate_left
                · (intro w hSw; (try dsimp only at hSw); go_simp) <;> with_reducible rfl
                try simp only [Act.put, List.setIfInBounds_toArray, List.set_cons_zero, List.set_cons_succ]
                refine wpAnyH_take (i := 7) (oi := _) (v := ?_) (op_at rfl rfl) (by kernel_rfl) (by kernel_rfl) (by kernel_rfl) (fun _ _ _ h => h) (Or.inl ⟨by kernel_rfl, ?_⟩) hHeld ?_
                rotate_left
                · (intro w hSw; (try dsimp only at hSw); go_simp) <;> with_reducible rfl
                try simp only [Act.put, List.setIfInBounds_toArray, List.set_cons_zero, List.set_cons_succ]
                refine wpAnyH_ready (rs := [8]) (by kernel_rfl) (by simp) ?_
                refine AllReadyH.cons (o := _) (op_at rfl rfl) (fun K hK => ?_) AllReadyH.nil
                go_simp
                (go_at_call 86; (with_reducible refine ((unhide HCONT) _ ((unhide HCJ).below ?pb)).mono ?_); (case pb => exact (by repeat (first | with_reducible exact Below.refl _ _ | with_reducible assumption | (with_reducible refine Below.trans ?_ (Below.mono (by assumption) (by first | omega | (simp <;> omega)))) | with_reducible apply Below.drew | with_reducible apply below_drewN | (with_reducible refine Below.alloc ?_ (by first | omega | (simp <;> omega)) _) | (with_reducible refine Below.setCell ?_ (by first | omega | (simp <;> omega)) _)))); rintro e w8 ⟨rfl, hbw8⟩; have hs8 := hbw8.size; (try simp at hs8); (skip; (try ((have kw8w5.heap.sizeX0 := (bnew hbw8) (w5.heap.size) ?pf); (case pf => (first | omega | (simp; done) | (simp; omega))); obtain ⟨kcw8w5.heap.sizeX0, kfw8w5.heap.sizeX0, klw8w5.heap.sizeX0⟩ := kw8w5.heap.sizeX0)); (try ((have kw8w5.heap.sizeX1 := (bnew hbw8) (w5.heap.size + 1) ?pf); (case pf => (first | omega | (simp; done) | (simp; omega))); obtain ⟨kcw8w5.heap.sizeX1, kfw8w5.heap.sizeX1, klw8w5.heap.sizeX1⟩ := kw8w5.heap.sizeX1)); (try ((have kw8wr.heap.sizeX0 := (bnew hbw8) (wr.heap.size) ?pf); (case pf => (first | omega | (simp; done) | (simp; omega))); obtain ⟨kcw8wr.heap.sizeX0, kfw8wr.heap.sizeX0, klw8wr.heap.sizeX0⟩ := kw8wr.heap.sizeX0))))
                go_wp2_with fail
                refine hK.out _ _ ?_ (fun hHeld => ?_)
                · ((try dsimp only); simp [go_sem, *])
                clear hK K
                try simp only [Act.put, List.setIfInBounds_toArray, List.set_cons_zero, List.set_cons_succ]
                refine wpAnyH_take (i := 9) (oi := _) (v := ?_) (op_at rfl rfl) (by kernel_rfl) (by kernel_rfl) (by kernel_rfl) (fun _ _ _ h => h) (Or.inl ⟨by kernel_rfl, ?_⟩) hHeld ?_
                rotate_left
                · (intro w hSw; (try dsimp only at hSw); go_simp) <;> with_reducible rfl
                try simp only [Act.put, List.setIfInBounds_toArray, List.set_cons_zero, List.set_cons_succ]
                refine wpAnyH_done (by kernel_rfl) ?_ _
                all_goals
                  go_wp2_with fail
                  go_meet
                  exact ⟨by simp, (by repeat (first | with_reducible exact Below.refl _ _ | with_reducible assumption | (with_reducible refine Below.trans ?_ (Below.mono (by assumption) (by first | omega | (simp <;> omega)))) | with_reducible apply Below.drew | with_reducible apply below_drewN | (with_reducible refine Below.alloc ?_ (by first | omega | (simp <;> omega)) _) | (with_reducible refine Below.setCell ?_ (by first | omega | (simp <;> omega)) _)))⟩
              case rest =>
              obtain ⟨rfl, hbwc⟩ := hcut
              have hb := unhide HB
              have hX : Below wr.heap.size wr ((w5.alloc (.cells #[.int .i64 yn, .int .i64 yd] 26)).alloc (.cells #[.int .i64 yn, .int .i64 yd] 26)) := (by repeat (first | with_reducible exact Below.refl _ _ | with_reducible assumption | (with_reducible refine Below.trans ?_ (Below.mono (by assumption) (by first | omega | (simp <;> omega)))) | with_reducible apply Below.drew | with_reducible apply below_drewN | (with_reducible refine Below.alloc ?_ (by first | omega | (simp <;> omega)) _) | (with_reducible refine Below.setCell ?_ (by first | omega | (simp <;> omega)) _)))
              have hbz : Below w1.heap.size w1 wc := hb.trans ((hX.trans (hbwc.mono hX.size)).mono hb.size)
              have HBZ := hide hbz
              clear hb hbwc hbz hX
              go_wp2_with fail
              go_roundw
              case rel => exact ⟨j + 1, false, by go_num, rfl, by omega, HST, unhide HBZ⟩
              case measure => simp [intOf]; omega
          · rw [decide_eq_false he, Bool.and_false, Bool.false_and] at hst
            have HST := hide hst
            have hsp : (nn = yn ∧ ¬ yd = nd) ∨ ¬ yn = nn := by
              by_cases h1 : yn = nn
              · exact .inl ⟨h1.symm, fun h => he (by rw [h1, h])⟩
              · exact .inr h1
            clear hst he
            go_upto_region 11 with (go_at_call 19; (with_reducible refine ((unhide HV) _ (own_below (unhide HAr) ?pb)).mono ?_); (case pb => exact (by repeat (first | with_reducible exact Below.refl _ _ | with_reducible assumption | (with_reducible refine Below.trans ?_ (Below.mono (by assumption) (by first | omega | (simp <;> omega)))) | with_reducible apply Below.drew | with_reducible apply below_drewN | (with_reducible refine Below.alloc ?_ (by first | omega | (simp <;> omega)) _) | (with_reducible refine Below.setCell ?_ (by first | omega | (simp <;> omega)) _)))); rintro e w5 ⟨rfl, hbw5⟩; have hs5 := hbw5.size; (try simp at hs5); (skip; (try ((have kw5wr0 := (bnew hbw5) (wr.heap.size) ?pf); (case pf => (first | omega | (simp; done) | (simp; omega))); obtain ⟨kcw5wr0, kfw5wr0, klw5wr0⟩ := kw5wr0)); (try ((have kw5gsX0 := (bnew hbw5) (gs) ?pf); (case pf => (first | omega | (simp; done) | (simp; omega))); obtain ⟨kcw5gsX0, kfw5gsX0, klw5gsX0⟩ := kw5gsX0))))
            go_cut [57] (fun s57 wx => s57 = .bool true ∧ Below ((w5.alloc (.cells #[.int .i64 yn, .int .i64 yd] 26)).alloc (.cells #[.int .i64 nn, .int .i64 nd] 26)).heap.size ((w5.alloc (.cells #[.int .i64 yn, .int .i64 yd] 26)).alloc (.cells #[.int .i64 nn, .int .i64 nd] 26)) wx)
            case first =>
              rcases hsp with ⟨rfl, hd⟩ | hd
              · skip
                refine wp_region_held_drew (S := (fun w' => w'.cell? ⟨w5.heap.size, 0, none⟩ = some (.int .i64 nn) ∧ w'.cell? ⟨w5.heap.size, 1, none⟩ = some (.int .i64 yd) ∧ w'.cell? ⟨wr.heap.size, 0, none⟩ = some (.int .i64 xn) ∧ w'.cell? ⟨wr.heap.size, 1, none⟩ = some (.int .i64 xd) ∧ w'.cell? ⟨w5.heap.size + 1, 0, none⟩ = some (.int .i64 nn) ∧ w'.cell? ⟨w5.heap.size + 1, 1, none⟩ = some (.int .i64 nd))) (by kernel_rfl) ?_ (fun hHeld => ?_)
                · ((try dsimp only); simp [go_sem, *])
                refine wpAnyH_take (i := 0) (oi := _) (v := ?_) (op_at rfl rfl) (by kernel_rfl) (by kernel_rfl) (by kernel_rfl) (fun _ _ _ h => h) (Or.inl ⟨by kernel_rfl, ?_⟩) hHeld ?_
                rotate_left
                · (intro w hSw; (try dsimp only at hSw); go_simp) <;> with_reducible rfl
                try simp only [Act.put, List.setIfInBounds_toArray, List.set_cons_zero, List.set_cons_succ]
                refine wpAnyH_take (i := 1) (oi := _) (v := ?_) (op_at rfl rfl) (by kernel_rfl) (by kernel_rfl) (by kernel_rfl) (fun _ _ _ h => h) (Or.inl ⟨by kernel_rfl, ?_⟩) hHeld ?_
                rotate_left
                · (intro w hSw; (try dsimp only at hSw); go_simp) <;> with_reducible rfl
                try simp only [Act.put, List.setIfInBounds_toArray, List.set_cons_zero, List.set_cons_succ]
                refine wpAnyH_take (i := 2) (oi := _) (v := ?_) (op_at rfl rfl) (by kernel_rfl) (by kernel_rfl) (by kernel_rfl) (fun _ _ _ h => h) (Or.inl ⟨by kernel_rfl, ?_⟩) hHeld ?_
                rotate_left
                · (intro w hSw; (try dsimp only at hSw); go_simp) <;> with_reducible rfl
                try simp only [Act.put, List.setIfInBounds_toArray, List.set_cons_zero, List.set_cons_succ]
                refine wpAnyH_take (i := 3) (oi := _) (v := ?_) (op_at rfl rfl) (by kernel_rfl) (by kernel_rfl) (by kernel_rfl) (fun _ _ _ h => h) (Or.inl ⟨by kernel_rfl, ?_⟩) hHeld ?_
                rotate_left
                · (intro w hSw; (try dsimp only at hSw); go_simp) <;> with_reducible rfl
                try simp only [Act.put, List.setIfInBounds_toArray, List.set_cons_zero, List.set_cons_succ]
                refine wpAnyH_take (i := 4) (oi := _) (v := undef) (op_at rfl rfl) (by kernel_rfl) (by kernel_rfl) (by kernel_rfl) (fun _ _ _ h => h) (Or.inr ⟨by kernel_rfl, rfl⟩) hHeld ?_
                try simp only [Act.put, List.setIfInBounds_toArray, List.set_cons_zero, List.set_cons_succ]
                refine wpAnyH_take (i := 5) (oi := _) (v := undef) (op_at rfl rfl) (by kernel_rfl) (by kernel_rfl) (by kernel_rfl) (fun _ _ _ h => h) (Or.inr ⟨by kernel_rfl, rfl⟩) hHeld ?_
                try simp only [Act.put, List.setIfInBounds_toArray, List.set_cons_zero, List.set_cons_succ]
                refine wpAnyH_take (i := 6) (oi := _) (v := undef) (op_at rfl rfl) (by kernel_rfl) (by kernel_rfl) (by kernel_rfl) (fun _ _ _ h => h) (Or.inr ⟨by kernel_rfl, rfl⟩) hHeld ?_
                try simp only [Act.put, List.setIfInBounds_toArray, List.set_cons_zero, List.set_cons_succ]
                refine wpAnyH_take (i := 7) (oi := _) (v := undef) (op_at rfl rfl) (by kernel_rfl) (by kernel_rfl) (by kernel_rfl) (fun _ _ _ h => h) (Or.inr ⟨by kernel_rfl, rfl⟩) hHeld ?_
                try simp only [Act.put, List.setIfInBounds_toArray, List.set_cons_zero, List.set_cons_succ]
                refine wpAnyH_take (i := 8) (oi := _) (v := undef) (op_at rfl rfl) (by kernel_rfl) (by kernel_rfl) (by kernel_rfl) (fun _ _ _ h => h) (Or.inr ⟨by kernel_rfl, rfl⟩) hHeld ?_
                try simp only [Act.put, List.setIfInBounds_toArray, List.set_cons_zero, List.set_cons_succ]
                refine wpAnyH_take (i := 9) (oi := _) (v := ?_) (op_at rfl rfl) (by kernel_rfl) (by kernel_rfl) (by kernel_rfl) (fun _ _ _ h => h) (Or.inl ⟨by kernel_rfl, ?_⟩) hHeld ?_
                rotate_left
                · (intro w hSw; (try dsimp only at hSw); go_simp) <;> with_reducible rfl
                try simp only [Act.put, List.setIfInBounds_toArray, List.set_cons_zero, List.set_cons_succ]
                refine wpAnyH_done (by kernel_rfl) ?_ _
                all_goals
                  go_wp2_with fail
                  go_meet
                  exact ⟨by simp [*], (by repeat (first | with_reducible exact Below.refl _ _ | with_reducible assumption | (with_reducible refine Below.trans ?_ (Below.mono (by assumption) (by first | omega | (simp <;> omega)))) | with_reducible apply Below.drew | with_reducible apply below_drewN | (with_reducible refine Below.alloc ?_ (by first | omega | (simp <;> omega)) _) | (with_reducible refine Below.setCell ?_ (by first | omega | (simp <;> omega)) _)))⟩
              · skip
                refine wp_region_held_drew (S := (fun w' => w'.cell? ⟨w5.heap.size, 0, none⟩ = some (.int .i64 yn) ∧ w'.cell? ⟨w5.heap.size, 1, none⟩ = some (.int .i64 yd) ∧ w'.cell? ⟨wr.heap.size, 0, none⟩ = some (.int .i64 xn) ∧ w'.cell? ⟨wr.heap.size, 1, none⟩ = some (.int .i64 xd) ∧ w'.cell? ⟨w5.heap.size + 1, 0, none⟩ = some (.int .i64 nn) ∧ w'.cell? ⟨w5.heap.size + 1, 1, none⟩ = some (.int .i64 nd))) (by kernel_rfl) ?_ (fun hHeld => ?_)
                · ((try dsimp only); simp [go_sem, *])
                refine wpAnyH_take (i := 0) (oi := _) (v := ?_) (op_at rfl rfl) (by kernel_rfl) (by kernel_rfl) (by kernel_rfl) (fun _ _ _ h => h) (Or.inl ⟨by kernel_rfl, ?_⟩) hHeld ?_
                rotate_left
                · (intro w hSw; (try dsimp only at hSw); go_simp) <;> with_reducible rfl
                try simp only [Act.put, List.setIfInBounds_toArray, List.set_cons_zero, List.set_cons_succ]
                refine wpAnyH_take (i := 1) (oi := _) (v := ?_) (op_at rfl rfl) (by kernel_rfl) (by kernel_rfl) (by kernel_rfl) (fun _ _ _ h => h) (Or.inl ⟨by kernel_rfl, ?_⟩) hHeld ?_
                rotate_left
                · (intro w hSw; (try dsimp only at hSw); go_simp) <;> with_reducible rfl
                try simp only [Act.put, List.setIfInBounds_toArray, List.set_cons_zero, List.set_cons_succ]
                refine wpAnyH_take (i := 2) (oi := _) (v := ?_) (op_at rfl rfl) (by kernel_rfl) (by kernel_rfl) (by kernel_rfl) (fun _ _ _ h => h) (Or.inl ⟨by kernel_rfl, ?_⟩) hHeld ?_
                rotate_left
                · (intro w hSw; (try dsimp only at hSw); go_simp) <;> with_reducible rfl
                try simp only [Act.put, List.setIfInBounds_toArray, List.set_cons_zero, List.set_cons_succ]
                refine wpAnyH_take (i := 3) (oi := _) (v := ?_) (op_at rfl rfl) (by kernel_rfl) (by kernel_rfl) (by kernel_rfl) (fun _ _ _ h => h) (Or.inl ⟨by kernel_rfl, ?_⟩) hHeld ?_
                rotate_left
                · (intro w hSw; (try dsimp only at hSw); go_simp) <;> with_reducible rfl
                try simp only [Act.put, List.setIfInBounds_toArray, List.set_cons_zero, List.set_cons_succ]
                refine wpAnyH_take (i := 4) (oi := _) (v := undef) (op_at rfl rfl) (by kernel_rfl) (by kernel_rfl) (by kernel_rfl) (fun _ _ _ h => h) (Or.inr ⟨by kernel_rfl, rfl⟩) hHeld ?_
                try simp only [Act.put, List.setIfInBounds_toArray, List.set_cons_zero, List.set_cons_succ]
                refine wpAnyH_take (i := 5) (oi := _) (v := undef) (op_at rfl rfl) (by kernel_rfl) (by kernel_rfl) (by kernel_rfl) (fun _ _ _ h => h) (Or.inr ⟨by kernel_rfl, rfl⟩) hHeld ?_
                try simp only [Act.put, List.setIfInBounds_toArray, List.set_cons_zero, List.set_cons_succ]
                refine wpAnyH_take (i := 6) (oi := _) (v := undef) (op_at rfl rfl) (by kernel_rfl) (by kernel_rfl) (by kernel_rfl) (fun _ _ _ h => h) (Or.inr ⟨by kernel_rfl, rfl⟩) hHeld ?_
                try simp only [Act.put, List.setIfInBounds_toArray, List.set_cons_zero, List.set_cons_succ]
                refine wpAnyH_take (i := 7) (oi := _) (v := undef) (op_at rfl rfl) (by kernel_rfl) (by kernel_rfl) (by kernel_rfl) (fun _ _ _ h => h) (Or.inr ⟨by kernel_rfl, rfl⟩) hHeld ?_
                try simp only [Act.put, List.setIfInBounds_toArray, List.set_cons_zero, List.set_cons_succ]
                refine wpAnyH_take (i := 8) (oi := _) (v := undef) (op_at rfl rfl) (by kernel_rfl) (by kernel_rfl) (by kernel_rfl) (fun _ _ _ h => h) (Or.inr ⟨by kernel_rfl, rfl⟩) hHeld ?_
                try simp only [Act.put, List.setIfInBounds_toArray, List.set_cons_zero, List.set_cons_succ]
                refine wpAnyH_take (i := 9) (oi := _) (v := ?_) (op_at rfl rfl) (by kernel_rfl) (by kernel_rfl) (by kernel_rfl) (fun _ _ _ h => h) (Or.inl ⟨by kernel_rfl, ?_⟩) hHeld ?_
                rotate_left
                · (intro w hSw; (try dsimp only at hSw); go_simp) <;> with_reducible rfl
                try simp only [Act.put, List.setIfInBounds_toArray, List.set_cons_zero, List.set_cons_succ]
                refine wpAnyH_done (by kernel_rfl) ?_ _
                all_goals
                  go_wp2_with fail
                  go_meet
                  exact ⟨by simp [*], (by repeat (first | with_reducible exact Below.refl _ _ | with_reducible assumption | (with_reducible refine Below.trans ?_ (Below.mono (by assumption) (by first | omega | (simp <;> omega)))) | with_reducible apply Below.drew | with_reducible apply below_drewN | (with_reducible refine Below.alloc ?_ (by first | omega | (simp <;> omega)) _) | (with_reducible refine Below.setCell ?_ (by first | omega | (simp <;> omega)) _)))⟩
            case rest =>
            obtain ⟨rfl, hbwc⟩ := hcut
            have hb := unhide HB
            have hX : Below wr.heap.size wr ((w5.alloc (.cells #[.int .i64 yn, .int .i64 yd] 26)).alloc (.cells #[.int .i64 nn, .int .i64 nd] 26)) := (by repeat (first | with_reducible exact Below.refl _ _ | with_reducible assumption | (with_reducible refine Below.trans ?_ (Below.mono (by assumption) (by first | omega | (simp <;> omega)))) | with_reducible apply Below.drew | with_reducible apply below_drewN | (with_reducible refine Below.alloc ?_ (by first | omega | (simp <;> omega)) _) | (with_reducible refine Below.setCell ?_ (by first | omega | (simp <;> omega)) _)))
            have hbz : Below w1.heap.size w1 wc := hb.trans ((hX.trans (hbwc.mono hX.size)).mono hb.size)
            have HBZ := hide hbz
            clear hb hbwc hbz hX
            go_wp2_with fail
            go_roundw
            case rel => exact ⟨j + 1, false, by go_num, rfl, by omega, HST, unhide HBZ⟩
            case measure => simp [intOf]; omega
      · obtain rfl : j = n1 := by omega
        have HB := hide hbwr
        have HPR := Lib.hid (unhide HP)
        clear hbwr HP
        go_wp2_with fail
        have hb := unhide HB
        have hb1 := unhide HB1
        go_ret2
        exact ⟨by rw [HPR.out]; rfl, (by repeat (first | with_reducible exact Below.refl _ _ | with_reducible assumption | (with_reducible refine Below.trans ?_ (Below.mono (by assumption) (by first | omega | (simp <;> omega)))) | with_reducible apply Below.drew | with_reducible apply below_drewN | (with_reducible refine Below.alloc ?_ (by first | omega | (simp <;> omega)) _) | (with_reducible refine Below.setCell ?_ (by first | omega | (simp <;> omega)) _)))⟩
  · rw [icO_no (.inr hl)]
    simp only [Option.getD_none, Option.isSome_none]
    clear ha hx hm
    by_cases h1 : n1 < 1
    · go_enter Try.func52, Try.ntmps52
      go_wp2_with (go_at_call 57; (with_reducible refine ((unhide HM) _ (own_below (unhide HA) ?pb)).mono ?_); (case pb => exact (by repeat (first | with_reducible exact Below.refl _ _ | with_reducible assumption | (with_reducible refine Below.trans ?_ (Below.mono (by assumption) (by first | omega | (simp <;> omega)))) | with_reducible apply Below.drew | with_reducible apply below_drewN | (with_reducible refine Below.alloc ?_ (by first | omega | (simp <;> omega)) _) | (with_reducible refine Below.setCell ?_ (by first | omega | (simp <;> omega)) _)))); rintro e w1 ⟨rfl, hbw1⟩)
      go_ret2
      exact ⟨rfl, (by repeat (first | with_reducible exact Below.refl _ _ | with_reducible assumption | (with_reducible refine Below.trans ?_ (Below.mono (by assumption) (by first | omega | (simp <;> omega)))) | with_reducible apply Below.drew | with_reducible apply below_drewN | (with_reducible refine Below.alloc ?_ (by first | omega | (simp <;> omega)) _) | (with_reducible refine Below.setCell ?_ (by first | omega | (simp <;> omega)) _)))⟩
    · have h2 : 60 < n1 := by omega
      go_enter Try.func52, Try.ntmps52
      go_wp2_with (go_at_call 57; (with_reducible refine ((unhide HM) _ (own_below (unhide HA) ?pb)).mono ?_); (case pb => exact (by repeat (first | with_reducible exact Below.refl _ _ | with_reducible assumption | (with_reducible refine Below.trans ?_ (Below.mono (by assumption) (by first | omega | (simp <;> omega)))) | with_reducible apply Below.drew | with_reducible apply below_drewN | (with_reducible refine Below.alloc ?_ (by first | omega | (simp <;> omega)) _) | (with_reducible refine Below.setCell ?_ (by first | omega | (simp <;> omega)) _)))); rintro e w1 ⟨rfl, hbw1⟩)
      go_ret2
      exact ⟨rfl, (by repeat (first | with_reducible exact Below.refl _ _ | with_reducible assumption | (with_reducible refine Below.trans ?_ (Below.mono (by assumption) (by first | omega | (simp <;> omega)))) | with_reducible apply Below.drew | with_reducible apply below_drewN | (with_reducible refine Below.alloc ?_ (by first | omega | (simp <;> omega)) _) | (with_reducible refine Below.setCell ?_ (by first | omega | (simp <;> omega)) _)))⟩
end Go.Proofs.Ytmkejopkmdcfeaa

/-
  Chapter 4: the cycle of a fraction that is met again, of both.
-/
import Derived.Test.YthccdooacbablaaOl
namespace Go.Proofs.Ythccdooacbablaa
open Go.RowKit Rm

/-- The cycle of a fraction that is met again, from it on. -/
def cyO (ps : List Pt) (a b m : Int) : Option (List Rat) := (orbO ps a b m).bind fun l => (perO l).bind fun r => if r.1 = 0 then some (cyL l r) else none
theorem cyO_none {ps : List Pt} {a b m : Int} (h : peO ps a b m = none) : cyO ps a b m = none := by
  unfold peO at h
  unfold cyO
  cases ho : orbO ps a b m with
  | none => rfl
  | some l =>
    rw [ho] at h
    have h' : perO l = none := h
    show (perO l).bind _ = none
    rw [h', Option.bind_none]
theorem cyO_some {ps : List Pt} {a b m : Int} {l : List Rat} {r : Nat × Nat} (ho : orbO ps a b m = some l) (h : perO l = some r) : cyO ps a b m = if r.1 = 0 then some (cyL l r) else none := by
  unfold cyO; rw [ho]
  show (perO l).bind _ = _
  rw [h]; rfl
theorem run_head (qs : List QP) (k : Nat) (x : Rat) : (run qs k x).getD 0 0 = x := by
  obtain ⟨l, e⟩ := run_ne qs x k
  rw [e]; rfl
structure Cyc (qs : List QP) (cy : List Rat) (P : Nat) : Prop where
  map : GMap qs
  len : cy.length = P
  lo : 1 ≤ P
  hi : P ≤ 60
  all : ∀ i, i < P → Un (cy.getD i 0)
theorem cyc_of {qs : List QP} {x : Rat} {k a b : Nat} (hO : Orb qs x k (run qs k x)) (h : perO (run qs k x) = some (a, b)) : Cyc qs (cyL (run qs k x) (a, b)) b := by
  obtain ⟨h1, h2, _, _, _, _⟩ := per_parts hO h
  have hk := hO.hk
  exact ⟨hO.map, cyL_len (by rw [hO.len]; omega), h1, by omega, fun i hi => by rw [cyL_get hi]; exact hO.all _ (by omega)⟩

set_option maxRecDepth 100000 in
set_option maxHeartbeats 1600000 in
theorem i_cyc (A : Option Addr) (n c base : Nat) (ps : List Pt) (a b m : Int) (hn : n ≤ 1048576) :
    (cyO ps a b m = none ∧ ∀ w : World, w.ownsRow base 62 4 (.slice A n c) n (ptcs ps) → Calls Try.prog 111 #[.slice A n c, .agg #[.int .i64 (a), .int .i64 (b)], .int .i64 m] w fun e w' => e = .returned (.tuple #[.slice none 0 0, .bool false]) ∧ Below w.heap.size w w') ∨
    (∃ (qs : List QP) (cy : List Rat) (P : Nat), ps = qs.map qp ∧ cyO ps a b m = some cy ∧ Cyc qs cy P ∧ ∀ w : World, w.ownsRow base 62 4 (.slice A n c) n (ptcs ps) → Calls Try.prog 111 #[.slice A n c, .agg #[.int .i64 (a), .int .i64 (b)], .int .i64 m] w fun e w' =>
      ∃ gs d : Nat, e = .returned (.tuple #[.slice (some ⟨gs, 0, none⟩) P d, .bool true]) ∧ w.heap.size ≤ gs ∧ RCells w' gs P cy ∧ Below w.heap.size w w') := by
  have hlc := fun W hW => iLimitCycle_any A n c base ps a b m W hW hn
  rcases hp : peO ps a b m with _ | ⟨pa, pb⟩
  · refine .inl ⟨cyO_none hp, fun w ha => ?_⟩
    rw [lcO_none hp] at hlc
    have HL := hide hlc; have HA := hide ha
    clear hlc ha hp
    go_enter Try.func111, Try.ntmps111
    go_upto_region 2 with (go_at_call 147; (with_reducible refine ((unhide HL) _ (own_below (unhide HA) ?pb)).mono ?_); (case pb => exact (by repeat (first | with_reducible exact Below.refl _ _ | with_reducible assumption | (with_reducible refine Below.trans ?_ (Below.mono (by assumption) (by first | omega | (simp <;> omega)))) | with_reducible apply Below.drew | with_reducible apply below_drewN | (with_reducible refine Below.alloc ?_ (by first | omega | (simp <;> omega)) _) | (with_reducible refine Below.setCell ?_ (by first | omega | (simp <;> omega)) _)))); rintro e w1 ⟨⟨A1, d1, rfl, hown⟩, hbw1⟩; have hs1 := hbw1.size; (skip; (try ((have kw1w0 := (bnew hbw1) (w.heap.size) ?pf); (case pf => (first | omega | (simp; done) | (simp; omega))); obtain ⟨kcw1w0, kfw1w0, klw1w0⟩ := kw1w0))); have HOW := hide hown; clear hown)
    have hb : Below w.heap.size w w1 := (by repeat (first | with_reducible exact Below.refl _ _ | with_reducible assumption | (with_reducible refine Below.trans ?_ (Below.mono (by assumption) (by first | omega | (simp <;> omega)))) | with_reducible apply Below.drew | with_reducible apply below_drewN | (with_reducible refine Below.alloc ?_ (by first | omega | (simp <;> omega)) _) | (with_reducible refine Below.setCell ?_ (by first | omega | (simp <;> omega)) _)))
    have HB := hide hb
    clear hb hbw1
    go_cut [25] (fun s25 wx => s25 = .bool true ∧ Below w1.heap.size w1 wx)
    case first =>
      refine wp_region_held_drew (S := (fun w' => True)) (by kernel_rfl) ?_ (fun hHeld => ?_)
      · ((try dsimp only); done)
      refine wpAnyH_take (i := 0) (oi := _) (v := ?_) (op_at rfl rfl) (by kernel_rfl) (by kernel_rfl) (by kernel_rfl) (fun _ _ _ h => h) (Or.inl ⟨by kernel_rfl, ?_⟩) hHeld ?_
      rotate_left
      · (intro w hSw; (try dsimp only at hSw); go_simp) <;> with_reducible rfl
      try simp only [Act.put, List.setIfInBounds_toArray, List.set_cons_zero, List.set_cons_succ]
      refine wpAnyH_take (i := 1) (oi := _) (v := ?_) (op_at rfl rfl) (by kernel_rfl) (by kernel_rfl) (by kernel_rfl) (fun _ _ _ h => h) (Or.inl ⟨by kernel_rfl, ?_⟩) hHeld ?_
      rotate_left
      · (intro w hSw; (try dsimp only at hSw); go_simp) <;> with_reducible rfl
      try simp only [Act.put, List.setIfInBounds_toArray, List.set_cons_zero, List.set_cons_succ]
      refine wpAnyH_take (i := 2) (oi := _) (v := ?_) (op_at rfl rfl) (by kernel_rfl) (by kernel_rfl) (by kernel_rfl) (fun _ _ _ h => h) (Or.inl ⟨by kernel_rfl, ?_⟩) hHeld ?_
      rotate_left
      · (intro w hSw; (try dsimp only at hSw); go_simp) <;> with_reducible rfl
      try simp only [Act.put, List.setIfInBounds_toArray, List.set_cons_zero, List.set_cons_succ]
      refine wpAnyH_take (i := 3) (oi := _) (v := undef) (op_at rfl rfl) (by kernel_rfl) (by kernel_rfl) (by kernel_rfl) (fun _ _ _ h => h) (Or.inr ⟨by kernel_rfl, rfl⟩) hHeld ?_
      try simp only [Act.put, List.setIfInBounds_toArray, List.set_cons_zero, List.set_cons_succ]
      refine wpAnyH_take (i := 4) (oi := _) (v := undef) (op_at rfl rfl) (by kernel_rfl) (by kernel_rfl) (by kernel_rfl) (fun _ _ _ h => h) (Or.inr ⟨by kernel_rfl, rfl⟩) hHeld ?_
      try simp only [Act.put, List.setIfInBounds_toArray, List.set_cons_zero, List.set_cons_succ]
      refine wpAnyH_take (i := 5) (oi := _) (v := undef) (op_at rfl rfl) (by kernel_rfl) (by kernel_rfl) (by kernel_rfl) (fun _ _ _ h => h) (Or.inr ⟨by kernel_rfl, rfl⟩) hHeld ?_
      try simp only [Act.put, List.setIfInBounds_toArray, List.set_cons_zero, List.set_cons_succ]
      refine wpAnyH_take (i := 6) (oi := _) (v := undef) (op_at rfl rfl) (by kernel_rfl) (by kernel_rfl) (by kernel_rfl) (fun _ _ _ h => h) (Or.inr ⟨by kernel_rfl, rfl⟩) hHeld ?_
      try simp only [Act.put, List.setIfInBounds_toArray, List.set_cons_zero, List.set_cons_succ]
      refine wpAnyH_take (i := 7) (oi := _) (v := undef) (op_at rfl rfl) (by kernel_rfl) (by kernel_rfl) (by kernel_rfl) (fun _ _ _ h => h) (Or.inr ⟨by kernel_rfl, rfl⟩) hHeld ?_
      try simp only [Act.put, List.setIfInBounds_toArray, List.set_cons_zero, List.set_cons_succ]
      refine wpAnyH_take (i := 8) (oi := _) (v := ?_) (op_at rfl rfl) (by kernel_rfl) (by kernel_rfl) (by kernel_rfl) (fun _ _ _ h => h) (Or.inl ⟨by kernel_rfl, ?_⟩) hHeld ?_
      rotate_left
      · (intro w hSw; (try dsimp only at hSw); go_simp) <;> with_reducible rfl
      try simp only [Act.put, List.setIfInBounds_toArray, List.set_cons_zero, List.set_cons_succ]
      refine wpAnyH_done (by kernel_rfl) ?_ _
      all_goals
        go_wp2_with fail
        go_meet
        exact ⟨rfl, (by repeat (first | with_reducible exact Below.refl _ _ | with_reducible assumption | (with_reducible refine Below.trans ?_ (Below.mono (by assumption) (by first | omega | (simp <;> omega)))) | with_reducible apply Below.drew | with_reducible apply below_drewN | (with_reducible refine Below.alloc ?_ (by first | omega | (simp <;> omega)) _) | (with_reducible refine Below.setCell ?_ (by first | omega | (simp <;> omega)) _)))⟩
    case rest =>
    obtain ⟨rfl, hbwc⟩ := hcut
    have hb := unhide HB
    have hsb := hb.size
    go_wp2_with fail
    go_ret2
    exact ⟨rfl, (by repeat (first | with_reducible exact Below.refl _ _ | with_reducible assumption | (with_reducible refine Below.trans ?_ (Below.mono (by assumption) (by first | omega | (simp <;> omega)))) | with_reducible apply Below.drew | with_reducible apply below_drewN | (with_reducible refine Below.alloc ?_ (by first | omega | (simp <;> omega)) _) | (with_reducible refine Below.setCell ?_ (by first | omega | (simp <;> omega)) _)))⟩
  · rcases orb_cases ps a b m with ⟨_, _, ho⟩ | ⟨qs, x, k, rfl, hg, rfl, rfl, hx, rfl, hk, hr, _, ⟨_, _, ho⟩ | ⟨hO, ho⟩⟩
    · rw [peO_none ho] at hp; cases hp
    · rw [peO_none ho] at hp; cases hp
    · rw [peO_some ho] at hp
      have hC := cyc_of hO hp
      rw [lcO_some ho hp] at hlc
      simp only [Option.getD_some, Option.isSome_some] at hlc
      have hP := hC.lo
      have hP0 : 0 < pb := hP
      have hlx : (run qs k x).getD 0 0 = x := run_head qs k x
      have hfirst : (cyL (run qs k x) (pa, pb)).getD 0 0 = (run qs k x).getD pa 0 := by rw [cyL_get hP]; rfl
      obtain ⟨_, _, _, _, hpab, hpne⟩ := per_parts hO hp
      by_cases h0 : pa = 0
      · subst h0
        rw [cyO_some ho hp, if_pos rfl]
        refine .inr ⟨qs, _, pb, rfl, rfl, hC, fun w ha => ?_⟩
        have hf : (cyL (run qs k x) (0, pb)).getD 0 0 = x := by rw [hfirst, hlx]
        have hlen := hC.len
        have HL := hide hlc; have HA := hide ha
        clear hlc ha hp ho hC hr hO hg hlx hfirst hpab hpne
        generalize cyL (run qs k x) (0, pb) = cy at *
        obtain ⟨xn, hxn⟩ : ∃ r, r = x.num := ⟨_, rfl⟩
        obtain ⟨xd, hxd⟩ : ∃ r, r = (x.den : Int) := ⟨_, rfl⟩
        rw [← hxn, ← hxd] at HL ⊢
        have HXF := Lib.hid (And.intro hxn (And.intro hxd hf)); clear hxn hxd hf
        go_enter Try.func111, Try.ntmps111
        go_upto_region 2 with (go_at_call 147; (with_reducible refine ((unhide HL) _ (own_below (unhide HA) ?pb)).mono ?_); (case pb => exact (by repeat (first | with_reducible exact Below.refl _ _ | with_reducible assumption | (with_reducible refine Below.trans ?_ (Below.mono (by assumption) (by first | omega | (simp <;> omega)))) | with_reducible apply Below.drew | with_reducible apply below_drewN | (with_reducible refine Below.alloc ?_ (by first | omega | (simp <;> omega)) _) | (with_reducible refine Below.setCell ?_ (by first | omega | (simp <;> omega)) _)))); rintro e w1 ⟨⟨A1, d1, rfl, hown⟩, hbw1⟩; rw [List.length_map, hlen] at hown ⊢; have hs1 := hbw1.size; (skip; (try ((have kw1w0 := (bnew hbw1) (w.heap.size) ?pf); (case pf => (first | omega | (simp; done) | (simp; omega))); obtain ⟨kcw1w0, kfw1w0, klw1w0⟩ := kw1w0))); obtain ⟨gs, hgs0⟩ := own_form0 hown (by omega); subst hgs0; have hlo := (hown.lt gs rfl).1; have hrc := rcells_own hown; clear hown)
        have c0 : w1.cell? ⟨gs, 0, none⟩ = some (.int .i64 xn) := by have := hrc.at0 0 (by omega); rw [HXF.out.2.2, ← HXF.out.1] at this; simpa using this
        have c1 : w1.cell? ⟨gs, 1, none⟩ = some (.int .i64 xd) := by have := hrc.at1 0 (by omega); rw [HXF.out.2.2, ← HXF.out.2.1] at this; simpa using this
        have x0 : w1.cell? ⟨w.heap.size, 0, none⟩ = some (.int .i64 xn) := by rw [kcw1w0]; simp [go_sem]
        have x1 : w1.cell? ⟨w.heap.size, 1, none⟩ = some (.int .i64 xd) := by rw [kcw1w0]; simp [go_sem]
        have hb : Below w.heap.size w w1 := (by repeat (first | with_reducible exact Below.refl _ _ | with_reducible assumption | (with_reducible refine Below.trans ?_ (Below.mono (by assumption) (by first | omega | (simp <;> omega)))) | with_reducible apply Below.drew | with_reducible apply below_drewN | (with_reducible refine Below.alloc ?_ (by first | omega | (simp <;> omega)) _) | (with_reducible refine Below.setCell ?_ (by first | omega | (simp <;> omega)) _)))
        have HB := hide hb
        have HRC := hide hrc
        have hglt := hrc.lt
        clear hb hbw1 kcw1w0 kfw1w0 hrc
        go_cut [25] (fun s25 wx => s25 = .bool false ∧ Below w1.heap.size w1 wx)
        case first =>
          refine wp_region_held_drew (S := (fun w' => w'.cell? ⟨gs, 0, none⟩ = some (.int .i64 xn) ∧ w'.cell? ⟨gs, 1, none⟩ = some (.int .i64 xd) ∧ w'.cell? ⟨w.heap.size, 0, none⟩ = some (.int .i64 xn) ∧ w'.cell? ⟨w.heap.size, 1, none⟩ = some (.int .i64 xd))) (by kernel_rfl) ?_ (fun hHeld => ?_)
          · ((try dsimp only); simp [go_sem, *])
          refine wpAnyH_take (i := 0) (oi := _) (v := ?_) (op_at rfl rfl) (by kernel_rfl) (by kernel_rfl) (by kernel_rfl) (fun _ _ _ h => h) (Or.inl ⟨by kernel_rfl, ?_⟩) hHeld ?_
          rotate_left
          · (intro w hSw; (try dsimp only at hSw); go_simp) <;> with_reducible rfl
          try simp only [Act.put, List.setIfInBounds_toArray, List.set_cons_zero, List.set_cons_succ]
          refine wpAnyH_take (i := 1) (oi := _) (v := ?_) (op_at rfl rfl) (by kernel_rfl) (by kernel_rfl) (by kernel_rfl) (fun _ _ _ h => h) (Or.inl ⟨by kernel_rfl, ?_⟩) hHeld ?_
          rotate_left
          · (intro w hSw; (try dsimp only at hSw); go_simp) <;> with_reducible rfl
          try simp only [Act.put, List.setIfInBounds_toArray, List.set_cons_zero, List.set_cons_succ]
          refine wpAnyH_take (i := 2) (oi := _) (v := ?_) (op_at rfl rfl) (by kernel_rfl) (by kernel_rfl) (by kernel_rfl) (fun _ _ _ h => h) (Or.inl ⟨by kernel_rfl, ?_⟩) hHeld ?_
          rotate_left
          · (intro w hSw; (try dsimp only at hSw); go_simp) <;> with_reducible rfl
          try simp only [Act.put, List.setIfInBounds_toArray, List.set_cons_zero, List.set_cons_succ]
          refine wpAnyH_take (i := 3) (oi := _) (v := ?_) (op_at rfl rfl) (by kernel_rfl) (by kernel_rfl) (by kernel_rfl) (fun _ _ _ h => h) (Or.inl ⟨by kernel_rfl, ?_⟩) hHeld ?_
          rotate_left
          · (intro w hSw; (try dsimp only at hSw); go_simp) <;> with_reducible rfl
          try simp only [Act.put, List.setIfInBounds_toArray, List.set_cons_zero, List.set_cons_succ]
          refine wpAnyH_take (i := 4) (oi := _) (v := ?_) (op_at rfl rfl) (by kernel_rfl) (by kernel_rfl) (by kernel_rfl) (fun _ _ _ h => h) (Or.inl ⟨by kernel_rfl, ?_⟩) hHeld ?_
          rotate_left
          · (intro w hSw; (try dsimp only at hSw); go_simp) <;> with_reducible rfl
          try simp only [Act.put, List.setIfInBounds_toArray, List.set_cons_zero, List.set_cons_succ]
          refine wpAnyH_take (i := 5) (oi := _) (v := ?_) (op_at rfl rfl) (by kernel_rfl) (by kernel_rfl) (by kernel_rfl) (fun _ _ _ h => h) (Or.inl ⟨by kernel_rfl, ?_⟩) hHeld ?_
          rotate_left
          · (intro w hSw; (try dsimp only at hSw); go_simp) <;> with_reducible rfl
          try simp only [Act.put, List.setIfInBounds_toArray, List.set_cons_zero, List.set_cons_succ]
          refine wpAnyH_take (i := 6) (oi := _) (v := ?_) (op_at rfl rfl) (by kernel_rfl) (by kernel_rfl) (by kernel_rfl) (fun _ _ _ h => h) (Or.inl ⟨by kernel_rfl, ?_⟩) hHeld ?_
          rotate_left
          · (intro w hSw; (try dsimp only at hSw); go_simp) <;> with_reducible rfl
          try simp only [Act.put, List.setIfInBounds_toArray, List.set_cons_zero, List.set_cons_succ]
          refine wpAnyH_take (i := 7) (oi := _) (v := ?_) (op_at rfl rfl) (by kernel_rfl) (by kernel_rfl) (by kernel_rfl) (fun _ _ _ h => h) (Or.inl ⟨by kernel_rfl, ?_⟩) hHeld ?_
          rotate_left
          · (intro w hSw; (try dsimp only at hSw); go_simp) <;> with_reducible rfl
          try simp only [Act.put, List.setIfInBounds_toArray, List.set_cons_zero, List.set_cons_succ]
          refine wpAnyH_take (i := 8) (oi := _) (v := ?_) (op_at rfl rfl) (by kernel_rfl) (by kernel_rfl) (by kernel_rfl) (fun _ _ _ h => h) (Or.inl ⟨by kernel_rfl, ?_⟩) hHeld ?_
          rotate_left
          · (intro w hSw; (try dsimp only at hSw); go_simp) <;> with_reducible rfl
          try simp only [Act.put, List.setIfInBounds_toArray, List.set_cons_zero, List.set_cons_succ]
          refine wpAnyH_done (by kernel_rfl) ?_ _
          all_goals
            go_wp2_with fail
            go_meet
            exact ⟨by simp, (by repeat (first | with_reducible exact Below.refl _ _ | with_reducible assumption | (with_reducible refine Below.trans ?_ (Below.mono (by assumption) (by first | omega | (simp <;> omega)))) | with_reducible apply Below.drew | with_reducible apply below_drewN | (with_reducible refine Below.alloc ?_ (by first | omega | (simp <;> omega)) _) | (with_reducible refine Below.setCell ?_ (by first | omega | (simp <;> omega)) _)))⟩
        case rest =>
        obtain ⟨rfl, hbwc⟩ := hcut
        have hb := unhide HB
        have hsb := hb.size
        have hrw := (unhide HRC).below hbwc
        go_wp2_with fail
        go_ret2
        exact ⟨gs, d1, rfl, by simp at hlo; omega, hrw, (by repeat (first | with_reducible exact Below.refl _ _ | with_reducible assumption | (with_reducible refine Below.trans ?_ (Below.mono (by assumption) (by first | omega | (simp <;> omega)))) | with_reducible apply Below.drew | with_reducible apply below_drewN | (with_reducible refine Below.alloc ?_ (by first | omega | (simp <;> omega)) _) | (with_reducible refine Below.setCell ?_ (by first | omega | (simp <;> omega)) _)))⟩
      · rw [cyO_some ho hp, if_neg h0]
        refine .inl ⟨rfl, fun w ha => ?_⟩
        have hne : (cyL (run qs k x) (pa, pb)).getD 0 0 ≠ x := by
          rw [hfirst]
          intro e
          refine hpne 0 (by omega) ?_
          rw [hlx, ← hpab, e]
        have hlen := hC.len
        have HL := hide hlc; have HA := hide ha
        clear hlc ha hp ho hC hr hO hg hlx hfirst hpab hpne
        generalize cyL (run qs k x) (pa, pb) = cy at *
        obtain ⟨xn, hxn⟩ : ∃ r, r = x.num := ⟨_, rfl⟩
        obtain ⟨xd, hxd⟩ : ∃ r, r = (x.den : Int) := ⟨_, rfl⟩
        have hsp : ((cy.getD 0 0).num = xn ∧ ¬ ((cy.getD 0 0).den : Int) = xd) ∨ ¬ (cy.getD 0 0).num = xn := by
          by_cases h1 : (cy.getD 0 0).num = xn
          · exact .inl ⟨h1, fun h => hne (eq_parts.1 ⟨h1.trans hxn, h.trans hxd⟩)⟩
          · exact .inr h1
        rw [← hxn, ← hxd] at HL ⊢
        clear hxn hxd hne
        go_enter Try.func111, Try.ntmps111
        go_upto_region 2 with (go_at_call 147; (with_reducible refine ((unhide HL) _ (own_below (unhide HA) ?pb)).mono ?_); (case pb => exact (by repeat (first | with_reducible exact Below.refl _ _ | with_reducible assumption | (with_reducible refine Below.trans ?_ (Below.mono (by assumption) (by first | omega | (simp <;> omega)))) | with_reducible apply Below.drew | with_reducible apply below_drewN | (with_reducible refine Below.alloc ?_ (by first | omega | (simp <;> omega)) _) | (with_reducible refine Below.setCell ?_ (by first | omega | (simp <;> omega)) _)))); rintro e w1 ⟨⟨A1, d1, rfl, hown⟩, hbw1⟩; rw [List.length_map, hlen] at hown ⊢; have hs1 := hbw1.size; (skip; (try ((have kw1w0 := (bnew hbw1) (w.heap.size) ?pf); (case pf => (first | omega | (simp; done) | (simp; omega))); obtain ⟨kcw1w0, kfw1w0, klw1w0⟩ := kw1w0))); obtain ⟨gs, hgs0⟩ := own_form0 hown (by omega); subst hgs0; have hrc := rcells_own hown; clear hown)
        have c0 : w1.cell? ⟨gs, 0, none⟩ = some (.int .i64 (cy.getD 0 0).num) := by have := hrc.at0 0 (by omega); simpa using this
        have c1 : w1.cell? ⟨gs, 1, none⟩ = some (.int .i64 ((cy.getD 0 0).den : Int)) := by have := hrc.at1 0 (by omega); simpa using this
        have x0 : w1.cell? ⟨w.heap.size, 0, none⟩ = some (.int .i64 xn) := by rw [kcw1w0]; simp [go_sem]
        have x1 : w1.cell? ⟨w.heap.size, 1, none⟩ = some (.int .i64 xd) := by rw [kcw1w0]; simp [go_sem]
        have hb : Below w.heap.size w w1 := (by repeat (first | with_reducible exact Below.refl _ _ | with_reducible assumption | (with_reducible refine Below.trans ?_ (Below.mono (by assumption) (by first | omega | (simp <;> omega)))) | with_reducible apply Below.drew | with_reducible apply below_drewN | (with_reducible refine Below.alloc ?_ (by first | omega | (simp <;> omega)) _) | (with_reducible refine Below.setCell ?_ (by first | omega | (simp <;> omega)) _)))
        have HB := hide hb
        have hglt := hrc.lt
        clear hb hbw1 kcw1w0 kfw1w0 hrc
        generalize (cy.getD 0 0).num = vn at *
        generalize ((cy.getD 0 0).den : Int) = vd at *
        go_cut [25] (fun s25 wx => s25 = .bool true ∧ Below w1.heap.size w1 wx)
        case first =>
          rcases hsp with ⟨hln, hd⟩ | hd
          · rw [hln] at c0
            clear hln
            refine wp_region_held_drew (S := (fun w' => w'.cell? ⟨gs, 0, none⟩ = some (.int .i64 xn) ∧ w'.cell? ⟨gs, 1, none⟩ = some (.int .i64 vd) ∧ w'.cell? ⟨w.heap.size, 0, none⟩ = some (.int .i64 xn) ∧ w'.cell? ⟨w.heap.size, 1, none⟩ = some (.int .i64 xd))) (by kernel_rfl) ?_ (fun hHeld => ?_)
            · ((try dsimp only); simp [go_sem, *])
            refine wpAnyH_take (i := 0) (oi := _) (v := ?_) (op_at rfl rfl) (by kernel_rfl) (by kernel_rfl) (by kernel_rfl) (fun _ _ _ h => h) (Or.inl ⟨by kernel_rfl, ?_⟩) hHeld ?_
            rotate_left
            · (intro w hSw; (try dsimp only at hSw); go_simp) <;> with_reducible rfl
            try simp only [Act.put, List.setIfInBounds_toArray, List.set_cons_zero, List.set_cons_succ]
            refine wpAnyH_take (i := 1) (oi := _) (v := ?_) (op_at rfl rfl) (by kernel_rfl) (by kernel_rfl) (by kernel_rfl) (fun _ _ _ h => h) (Or.inl ⟨by kernel_rfl, ?_⟩) hHeld ?_
            rotate_left
            · (intro w hSw; (try dsimp only at hSw); go_simp) <;> with_reducible rfl
            try simp only [Act.put, List.setIfInBounds_toArray, List.set_cons_zero, List.set_cons_succ]
            refine wpAnyH_take (i := 2) (oi := _) (v := ?_) (op_at rfl rfl) (by kernel_rfl) (by kernel_rfl) (by kernel_rfl) (fun _ _ _ h => h) (Or.inl ⟨by kernel_rfl, ?_⟩) hHeld ?_
            rotate_left
            · (intro w hSw; (try dsimp only at hSw); go_simp) <;> with_reducible rfl
            try simp only [Act.put, List.setIfInBounds_toArray, List.set_cons_zero, List.set_cons_succ]
            refine wpAnyH_take (i := 3) (oi := _) (v := ?_) (op_at rfl rfl) (by kernel_rfl) (by kernel_rfl) (by kernel_rfl) (fun _ _ _ h => h) (Or.inl ⟨by kernel_rfl, ?_⟩) hHeld ?_
            rotate_left
            · (intro w hSw; (try dsimp only at hSw); go_simp) <;> with_reducible rfl
            try simp only [Act.put, List.setIfInBounds_toArray, List.set_cons_zero, List.set_cons_succ]
            refine wpAnyH_take (i := 4) (oi := _) (v := ?_) (op_at rfl rfl) (by kernel_rfl) (by kernel_rfl) (by kernel_rfl) (fun _ _ _ h => h) (Or.inl ⟨by kernel_rfl, ?_⟩) hHeld ?_
            rotate_left
            · (intro w hSw; (try dsimp only at hSw); go_simp) <;> with_reducible rfl
            try simp only [Act.put, List.setIfInBounds_toArray, List.set_cons_zero, List.set_cons_succ]
            refine wpAnyH_take (i := 5) (oi := _) (v := ?_) (op_at rfl rfl) (by kernel_rfl) (by kernel_rfl) (by kernel_rfl) (fun _ _ _ h => h) (Or.inl ⟨by kernel_rfl, ?_⟩) hHeld ?_
            rotate_left
            · (intro w hSw; (try dsimp only at hSw); go_simp) <;> with_reducible rfl
            try simp only [Act.put, List.setIfInBounds_toArray, List.set_cons_zero, List.set_cons_succ]
            refine wpAnyH_take (i := 6) (oi := _) (v := ?_) (op_at rfl rfl) (by kernel_rfl) (by kernel_rfl) (by kernel_rfl) (fun _ _ _ h => h) (Or.inl ⟨by kernel_rfl, ?_⟩) hHeld ?_
            rotate_left
            · (intro w hSw; (try dsimp only at hSw); go_simp) <;> with_reducible rfl
            try simp only [Act.put, List.setIfInBounds_toArray, List.set_cons_zero, List.set_cons_succ]
            refine wpAnyH_take (i := 7) (oi := _) (v := ?_) (op_at rfl rfl) (by kernel_rfl) (by kernel_rfl) (by kernel_rfl) (fun _ _ _ h => h) (Or.inl ⟨by kernel_rfl, ?_⟩) hHeld ?_
            rotate_left
            · (intro w hSw; (try dsimp only at hSw); go_simp) <;> with_reducible rfl
            try simp only [Act.put, List.setIfInBounds_toArray, List.set_cons_zero, List.set_cons_succ]
            refine wpAnyH_take (i := 8) (oi := _) (v := ?_) (op_at rfl rfl) (by kernel_rfl) (by kernel_rfl) (by kernel_rfl) (fun _ _ _ h => h) (Or.inl ⟨by kernel_rfl, ?_⟩) hHeld ?_
            rotate_left
            · (intro w hSw; (try dsimp only at hSw); go_simp) <;> with_reducible rfl
            try simp only [Act.put, List.setIfInBounds_toArray, List.set_cons_zero, List.set_cons_succ]
            refine wpAnyH_done (by kernel_rfl) ?_ _
            all_goals
              go_wp2_with fail
              go_meet
              exact ⟨by simp [*], (by repeat (first | with_reducible exact Below.refl _ _ | with_reducible assumption | (with_reducible refine Below.trans ?_ (Below.mono (by assumption) (by first | omega | (simp <;> omega)))) | with_reducible apply Below.drew | with_reducible apply below_drewN | (with_reducible refine Below.alloc ?_ (by first | omega | (simp <;> omega)) _) | (with_reducible refine Below.setCell ?_ (by first | omega | (simp <;> omega)) _)))⟩
          · skip
            refine wp_region_held_drew (S := (fun w' => w'.cell? ⟨gs, 0, none⟩ = some (.int .i64 vn) ∧ w'.cell? ⟨gs, 1, none⟩ = some (.int .i64 vd) ∧ w'.cell? ⟨w.heap.size, 0, none⟩ = some (.int .i64 xn) ∧ w'.cell? ⟨w.heap.size, 1, none⟩ = some (.int .i64 xd))) (by kernel_rfl) ?_ (fun hHeld => ?_)
            · ((try dsimp only); simp [go_sem, *])
            refine wpAnyH_take (i := 0) (oi := _) (v := ?_) (op_at rfl rfl) (by kernel_rfl) (by kernel_rfl) (by kernel_rfl) (fun _ _ _ h => h) (Or.inl ⟨by kernel_rfl, ?_⟩) hHeld ?_
            rotate_left
            · (intro w hSw; (try dsimp only at hSw); go_simp) <;> with_reducible rfl
            try simp only [Act.put, List.setIfInBounds_toArray, List.set_cons_zero, List.set_cons_succ]
            refine wpAnyH_take (i := 1) (oi := _) (v := ?_) (op_at rfl rfl) (by kernel_rfl) (by kernel_rfl) (by kernel_rfl) (fun _ _ _ h => h) (Or.inl ⟨by kernel_rfl, ?_⟩) hHeld ?_
            rotate_left
            · (intro w hSw; (try dsimp only at hSw); go_simp) <;> with_reducible rfl
            try simp only [Act.put, List.setIfInBounds_toArray, List.set_cons_zero, List.set_cons_succ]
            refine wpAnyH_take (i := 2) (oi := _) (v := ?_) (op_at rfl rfl) (by kernel_rfl) (by kernel_rfl) (by kernel_rfl) (fun _ _ _ h => h) (Or.inl ⟨by kernel_rfl, ?_⟩) hHeld ?_
            rotate_left
            · (intro w hSw; (try dsimp only at hSw); go_simp) <;> with_reducible rfl
            try simp only [Act.put, List.setIfInBounds_toArray, List.set_cons_zero, List.set_cons_succ]
            refine wpAnyH_take (i := 3) (oi := _) (v := ?_) (op_at rfl rfl) (by kernel_rfl) (by kernel_rfl) (by kernel_rfl) (fun _ _ _ h => h) (Or.inl ⟨by kernel_rfl, ?_⟩) hHeld ?_
            rotate_left
            · (intro w hSw; (try dsimp only at hSw); go_simp) <;> with_reducible rfl
            try simp only [Act.put, List.setIfInBounds_toArray, List.set_cons_zero, List.set_cons_succ]
            refine wpAnyH_take (i := 4) (oi := _) (v := ?_) (op_at rfl rfl) (by kernel_rfl) (by kernel_rfl) (by kernel_rfl) (fun _ _ _ h => h) (Or.inl ⟨by kernel_rfl, ?_⟩) hHeld ?_
            rotate_left
            · (intro w hSw; (try dsimp only at hSw); go_simp) <;> with_reducible rfl
            try simp only [Act.put, List.setIfInBounds_toArray, List.set_cons_zero, List.set_cons_succ]
            refine wpAnyH_take (i := 5) (oi := _) (v := ?_) (op_at rfl rfl) (by kernel_rfl) (by kernel_rfl) (by kernel_rfl) (fun _ _ _ h => h) (Or.inl ⟨by kernel_rfl, ?_⟩) hHeld ?_
            rotate_left
            · (intro w hSw; (try dsimp only at hSw); go_simp) <;> with_reducible rfl
            try simp only [Act.put, List.setIfInBounds_toArray, List.set_cons_zero, List.set_cons_succ]
            refine wpAnyH_take (i := 6) (oi := _) (v := ?_) (op_at rfl rfl) (by kernel_rfl) (by kernel_rfl) (by kernel_rfl) (fun _ _ _ h => h) (Or.inl ⟨by kernel_rfl, ?_⟩) hHeld ?_
            rotate_left
            · (intro w hSw; (try dsimp only at hSw); go_simp) <;> with_reducible rfl
            try simp only [Act.put, List.setIfInBounds_toArray, List.set_cons_zero, List.set_cons_succ]
            refine wpAnyH_take (i := 7) (oi := _) (v := ?_) (op_at rfl rfl) (by kernel_rfl) (by kernel_rfl) (by kernel_rfl) (fun _ _ _ h => h) (Or.inl ⟨by kernel_rfl, ?_⟩) hHeld ?_
            rotate_left
            · (intro w hSw; (try dsimp only at hSw); go_simp) <;> with_reducible rfl
            try simp only [Act.put, List.setIfInBounds_toArray, List.set_cons_zero, List.set_cons_succ]
            refine wpAnyH_take (i := 8) (oi := _) (v := ?_) (op_at rfl rfl) (by kernel_rfl) (by kernel_rfl) (by kernel_rfl) (fun _ _ _ h => h) (Or.inl ⟨by kernel_rfl, ?_⟩) hHeld ?_
            rotate_left
            · (intro w hSw; (try dsimp only at hSw); go_simp) <;> with_reducible rfl
            try simp only [Act.put, List.setIfInBounds_toArray, List.set_cons_zero, List.set_cons_succ]
            refine wpAnyH_done (by kernel_rfl) ?_ _
            all_goals
              go_wp2_with fail
              go_meet
              exact ⟨by simp [*], (by repeat (first | with_reducible exact Below.refl _ _ | with_reducible assumption | (with_reducible refine Below.trans ?_ (Below.mono (by assumption) (by first | omega | (simp <;> omega)))) | with_reducible apply Below.drew | with_reducible apply below_drewN | (with_reducible refine Below.alloc ?_ (by first | omega | (simp <;> omega)) _) | (with_reducible refine Below.setCell ?_ (by first | omega | (simp <;> omega)) _)))⟩
        case rest =>
        obtain ⟨rfl, hbwc⟩ := hcut
        have hb := unhide HB
        have hsb := hb.size
        go_wp2_with fail
        go_ret2
        exact ⟨rfl, (by repeat (first | with_reducible exact Below.refl _ _ | with_reducible assumption | (with_reducible refine Below.trans ?_ (Below.mono (by assumption) (by first | omega | (simp <;> omega)))) | with_reducible apply Below.drew | with_reducible apply below_drewN | (with_reducible refine Below.alloc ?_ (by first | omega | (simp <;> omega)) _) | (with_reducible refine Below.setCell ?_ (by first | omega | (simp <;> omega)) _)))⟩

set_option maxRecDepth 100000 in
set_option maxHeartbeats 1600000 in
theorem orCycle_no (A : Option Addr) (n c base : Nat) (ps : List Pt) (a b m p q : Int) (z : Bool) (h : z = false ∨ 0 < p) (hpe : ∀ w : World, w.ownsRow base 62 4 (.slice A n c) n (ptcs ps) → Calls Try.prog 146 #[.slice A n c, .agg #[.int .i64 (a), .int .i64 (b)], .int .i64 m] w fun e w' => e = .returned (.tuple #[.int .i64 p, .int .i64 q, .bool z]) ∧ Below w.heap.size w w') :
    ∀ w : World, w.ownsRow base 62 4 (.slice A n c) n (ptcs ps) → Calls Try.prog 108 #[.slice A n c, .agg #[.int .i64 (a), .int .i64 (b)], .int .i64 m] w fun e w' => e = .returned (.tuple #[.slice none 0 0, .bool false]) ∧ Below w.heap.size w w' := by
  intro w ha
  have HPE := hide hpe; have HA := hide ha
  clear hpe ha
  cases z
  · clear h
    go_enter Try.func108, Try.ntmps108
    go_wp2_with (go_at_call 146; (with_reducible refine ((unhide HPE) _ (own_below (unhide HA) ?pb)).mono ?_); (case pb => exact (by repeat (first | with_reducible exact Below.refl _ _ | with_reducible assumption | (with_reducible refine Below.trans ?_ (Below.mono (by assumption) (by first | omega | (simp <;> omega)))) | with_reducible apply Below.drew | with_reducible apply below_drewN | (with_reducible refine Below.alloc ?_ (by first | omega | (simp <;> omega)) _) | (with_reducible refine Below.setCell ?_ (by first | omega | (simp <;> omega)) _)))); rintro e w2 ⟨rfl, hbw2⟩; have hs2 := hbw2.size; (skip; (try ((have kw2w0 := (bnew hbw2) (w.heap.size) ?pf); (case pf => (first | omega | (simp; done) | (simp; omega))); obtain ⟨kcw2w0, kfw2w0, klw2w0⟩ := kw2w0)); (try ((have kw2w1 := (bnew hbw2) (w.heap.size + 1) ?pf); (case pf => (first | omega | (simp; done) | (simp; omega))); obtain ⟨kcw2w1, kfw2w1, klw2w1⟩ := kw2w1))))
    go_ret2
    exact ⟨rfl, (by repeat (first | with_reducible exact Below.refl _ _ | with_reducible assumption | (with_reducible refine Below.trans ?_ (Below.mono (by assumption) (by first | omega | (simp <;> omega)))) | with_reducible apply Below.drew | with_reducible apply below_drewN | (with_reducible refine Below.alloc ?_ (by first | omega | (simp <;> omega)) _) | (with_reducible refine Below.setCell ?_ (by first | omega | (simp <;> omega)) _)))⟩
  · have h0 : 0 < p := by rcases h with h | h; cases h; exact h
    go_enter Try.func108, Try.ntmps108
    go_wp2_with (go_at_call 146; (with_reducible refine ((unhide HPE) _ (own_below (unhide HA) ?pb)).mono ?_); (case pb => exact (by repeat (first | with_reducible exact Below.refl _ _ | with_reducible assumption | (with_reducible refine Below.trans ?_ (Below.mono (by assumption) (by first | omega | (simp <;> omega)))) | with_reducible apply Below.drew | with_reducible apply below_drewN | (with_reducible refine Below.alloc ?_ (by first | omega | (simp <;> omega)) _) | (with_reducible refine Below.setCell ?_ (by first | omega | (simp <;> omega)) _)))); rintro e w2 ⟨rfl, hbw2⟩; have hs2 := hbw2.size; (skip; (try ((have kw2w0 := (bnew hbw2) (w.heap.size) ?pf); (case pf => (first | omega | (simp; done) | (simp; omega))); obtain ⟨kcw2w0, kfw2w0, klw2w0⟩ := kw2w0)); (try ((have kw2w1 := (bnew hbw2) (w.heap.size + 1) ?pf); (case pf => (first | omega | (simp; done) | (simp; omega))); obtain ⟨kcw2w1, kfw2w1, klw2w1⟩ := kw2w1))))
    go_ret2
    exact ⟨rfl, (by repeat (first | with_reducible exact Below.refl _ _ | with_reducible assumption | (with_reducible refine Below.trans ?_ (Below.mono (by assumption) (by first | omega | (simp <;> omega)))) | with_reducible apply Below.drew | with_reducible apply below_drewN | (with_reducible refine Below.alloc ?_ (by first | omega | (simp <;> omega)) _) | (with_reducible refine Below.setCell ?_ (by first | omega | (simp <;> omega)) _)))⟩

set_option maxRecDepth 100000 in
set_option maxHeartbeats 1600000 in
theorem s_cyc {A : Option Addr} {n c base : Nat} {ps : List Pt} {a b m : Int} {w0 : World} (ha0 : w0.ownsRow base 62 4 (.slice A n c) n (ptcs ps)) (hn : n ≤ 1048576) :
    (cyO ps a b m = none ∧ ∀ w : World, w.ownsRow base 62 4 (.slice A n c) n (ptcs ps) → Calls Try.prog 107 #[.slice A n c, .agg #[.int .i64 (a), .int .i64 (b)], .int .i64 m] w fun e w' => e = .returned (.bool false) ∧ Below w.heap.size w w') ∨
    (cyO ps a b m = none ∧ (∀ w : World, w.ownsRow base 62 4 (.slice A n c) n (ptcs ps) → Calls Try.prog 107 #[.slice A n c, .agg #[.int .i64 (a), .int .i64 (b)], .int .i64 m] w fun e w' => e = .returned (.bool true) ∧ Below w.heap.size w w') ∧
      ∀ w : World, w.ownsRow base 62 4 (.slice A n c) n (ptcs ps) → Calls Try.prog 108 #[.slice A n c, .agg #[.int .i64 (a), .int .i64 (b)], .int .i64 m] w fun e w' => e = .returned (.tuple #[.slice none 0 0, .bool false]) ∧ Below w.heap.size w w') ∨
    (∃ (qs : List QP) (cy : List Rat) (P : Nat), ps = qs.map qp ∧ cyO ps a b m = some cy ∧ Cyc qs cy P ∧ (∀ w : World, w.ownsRow base 62 4 (.slice A n c) n (ptcs ps) → Calls Try.prog 107 #[.slice A n c, .agg #[.int .i64 (a), .int .i64 (b)], .int .i64 m] w fun e w' => e = .returned (.bool true) ∧ Below w.heap.size w w') ∧
      ∀ w : World, w.ownsRow base 62 4 (.slice A n c) n (ptcs ps) → Calls Try.prog 108 #[.slice A n c, .agg #[.int .i64 (a), .int .i64 (b)], .int .i64 m] w fun e w' =>
        ∃ gs d : Nat, e = .returned (.tuple #[.slice (some ⟨gs, 0, none⟩) P d, .bool true]) ∧ w.heap.size ≤ gs ∧ RCells w' gs P cy ∧ Below w.heap.size w w') := by
  rcases s_cases (a := a) (b := b) (m := m) ha0 hn with ⟨ho, hr, hask⟩ | ⟨qs, x, k, L, rfl, rfl, rfl, rfl, hk, hL1, hLk, ho, hr, hl, hask, hrun⟩ | ⟨qs, x, k, rfl, rfl, rfl, rfl, hk, hO, ho, hr, hask, hrun⟩
  · exact .inl ⟨cyO_none (peO_none ho), hask⟩
  · exact .inr (.inl ⟨cyO_none (peO_none ho), hask, orCycle_no A n c base _ _ _ _ 0 0 false (.inl rfl) fun W hW => orPeriod_short A n c base (qs.map qp) x.num x.den k L W hW hLk hrun⟩)
  · have hpe := fun W hW => orPeriod_full A n c base qs x k W hW hk hO hrun
    rcases hp : perO (run qs k x) with _ | ⟨pa, pb⟩
    · rw [hp] at hpe
      exact .inr (.inl ⟨cyO_none (by rw [peO_some ho, hp]), hask, orCycle_no A n c base _ _ _ _ 0 0 false (.inl rfl) hpe⟩)
    · rw [hp] at hpe
      by_cases h0 : pa = 0
      · subst h0
        have hC := cyc_of hO hp
        refine .inr (.inr ⟨qs, _, pb, rfl, by rw [cyO_some ho hp, if_pos rfl], hC, hask, fun w ha => ?_⟩)
        obtain ⟨hb1, hab, _, _, _, _⟩ := per_parts hO hp
        have hget : ∀ i, i < pb → (cyL (run qs k x) (0, pb)).getD i 0 = (run qs k x).getD i 0 := fun i hi => by rw [cyL_get hi, Nat.zero_add]
        have HGET := hide hget
        have HPE := hide hpe; have HA := hide ha; have HR := hide hrun
        simp only [pe1, pe2, Option.isSome_some] at HPE
        clear hpe ha hrun hask hp ho hr hC hget hO
        generalize x.num = xn at *
        generalize (x.den : Int) = xd at *
        have s1 : (0 : Int) ≤ (pb : Int) := by omega
        have s2 : ((pb : Int)).toNat = pb := by omega
        go_enter Try.func108, Try.ntmps108
        go_wp2_with (first
          | (go_at_call 146; (with_reducible refine ((unhide HPE) _ (own_below (unhide HA) ?pb)).mono ?_); (case pb => exact (by repeat (first | with_reducible exact Below.refl _ _ | with_reducible assumption | (with_reducible refine Below.trans ?_ (Below.mono (by assumption) (by first | omega | (simp <;> omega)))) | with_reducible apply Below.drew | with_reducible apply below_drewN | (with_reducible refine Below.alloc ?_ (by first | omega | (simp <;> omega)) _) | (with_reducible refine Below.setCell ?_ (by first | omega | (simp <;> omega)) _)))); rintro e w2 ⟨rfl, hbw2⟩; have hs2 := hbw2.size; (skip; (try ((have kw2w0 := (bnew hbw2) (w.heap.size) ?pf); (case pf => (first | omega | (simp; done) | (simp; omega))); obtain ⟨kcw2w0, kfw2w0, klw2w0⟩ := kw2w0)); (try ((have kw2w1 := (bnew hbw2) (w.heap.size + 1) ?pf); (case pf => (first | omega | (simp; done) | (simp; omega))); obtain ⟨kcw2w1, kfw2w1, klw2w1⟩ := kw2w1))))
          | (go_at_call 54; (with_reducible refine ((unhide HR) _ (own_below (unhide HA) ?pb)).mono ?_); (case pb => exact (by repeat (first | with_reducible exact Below.refl _ _ | with_reducible assumption | (with_reducible refine Below.trans ?_ (Below.mono (by assumption) (by first | omega | (simp <;> omega)))) | with_reducible apply Below.drew | with_reducible apply below_drewN | (with_reducible refine Below.alloc ?_ (by first | omega | (simp <;> omega)) _) | (with_reducible refine Below.setCell ?_ (by first | omega | (simp <;> omega)) _)))); rintro e w3 ⟨gs, d, rfl, hown, hbw3⟩; have hs3 := hbw3.size; have hcap := own_cap hown; have s7 : (pb : Int) ≤ (d : Int) := (by omega); have hlo := (hown.lt gs rfl).1; have hrc := rcells_own hown; clear hown))
        have hrl := hrc.less (show pb ≤ k + 1 by omega)
        go_ret2
        exact ⟨gs, d, rfl, by simp at hs2; omega, ⟨hrl.lt, fun i hi => by rw [(unhide HGET) i hi]; exact hrl.at0 i hi, fun i hi => by rw [(unhide HGET) i hi]; exact hrl.at1 i hi⟩, (by repeat (first | with_reducible exact Below.refl _ _ | with_reducible assumption | (with_reducible refine Below.trans ?_ (Below.mono (by assumption) (by first | omega | (simp <;> omega)))) | with_reducible apply Below.drew | with_reducible apply below_drewN | (with_reducible refine Below.alloc ?_ (by first | omega | (simp <;> omega)) _) | (with_reducible refine Below.setCell ?_ (by first | omega | (simp <;> omega)) _)))⟩
      · exact .inr (.inl ⟨by rw [cyO_some ho hp, if_neg h0], hask, orCycle_no A n c base _ _ _ _ _ _ true (.inr (by show (0 : Int) < ((pa : Nat) : Int); omega)) hpe⟩)
end Go.Proofs.Ythccdooacbablaa

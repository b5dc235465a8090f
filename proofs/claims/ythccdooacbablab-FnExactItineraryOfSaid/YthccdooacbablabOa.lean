/-
  Chapter 4: what is asked of an orbit; OrbitOf of both.
-/
import Derived.Test.YthccdooacbablabOs
import Derived.Test.YthccdooacbablabOi
namespace Go.Proofs.Ythccdooacbablab
open Go.RowKit Rm

def askB (ps : List Pt) (a b m : Int) : Bool := mapB ps && (uB a b && decide (0 ≤ m ∧ m ≤ 60))
/-- The orbit as far as it can be computed, if a valid one is asked. -/
def runO (ps : List Pt) (a b m : Int) : Option (List Rat) := match askB ps a b m with | true => some (run (dec ps) m.toNat (Rat.divInt a b)) | false => none
/-- The whole orbit. -/
def orbO (ps : List Pt) (a b m : Int) : Option (List Rat) := (runO ps a b m).bind fun l => if l.length = m.toNat + 1 then some l else none
theorem ask_of {ps : List Pt} {a b m : Int} (h : askB ps a b m = true) : ∃ (qs : List QP) (x : Rat) (k : Nat), ps = qs.map qp ∧ GMap qs ∧ a = x.num ∧ b = (x.den : Int) ∧ Un x ∧ m = k ∧ k ≤ 60 := by
  simp only [askB, Bool.and_eq_true, decide_eq_true_eq] at h
  obtain ⟨h1, h2, h3, h4⟩ := h
  obtain ⟨qs, rfl, hg⟩ := gmap_of h1
  obtain ⟨x, rfl, rfl, hf, h0, h5⟩ := uB_rat h2
  exact ⟨qs, x, m.toNat, rfl, hg, rfl, rfl, ⟨hf, h0, h5⟩, by omega, by omega⟩
theorem ask_map {qs : List QP} {x : Rat} {k : Nat} (hg : GMap qs) (hx : Un x) (hk : k ≤ 60) : askB (qs.map qp) x.num x.den k = true := by
  unfold askB
  rw [hg.mapB, uB_un hx, decide_eq_true (by omega)]
  rfl
theorem runO_map {qs : List QP} {x : Rat} {k : Nat} (hg : GMap qs) (hx : Un x) (hk : k ≤ 60) : runO (qs.map qp) x.num x.den k = some (run qs k x) := by
  unfold runO
  rw [ask_map hg hx hk]
  simp only [dec_qp, Rat.num_divInt_den, Int.toNat_natCast]
theorem runO_no {ps : List Pt} {a b m : Int} (h : askB ps a b m = false) : runO ps a b m = none := by unfold runO; rw [h]
/-- What is known of a whole orbit. -/
structure Orb (qs : List QP) (x : Rat) (k : Nat) (l : List Rat) : Prop where
  map : GMap qs
  un : Un x
  hk : k ≤ 60
  eq : l = run qs k x
  len : l.length = k + 1
  all : ∀ i, i < k + 1 → Un (l.getD i 0)
theorem orb_cases (ps : List Pt) (a b m : Int) : (askB ps a b m = false ∧ runO ps a b m = none ∧ orbO ps a b m = none) ∨
    ∃ (qs : List QP) (x : Rat) (k : Nat), ps = qs.map qp ∧ GMap qs ∧ a = x.num ∧ b = (x.den : Int) ∧ Un x ∧ m = k ∧ k ≤ 60 ∧ runO ps a b m = some (run qs k x) ∧ askB ps a b m = true ∧
      ((1 ≤ (run qs k x).length ∧ (run qs k x).length ≤ k ∧ orbO ps a b m = none) ∨ (Orb qs x k (run qs k x) ∧ orbO ps a b m = some (run qs k x))) := by
  cases h : askB ps a b m with
  | false => exact .inl ⟨rfl, runO_no h, by unfold orbO; rw [runO_no h]; rfl⟩
  | true =>
    obtain ⟨qs, x, k, rfl, hg, rfl, rfl, hx, rfl, hk⟩ := ask_of h
    have hr := runO_map hg hx hk
    refine .inr ⟨qs, x, k, rfl, hg, rfl, rfl, hx, rfl, hk, hr, rfl, ?_⟩
    have hl := run_len qs k x
    have ho : orbO (qs.map qp) x.num x.den k = if (run qs k x).length = k + 1 then some (run qs k x) else none := by unfold orbO; rw [hr]; rfl
    by_cases hf : (run qs k x).length = k + 1
    · rw [if_pos hf] at ho
      refine .inr ⟨⟨hg, hx, hk, rfl, hf, fun i hi => ?_⟩, ho⟩
      refine run_un hg k x hx _ ?_
      rw [List.getD_eq_getElem?_getD, List.getElem?_eq_getElem (by omega)]
      exact List.getElem_mem _
    · rw [if_neg hf] at ho
      exact .inl ⟨hl.1, by omega, ho⟩

set_option maxRecDepth 100000 in
set_option maxHeartbeats 1600000 in
theorem orbit_no (A : Option Addr) (n c base : Nat) (ps : List Pt) (a b m : Int) (w : World) (ha : w.ownsRow base 45 4 (.slice A n c) n (ptcs ps)) (hn : n ≤ 1048576) (h : askB ps a b m = false) :
    Calls Try.prog 47 #[.slice A n c, .agg #[.int .i64 (a), .int .i64 (b)], .int .i64 m] w fun e w' => e = .returned (.tuple #[.slice none 0 0, .bool false]) ∧ Below w.heap.size w w' := by
  have hmap := fun W hW => isMap_any A n c base ps W hW hn
  have hun := fun W => isUnit_any a b W
  have HM := hide hmap; have HU := hide hun; have HA := hide ha
  clear hmap hun ha
  cases hm : mapB ps with
  | false =>
    rw [hm] at HM
    go_enter Try.func47, Try.ntmps47
    go_wp2
    go_step3
    go_wp2_with (go_at_call 46; (with_reducible refine ((unhide HM) _ (own_below (unhide HA) ?pb)).mono ?_); (case pb => exact (by repeat (first | with_reducible exact Below.refl _ _ | with_reducible assumption | (with_reducible refine Below.trans ?_ (Below.mono (by assumption) (by first | omega | (simp <;> omega)))) | with_reducible apply Below.drew | with_reducible apply below_drewN | (with_reducible refine Below.alloc ?_ (by first | omega | (simp <;> omega)) _) | (with_reducible refine Below.setCell ?_ (by first | omega | (simp <;> omega)) _)))); rintro e w1 ⟨rfl, hbw1⟩; (skip; (try ((have kw1w0 := (bnew hbw1) (w.heap.size) ?pf); (case pf => (first | omega | (simp; done) | (simp; omega))); obtain ⟨kcw1w0, kfw1w0, klw1w0⟩ := kw1w0))))
    try rw [Exit.noGoto_ret]
    go_ret2
    exact ⟨rfl, (by repeat (first | with_reducible exact Below.refl _ _ | with_reducible assumption | (with_reducible refine Below.trans ?_ (Below.mono (by assumption) (by first | omega | (simp <;> omega)))) | with_reducible apply Below.drew | with_reducible apply below_drewN | (with_reducible refine Below.alloc ?_ (by first | omega | (simp <;> omega)) _) | (with_reducible refine Below.setCell ?_ (by first | omega | (simp <;> omega)) _)))⟩
  | true =>
    rw [hm] at HM
    cases hu : uB a b with
    | false =>
      rw [hu] at HU
      go_enter Try.func47, Try.ntmps47
      go_wp2
      go_step3
      go_wp2_with (first | (go_at_call 46; (with_reducible refine ((unhide HM) _ (own_below (unhide HA) ?pb)).mono ?_); (case pb => exact (by repeat (first | with_reducible exact Below.refl _ _ | with_reducible assumption | (with_reducible refine Below.trans ?_ (Below.mono (by assumption) (by first | omega | (simp <;> omega)))) | with_reducible apply Below.drew | with_reducible apply below_drewN | (with_reducible refine Below.alloc ?_ (by first | omega | (simp <;> omega)) _) | (with_reducible refine Below.setCell ?_ (by first | omega | (simp <;> omega)) _)))); rintro e w1 ⟨rfl, hbw1⟩; (skip; (try ((have kw1w0 := (bnew hbw1) (w.heap.size) ?pf); (case pf => (first | omega | (simp; done) | (simp; omega))); obtain ⟨kcw1w0, kfw1w0, klw1w0⟩ := kw1w0)))) | (go_at_call 55; (with_reducible refine ((unhide HU) _).mono ?_); rintro e w2 ⟨rfl, hbw2⟩; obtain ⟨hcw2, hfw2⟩ := bcell hbw2; have hzw2 := hbw2.size; (try simp at hzw2); (try ((have kw2w0 := (bnew hbw2) (w.heap.size) ?pf); (case pf => (first | omega | (simp; done) | (simp; omega))); obtain ⟨kcw2w0, kfw2w0, klw2w0⟩ := kw2w0))))
      try rw [Exit.noGoto_ret]
      go_ret2
      exact ⟨rfl, (by repeat (first | with_reducible exact Below.refl _ _ | with_reducible assumption | (with_reducible refine Below.trans ?_ (Below.mono (by assumption) (by first | omega | (simp <;> omega)))) | with_reducible apply Below.drew | with_reducible apply below_drewN | (with_reducible refine Below.alloc ?_ (by first | omega | (simp <;> omega)) _) | (with_reducible refine Below.setCell ?_ (by first | omega | (simp <;> omega)) _)))⟩
    | true =>
      rw [hu] at HU
      have hb : ¬ (0 ≤ m ∧ m ≤ 60) := by
        intro h1
        unfold askB at h
        rw [hm, hu, decide_eq_true h1] at h
        cases h
      clear h hm hu
      by_cases h0 : m < 0
      · go_enter Try.func47, Try.ntmps47
        go_wp2
        go_step3
        go_wp2_with (first | (go_at_call 46; (with_reducible refine ((unhide HM) _ (own_below (unhide HA) ?pb)).mono ?_); (case pb => exact (by repeat (first | with_reducible exact Below.refl _ _ | with_reducible assumption | (with_reducible refine Below.trans ?_ (Below.mono (by assumption) (by first | omega | (simp <;> omega)))) | with_reducible apply Below.drew | with_reducible apply below_drewN | (with_reducible refine Below.alloc ?_ (by first | omega | (simp <;> omega)) _) | (with_reducible refine Below.setCell ?_ (by first | omega | (simp <;> omega)) _)))); rintro e w1 ⟨rfl, hbw1⟩; (skip; (try ((have kw1w0 := (bnew hbw1) (w.heap.size) ?pf); (case pf => (first | omega | (simp; done) | (simp; omega))); obtain ⟨kcw1w0, kfw1w0, klw1w0⟩ := kw1w0)))) | (go_at_call 55; (with_reducible refine ((unhide HU) _).mono ?_); rintro e w2 ⟨rfl, hbw2⟩; obtain ⟨hcw2, hfw2⟩ := bcell hbw2; have hzw2 := hbw2.size; (try simp at hzw2); (try ((have kw2w0 := (bnew hbw2) (w.heap.size) ?pf); (case pf => (first | omega | (simp; done) | (simp; omega))); obtain ⟨kcw2w0, kfw2w0, klw2w0⟩ := kw2w0))))
        try rw [Exit.noGoto_ret]
        go_ret2
        exact ⟨rfl, (by repeat (first | with_reducible exact Below.refl _ _ | with_reducible assumption | (with_reducible refine Below.trans ?_ (Below.mono (by assumption) (by first | omega | (simp <;> omega)))) | with_reducible apply Below.drew | with_reducible apply below_drewN | (with_reducible refine Below.alloc ?_ (by first | omega | (simp <;> omega)) _) | (with_reducible refine Below.setCell ?_ (by first | omega | (simp <;> omega)) _)))⟩
      · have h1 : 60 < m := by omega
        go_enter Try.func47, Try.ntmps47
        go_wp2
        go_step3
        go_wp2_with (first | (go_at_call 46; (with_reducible refine ((unhide HM) _ (own_below (unhide HA) ?pb)).mono ?_); (case pb => exact (by repeat (first | with_reducible exact Below.refl _ _ | with_reducible assumption | (with_reducible refine Below.trans ?_ (Below.mono (by assumption) (by first | omega | (simp <;> omega)))) | with_reducible apply Below.drew | with_reducible apply below_drewN | (with_reducible refine Below.alloc ?_ (by first | omega | (simp <;> omega)) _) | (with_reducible refine Below.setCell ?_ (by first | omega | (simp <;> omega)) _)))); rintro e w1 ⟨rfl, hbw1⟩; (skip; (try ((have kw1w0 := (bnew hbw1) (w.heap.size) ?pf); (case pf => (first | omega | (simp; done) | (simp; omega))); obtain ⟨kcw1w0, kfw1w0, klw1w0⟩ := kw1w0)))) | (go_at_call 55; (with_reducible refine ((unhide HU) _).mono ?_); rintro e w2 ⟨rfl, hbw2⟩; obtain ⟨hcw2, hfw2⟩ := bcell hbw2; have hzw2 := hbw2.size; (try simp at hzw2); (try ((have kw2w0 := (bnew hbw2) (w.heap.size) ?pf); (case pf => (first | omega | (simp; done) | (simp; omega))); obtain ⟨kcw2w0, kfw2w0, klw2w0⟩ := kw2w0))))
        try rw [Exit.noGoto_ret]
        go_ret2
        exact ⟨rfl, (by repeat (first | with_reducible exact Below.refl _ _ | with_reducible assumption | (with_reducible refine Below.trans ?_ (Below.mono (by assumption) (by first | omega | (simp <;> omega)))) | with_reducible apply Below.drew | with_reducible apply below_drewN | (with_reducible refine Below.alloc ?_ (by first | omega | (simp <;> omega)) _) | (with_reducible refine Below.setCell ?_ (by first | omega | (simp <;> omega)) _)))⟩
/-- orbitInSize, at any arguments. -/
theorem inSize_any (A : Option Addr) (n c base : Nat) (ps : List Pt) (a b m : Int) (w : World) (ha : w.ownsRow base 45 4 (.slice A n c) n (ptcs ps)) (hn : n ≤ 1048576) :
    Calls Try.prog 47 #[.slice A n c, .agg #[.int .i64 (a), .int .i64 (b)], .int .i64 m] w fun e w' => GivesR w.heap.size (((runO ps a b m).getD []).map qf) (runO ps a b m).isSome e w' ∧ Below w.heap.size w w' := by
  rcases orb_cases ps a b m with ⟨h1, h2, h3⟩ | ⟨qs, x, k, rfl, hg, rfl, rfl, hx, rfl, hk, hr, _, _⟩
  · rw [h2]
    refine (orbit_no A n c base ps a b m w ha hn h1).mono ?_
    rintro e w' ⟨rfl, hb⟩
    exact ⟨⟨none, 0, rfl, World.ownsRow_nil _ _ _ _⟩, hb⟩
  · rw [hr]
    have hlen : qs.length = n := by have := own_len ha; rw [List.length_map] at this; exact this
    obtain ⟨g, hA⟩ := own_form0 ha (by have := hg.lo; omega)
    subst hA
    exact orbit_map g n c base qs x k w ha hg hx hk hn

set_option maxRecDepth 100000 in
set_option maxHeartbeats 1600000 in
theorem iOrbitOf_any (A : Option Addr) (n c base : Nat) (ps : List Pt) (a b m : Int) (w : World) (ha : w.ownsRow base 45 4 (.slice A n c) n (ptcs ps)) (hn : n ≤ 1048576) :
    Calls Try.prog 32 #[.slice A n c, .agg #[.int .i64 (a), .int .i64 (b)], .int .i64 m] w fun e w' => GivesR w.heap.size (((orbO ps a b m).getD []).map qf) (orbO ps a b m).isSome e w' ∧ Below w.heap.size w w' := by
  have hin := fun W hW => inSize_any A n c base ps a b m W hW hn
  rcases orb_cases ps a b m with ⟨h1, h2, h3⟩ | ⟨qs, x, k, rfl, hg, rfl, rfl, hx, rfl, hk, hr, _, ⟨hl1, hl, ho⟩ | ⟨hO, ho⟩⟩
  · rw [h2] at hin
    rw [h3]
    have HI := hide hin; have HA := hide ha
    clear hin ha h1 h2 h3
    go_enter Try.func32, Try.ntmps32
    go_wp2_with (go_at_call 47; (with_reducible refine ((unhide HI) _ (own_below (unhide HA) ?pb)).mono ?_); (case pb => exact (by repeat (first | with_reducible exact Below.refl _ _ | with_reducible assumption | (with_reducible refine Below.trans ?_ (Below.mono (by assumption) (by first | omega | (simp <;> omega)))) | with_reducible apply Below.drew | with_reducible apply below_drewN | (with_reducible refine Below.alloc ?_ (by first | omega | (simp <;> omega)) _) | (with_reducible refine Below.setCell ?_ (by first | omega | (simp <;> omega)) _)))); rintro e w1 ⟨⟨A1, d1, rfl, hown⟩, hbw1⟩; (skip; (try ((have kw1w0 := (bnew hbw1) (w.heap.size) ?pf); (case pf => (first | omega | (simp; done) | (simp; omega))); obtain ⟨kcw1w0, kfw1w0, klw1w0⟩ := kw1w0))))
    go_ret2
    exact ⟨⟨none, 0, rfl, World.ownsRow_nil _ _ _ _⟩, (by repeat (first | with_reducible exact Below.refl _ _ | with_reducible assumption | (with_reducible refine Below.trans ?_ (Below.mono (by assumption) (by first | omega | (simp <;> omega)))) | with_reducible apply Below.drew | with_reducible apply below_drewN | (with_reducible refine Below.alloc ?_ (by first | omega | (simp <;> omega)) _) | (with_reducible refine Below.setCell ?_ (by first | omega | (simp <;> omega)) _)))⟩
  · rw [hr] at hin
    rw [ho]
    have HI := hide hin; have HA := hide ha
    clear hin ha hr ho
    simp only [Option.getD_some, Option.isSome_some] at HI
    generalize x.num = xn at *
    generalize (x.den : Int) = xd at *
    have hw : (run qs k x).length < k + 1 := by omega
    generalize hL : (run qs k x).map qf = L at *
    have hLl : L.length = (run qs k x).length := by rw [← hL]; simp
    rw [← hLl] at hl1 hl hw
    clear hLl hL
    go_enter Try.func32, Try.ntmps32
    go_wp2_with (go_at_call 47; (with_reducible refine ((unhide HI) _ (own_below (unhide HA) ?pb)).mono ?_); (case pb => exact (by repeat (first | with_reducible exact Below.refl _ _ | with_reducible assumption | (with_reducible refine Below.trans ?_ (Below.mono (by assumption) (by first | omega | (simp <;> omega)))) | with_reducible apply Below.drew | with_reducible apply below_drewN | (with_reducible refine Below.alloc ?_ (by first | omega | (simp <;> omega)) _) | (with_reducible refine Below.setCell ?_ (by first | omega | (simp <;> omega)) _)))); rintro e w1 ⟨⟨A1, d1, rfl, hown⟩, hbw1⟩; (skip; (try ((have kw1w0 := (bnew hbw1) (w.heap.size) ?pf); (case pf => (first | omega | (simp; done) | (simp; omega))); obtain ⟨kcw1w0, kfw1w0, klw1w0⟩ := kw1w0))))
    go_ret2
    exact ⟨⟨none, 0, rfl, World.ownsRow_nil _ _ _ _⟩, (by repeat (first | with_reducible exact Below.refl _ _ | with_reducible assumption | (with_reducible refine Below.trans ?_ (Below.mono (by assumption) (by first | omega | (simp <;> omega)))) | with_reducible apply Below.drew | with_reducible apply below_drewN | (with_reducible refine Below.alloc ?_ (by first | omega | (simp <;> omega)) _) | (with_reducible refine Below.setCell ?_ (by first | omega | (simp <;> omega)) _)))⟩
  · rw [hr] at hin
    rw [ho]
    have hlen := hO.len
    have HI := hide hin; have HA := hide ha
    clear hin ha hr ho hO
    simp only [Option.getD_some, Option.isSome_some] at HI ⊢
    generalize x.num = xn at *
    generalize (x.den : Int) = xd at *
    generalize hL : (run qs k x).map qf = L at *
    have hLl : L.length = k + 1 := by rw [← hL]; simpa using hlen
    have HL := Lib.hid hLl
    clear hL hlen hLl
    go_enter Try.func32, Try.ntmps32
    go_wp2_with (go_at_call 47; (with_reducible refine ((unhide HI) _ (own_below (unhide HA) ?pb)).mono ?_); (case pb => exact (by repeat (first | with_reducible exact Below.refl _ _ | with_reducible assumption | (with_reducible refine Below.trans ?_ (Below.mono (by assumption) (by first | omega | (simp <;> omega)))) | with_reducible apply Below.drew | with_reducible apply below_drewN | (with_reducible refine Below.alloc ?_ (by first | omega | (simp <;> omega)) _) | (with_reducible refine Below.setCell ?_ (by first | omega | (simp <;> omega)) _)))); rintro e w1 ⟨⟨A1, d1, rfl, hown⟩, hbw1⟩; rw [HL.out] at hown ⊢; have HO1 := hide hown; clear hown; (skip; (try ((have kw1w0 := (bnew hbw1) (w.heap.size) ?pf); (case pf => (first | omega | (simp; done) | (simp; omega))); obtain ⟨kcw1w0, kfw1w0, klw1w0⟩ := kw1w0))))
    have ho := unhide HO1
    go_ret2
    exact ⟨⟨A1, d1, by rw [HL.out]; rfl, by rw [HL.out]; exact ho.mono (by simp)⟩, (by repeat (first | with_reducible exact Below.refl _ _ | with_reducible assumption | (with_reducible refine Below.trans ?_ (Below.mono (by assumption) (by first | omega | (simp <;> omega)))) | with_reducible apply Below.drew | with_reducible apply below_drewN | (with_reducible refine Below.alloc ?_ (by first | omega | (simp <;> omega)) _) | (with_reducible refine Below.setCell ?_ (by first | omega | (simp <;> omega)) _)))⟩

end Go.Proofs.Ythccdooacbablab

/-
  Chapter 4: LimitCycle of both; the cycle of a fraction that is met again.
-/
import Derived.Test.YthccdooacbablaaOq
import Derived.Test.YthccdooacbablaaRs
namespace Go.Proofs.Ythccdooacbablaa
open Go.RowKit Rm

/-- The cycle of an orbit. -/
def cyL (l : List Rat) (r : Nat × Nat) : List Rat := (l.drop r.1).take r.2
def lcO (ps : List Pt) (a b m : Int) : Option (List Rat) := (orbO ps a b m).bind fun l => (perO l).map (cyL l)
theorem lcO_none {ps : List Pt} {a b m : Int} (h : peO ps a b m = none) : lcO ps a b m = none := by
  unfold peO at h
  unfold lcO
  cases ho : orbO ps a b m with
  | none => rfl
  | some l =>
    rw [ho] at h
    have h' : perO l = none := h
    show (perO l).map (cyL l) = none
    rw [h']; rfl
theorem lcO_some {ps : List Pt} {a b m : Int} {l : List Rat} {r : Nat × Nat} (ho : orbO ps a b m = some l) (h : perO l = some r) : lcO ps a b m = some (cyL l r) := by
  unfold lcO; rw [ho]
  show (perO l).map (cyL l) = _
  rw [h]; rfl
theorem cyL_len {l : List Rat} {a b : Nat} (h : a + b ≤ l.length) : (cyL l (a, b)).length = b := by
  unfold cyL; simp; omega
theorem cyL_get {l : List Rat} {a b i : Nat} (hi : i < b) : (cyL l (a, b)).getD i 0 = l.getD (a + i) 0 := by
  unfold cyL
  simp only [List.getD_eq_getElem?_getD, List.getElem?_take, if_pos hi, List.getElem?_drop]
theorem cyL_take {l : List Rat} {a b : Nat} : cyL (l.take (a + b + 1)) (a, b) = cyL l (a, b) := by
  unfold cyL
  show ((l.take (a + b + 1)).drop a).take b = (l.drop a).take b
  rw [List.drop_take, List.take_take, show min b (a + b + 1 - a) = b by omega]
/-- What is known where an orbit has a period. -/
theorem per_parts {qs : List QP} {x : Rat} {k a b : Nat} (hO : Orb qs x k (run qs k x)) (h : perO (run qs k x) = some (a, b)) : 1 ≤ b ∧ a + b ≤ k ∧ Orb qs x (a + b) (run qs (a + b) x) ∧ run qs (a + b) x = (run qs k x).take (a + b + 1) ∧ (run qs k x).getD a 0 = (run qs k x).getD (a + b) 0 ∧ ∀ t, t < a → (run qs k x).getD t 0 ≠ (run qs k x).getD (a + b) 0 := by
  unfold perO at h
  obtain ⟨h1, h2, h3, _⟩ := perK_bd h
  rw [hO.len] at h2
  obtain ⟨i1, i2, i3⟩ := ixOf_lt _ _ _ h3
  have ht := run_take qs k (a + b) x (by omega) hO.len
  have hk := hO.hk
  refine ⟨h1, by omega, ⟨hO.map, hO.un, by omega, rfl, ?_, fun i hi => ?_⟩, ht, ?_, fun t ht' => ?_⟩
  · rw [ht, List.length_take, hO.len]; omega
  · rw [ht, getD_take hi]; exact hO.all i (by omega)
  · rw [getD_take (by omega)] at i2; exact i2
  · have := i3 t ht'; rw [getD_take (by omega)] at this; exact this
theorem orb_full {qs : List QP} {x : Rat} {k : Nat} (hO : Orb qs x k (run qs k x)) : orbO (qs.map qp) x.num x.den k = some (run qs k x) := by
  unfold orbO
  rw [runO_map hO.map hO.un hO.hk]
  show (if _ then _ else _) = _
  rw [if_pos (by rw [hO.len]; simp)]

set_option maxRecDepth 100000 in
set_option maxHeartbeats 800000 in
theorem clone_any (gs o p d : Nat) (news : List Value) (w : World) (hl : ∀ W : World, Below w.heap.size w W → Lies W (.slice (some ⟨gs, o, none⟩) p d) p news) (hlen : news.length = p * 2) (h1 : ∀ u ∈ news, u.oneCell' = true) (hp : p ≤ 1000) :
    Calls Try.prog 168 #[.slice (some ⟨gs, o, none⟩) p d] w fun e w' => ∃ (A : Option Addr) (c : Nat), e = .returned (.slice A p c) ∧ w'.ownsRow w.heap.size 26 2 (.slice A p c) p news ∧ Below w.heap.size w w' := by
  obtain ⟨i0, hi0, hz0, hz1, hz2⟩ := info_parts iRat
  have HL := hide hl; have HLN := Lib.hid hlen; have H1 := hide h1
  clear hl hlen h1
  have he : ∀ W : World, (binOp .eql 76 (.slice (some ⟨gs, o, none⟩) p d) (.slice none 0 0)).run Try.prog W = .ok (.bool false) W := fun _ => rfl
  go_enter Try.func168, Try.ntmps168
  go_wp2_with (at_builtin; refine wpList_append_any rfl _ _ _ rfl w.heap.size 26 i0 _ 2 16 Try.underlying76 hi0 hz0 hz1 hz2 rfl (by omega) (.slice (some ⟨w.heap.size, 0, none⟩) 0 0) 0 [] rfl (lit0 _ _ _ _ rfl (Nat.le_refl _)) _ p news rfl ((unhide HL) _ (show Below w.heap.size w _ from (by repeat (first | with_reducible exact Below.refl _ _ | with_reducible assumption | (with_reducible refine Below.trans ?_ (Below.mono (by assumption) (by first | omega | (simp <;> omega)))) | with_reducible apply Below.drew | with_reducible apply below_drewN | (with_reducible refine Below.alloc ?_ (by first | omega | (simp <;> omega)) _) | (with_reducible refine Below.setCell ?_ (by first | omega | (simp <;> omega)) _))))) HLN.out (unhide H1) (Nat.le_trans (by omega) maxLen_ge) (by omega) (by first | omega | (simp <;> omega)) p (by omega) ?_; intro A4 c4 w4 hown4 hgrow4)
  rw [List.nil_append] at hown4
  have hbz : Below w.heap.size w w4 := Below.grown (show Below w.heap.size w _ from (by repeat (first | with_reducible exact Below.refl _ _ | with_reducible assumption | (with_reducible refine Below.trans ?_ (Below.mono (by assumption) (by first | omega | (simp <;> omega)))) | with_reducible apply Below.drew | with_reducible apply below_drewN | (with_reducible refine Below.alloc ?_ (by first | omega | (simp <;> omega)) _) | (with_reducible refine Below.setCell ?_ (by first | omega | (simp <;> omega)) _)))) hgrow4 (by first | omega | (simp <;> omega)) (fun i e => by have := Option.some.inj e; simp at this; omega)
  have HO4 := hide hown4
  clear hown4 hgrow4
  go_wp2_with fail
  go_ret
  exact ⟨A4, c4, rfl, unhide HO4, hbz⟩

set_option maxRecDepth 100000 in
set_option maxHeartbeats 1600000 in
theorem iLimitCycle_any (A : Option Addr) (n c base : Nat) (ps : List Pt) (a b m : Int) (w : World) (ha : w.ownsRow base 62 4 (.slice A n c) n (ptcs ps)) (hn : n ≤ 1048576) :
    Calls Try.prog 147 #[.slice A n c, .agg #[.int .i64 (a), .int .i64 (b)], .int .i64 m] w fun e w' => GivesR w.heap.size (((lcO ps a b m).getD []).map qf) (lcO ps a b m).isSome e w' ∧ Below w.heap.size w w' := by
  have hper := fun W hW => iPeriodOf_any A n c base ps a b m W hW hn
  rcases hp : peO ps a b m with _ | ⟨pa, pb⟩
  · rw [hp] at hper
    rw [lcO_none hp]
    have HP := hide hper; have HA := hide ha
    simp only [pe1, pe2, Option.isSome_none] at HP
    clear hper ha hp
    go_enter Try.func147, Try.ntmps147
    go_wp2_with (go_at_call 167; (with_reducible refine ((unhide HP) _ (own_below (unhide HA) ?pb)).mono ?_); (case pb => exact (by repeat (first | with_reducible exact Below.refl _ _ | with_reducible assumption | (with_reducible refine Below.trans ?_ (Below.mono (by assumption) (by first | omega | (simp <;> omega)))) | with_reducible apply Below.drew | with_reducible apply below_drewN | (with_reducible refine Below.alloc ?_ (by first | omega | (simp <;> omega)) _) | (with_reducible refine Below.setCell ?_ (by first | omega | (simp <;> omega)) _)))); rintro e w1 ⟨rfl, hbw1⟩; have hs1 := hbw1.size; (skip; (try ((have kw1w0 := (bnew hbw1) (w.heap.size) ?pf); (case pf => (first | omega | (simp; done) | (simp; omega))); obtain ⟨kcw1w0, kfw1w0, klw1w0⟩ := kw1w0))))
    go_ret2
    exact ⟨⟨none, 0, rfl, World.ownsRow_nil _ _ _ _⟩, (by repeat (first | with_reducible exact Below.refl _ _ | with_reducible assumption | (with_reducible refine Below.trans ?_ (Below.mono (by assumption) (by first | omega | (simp <;> omega)))) | with_reducible apply Below.drew | with_reducible apply below_drewN | (with_reducible refine Below.alloc ?_ (by first | omega | (simp <;> omega)) _) | (with_reducible refine Below.setCell ?_ (by first | omega | (simp <;> omega)) _)))⟩
  · rcases i_cases (A := A) (n := n) (c := c) (base := base) (ps := ps) (a := a) (b := b) (m := m) hn with ⟨ho, _⟩ | ⟨qs, x, k, rfl, rfl, rfl, rfl, hk, hO, ho, _⟩
    · rw [peO_none ho] at hp; cases hp
    · have hp' := hp
      rw [peO_some ho] at hp'
      obtain ⟨hb1, hab, hO2, htk, _, _⟩ := per_parts hO hp'
      have hrun := iOrb_some (A := A) (n := n) (c := c) (base := base) hn hO2 (orb_full hO2)
      rw [Int.natCast_add] at hrun
      rw [lcO_some ho hp', ← cyL_take, ← htk]
      rw [hp] at hper
      have hlen : (cyL (run qs (pa + pb) x) (pa, pb)).length = pb := cyL_len (by rw [hO2.len]; omega)
      have hfr : frcs ((cyL (run qs (pa + pb) x) (pa, pb)).map qf) = ((frcs ((run qs (pa + pb) x).map qf)).drop (pa * 2)).take (pb * 2) := by
        rw [← frcs_drop, ← frcs_take]
        unfold cyL
        rw [List.map_take, List.map_drop]
      have hnl : (((frcs ((run qs (pa + pb) x).map qf)).drop (pa * 2)).take (pb * 2)).length = pb * 2 := by
        rw [← hfr, frcs_len, List.length_map, hlen]
      have hn1 := frcs_one hfr.symm
      have HP := hide hper; have HA := hide ha; have HR := hide hrun; have HLEN := Lib.hid hlen; have HFR := Lib.hid hfr; have HNL := Lib.hid hnl; have HN1 := hide hn1
      simp only [pe1, pe2, Option.isSome_some] at HP
      clear hper ha hrun hlen hfr hnl hn1 hp hp' ho htk hO hO2
      generalize cyL (run qs (pa + pb) x) (pa, pb) = cy at *
      generalize frcs ((run qs (pa + pb) x).map qf) = fl at *
      generalize x.num = xn at *
      generalize (x.den : Int) = xd at *
      have s1 : IntKind.i64.wrap ((pa : Int) + (pb : Int)) = (pa : Int) + (pb : Int) := IntWalk.i64_in _ (by omega)
      have s2 : (0 : Int) ≤ (pa : Int) := by omega
      have s3 : (pa : Int) ≤ (pa : Int) + (pb : Int) := by omega
      have s5 : ((pa : Int) + (pb : Int)).toNat = pa + pb := by omega
      have s6 : (0 : Int) ≤ (pa : Int) + (pb : Int) := by omega
      go_enter Try.func147, Try.ntmps147
      go_wp2_with (first
        | (go_at_call 167; (with_reducible refine ((unhide HP) _ (own_below (unhide HA) ?pb)).mono ?_); (case pb => exact (by repeat (first | with_reducible exact Below.refl _ _ | with_reducible assumption | (with_reducible refine Below.trans ?_ (Below.mono (by assumption) (by first | omega | (simp <;> omega)))) | with_reducible apply Below.drew | with_reducible apply below_drewN | (with_reducible refine Below.alloc ?_ (by first | omega | (simp <;> omega)) _) | (with_reducible refine Below.setCell ?_ (by first | omega | (simp <;> omega)) _)))); rintro e w1 ⟨rfl, hbw1⟩; have hs1 := hbw1.size; (skip; (try ((have kw1w0 := (bnew hbw1) (w.heap.size) ?pf); (case pf => (first | omega | (simp; done) | (simp; omega))); obtain ⟨kcw1w0, kfw1w0, klw1w0⟩ := kw1w0))))
        | (go_at_call 96; (with_reducible refine ((unhide HR) _ (own_below (unhide HA) ?pb)).mono ?_); (case pb => exact (by repeat (first | with_reducible exact Below.refl _ _ | with_reducible assumption | (with_reducible refine Below.trans ?_ (Below.mono (by assumption) (by first | omega | (simp <;> omega)))) | with_reducible apply Below.drew | with_reducible apply below_drewN | (with_reducible refine Below.alloc ?_ (by first | omega | (simp <;> omega)) _) | (with_reducible refine Below.setCell ?_ (by first | omega | (simp <;> omega)) _)))); rintro e w2 ⟨gs, d, rfl, hown, hbw2⟩; have hs2 := hbw2.size; (skip; (try ((have kw2w0 := (bnew hbw2) (w.heap.size) ?pf); (case pf => (first | omega | (simp; done) | (simp; omega))); obtain ⟨kcw2w0, kfw2w0, klw2w0⟩ := kw2w0))); have hcap := own_cap hown; have s7 : (pa : Int) + (pb : Int) ≤ (d : Int) := (by omega); have s8 : ¬ d = pa := (by omega); have HOW := hide hown; clear hown)
        | (go_at_call 168; (with_reducible refine (clone_any gs (pa * 2) pb (d - pa) _ _ (fun W hW => lies_part (own_below (unhide HOW) hW) (show pa + pb ≤ pa + pb + 1 by omega)) HNL.out (unhide HN1) (by omega)).mono ?_); rintro e w3 ⟨A3, c3, rfl, hown3, hbw3⟩; have hs3 := hbw3.size; have HO3 := hide hown3; clear hown3))
      have ho3 := unhide HO3
      rw [← HFR.out] at ho3
      go_ret2
      exact ⟨⟨A3, c3, by simp [HLEN.out], by simp only [Option.getD_some, List.length_map, HLEN.out]; exact ho3.mono (by simp at hs1; omega)⟩, (by repeat (first | with_reducible exact Below.refl _ _ | with_reducible assumption | (with_reducible refine Below.trans ?_ (Below.mono (by assumption) (by first | omega | (simp <;> omega)))) | with_reducible apply Below.drew | with_reducible apply below_drewN | (with_reducible refine Below.alloc ?_ (by first | omega | (simp <;> omega)) _) | (with_reducible refine Below.setCell ?_ (by first | omega | (simp <;> omega)) _)))⟩
theorem rsl_part {w : World} {base gs N d a b : Nat} {l : List Rat} (h : w.ownsRow base 26 2 (.slice (some ⟨gs, 0, none⟩) N d) N (frcs (l.map qf))) (hab : a + b ≤ N) : RSl w base (some ⟨gs, a * 2, none⟩) b ((cyL l (a, b)).map qf) := by
  have hl := own_lenR h
  have hC := rcells_own h
  have hcl := cyL_len (l := l) (a := a) (b := b) (by omega)
  refine ⟨by rw [List.length_map, hcl], .inr ⟨gs, a * 2, rfl, (h.lt gs rfl).1, (h.lt gs rfl).2, fun i hi => ?_⟩⟩
  rw [qAtR _ _ (by rw [hcl]; exact hi), cyL_get hi, show a * 2 + i * 2 = (a + i) * 2 by omega]
  exact ⟨hC.at0 (a + i) (by omega), hC.at1 (a + i) (by omega)⟩
theorem rsl_none (w : World) (base : Nat) : RSl w base none 0 [] := ⟨rfl, .inl ⟨rfl, rfl⟩⟩

theorem LimitCycle_len (ps : List Pt) (a b m : Int) : (((lcO ps a b m).getD []).map qf).length ≤ 1048576 := by
  rcases hp : peO ps a b m with _ | ⟨pa, pb⟩
  · rw [lcO_none hp]; simp
  · rcases orb_cases ps a b m with ⟨_, _, ho⟩ | ⟨qs, x, k, rfl, hg, rfl, rfl, hx, rfl, hk, hr, _, ⟨_, _, ho⟩ | ⟨hO, ho⟩⟩
    · rw [peO_none ho] at hp; cases hp
    · rw [peO_none ho] at hp; cases hp
    · rw [peO_some ho] at hp
      rw [lcO_some ho hp]
      obtain ⟨hb1, hab, _, _, _, _⟩ := per_parts hO hp
      simp only [Option.getD_some, List.length_map]
      rw [cyL_len (by rw [hO.len]; omega)]
      omega
end Go.Proofs.Ythccdooacbablaa

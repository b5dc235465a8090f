/-
  Chapter 5: the model's values of two maps.
-/
import Derived.Test.YtgkbogcmmedmbaaEb
import Derived.Test.YtgkbogcmmedmbaaDc
namespace Go.Proofs.Ytgkbogcmmedmbaa
open Go.RowKit Rm

/-- The X of the points of both. -/
def bothX (fs gs : List QP) : List Rat := srt (xsOf fs ++ xsOf gs)
theorem bothX_pl {fs gs : List QP} (hF : GMap fs) (hG : GMap gs) : Pl (bothX fs gs) ∧ (bothX fs gs).length ≤ 24 := by
  have h1 := hF.hi
  have h2 := hG.hi
  have h3 := srt_len (xsOf fs ++ xsOf gs)
  rw [List.length_append, xsOf_len, xsOf_len] at h3
  refine ⟨srt_pl (fun x hx => ?_) (by simp [xsOf_zero hF]) (by simp [xsOf_one hF]), by unfold bothX; omega⟩
  rcases List.mem_append.1 hx with h | h
  · exact xsOf_un hF x h
  · exact xsOf_un hG x h
def vf (fs : List QP) (x : Rat) : Rat := (vAt fs x).getD 0
/-- Have both maps all values there? -/
def cvB (fs gs : List QP) (xs : List Rat) : Bool := xs.all fun x => (vAt fs x).isSome && (vAt gs x).isSome
theorem cvB_at {fs gs : List QP} {xs : List Rat} {k : Nat} (hk : k < xs.length) (h : vAt fs (xs.getD k 0) = none ∨ vAt gs (xs.getD k 0) = none) : cvB fs gs xs = false := by
  cases hc : cvB fs gs xs with
  | false => rfl
  | true =>
    have := List.all_eq_true.1 hc _ (mem_iff_getD.2 ⟨k, hk, rfl⟩)
    rw [Bool.and_eq_true] at this
    rcases h with h | h
    · rw [h] at this; exact absurd this.1 (by simp)
    · rw [h] at this; exact absurd this.2 (by simp)
theorem cvB_all {fs gs : List QP} {xs : List Rat} (h : cvB fs gs xs = true) {x : Rat} (hx : x ∈ xs) : vAt fs x = some (vf fs x) ∧ vAt gs x = some (vf gs x) := by
  have := List.all_eq_true.1 h _ hx
  simp only [Bool.and_eq_true] at this
  unfold vf
  obtain ⟨a, ha⟩ := Option.isSome_iff_exists.1 this.1
  obtain ⟨b, hb⟩ := Option.isSome_iff_exists.1 this.2
  rw [ha, hb]
  exact ⟨rfl, rfl⟩
/-- What coValues gives. -/
def CvO (B : Nat) (fs gs : List QP) (xs : List Rat) (e : Ending) (w' : World) : Prop :=
  (cvB fs gs xs = true → ∃ (A1 : Option Addr) (d1 : Nat) (A2 : Option Addr) (d2 : Nat), e = .returned (.tuple #[.slice A1 xs.length d1, .slice A2 xs.length d2, .bool true]) ∧ w'.ownsRow B 31 2 (.slice A1 xs.length d1) xs.length (frcs ((xs.map (vf fs)).map qf)) ∧ w'.ownsRow B 31 2 (.slice A2 xs.length d2) xs.length (frcs ((xs.map (vf gs)).map qf))) ∧
  (cvB fs gs xs = false → e = .returned (.tuple #[.slice none 0 0, .slice none 0 0, .bool false]))
theorem map_take_sn {f : Rat → Rat} {xs : List Rat} {k : Nat} (h : k < xs.length) : ((xs.take (k + 1)).map f) = (xs.take k).map f ++ [f (xs.getD k 0)] := by rw [take_sn h, List.map_append]; rfl

set_option maxRecDepth 100000 in
set_option maxHeartbeats 6400000 in
theorem coValues_any (gf mf cf bf gg mg cg bg : Nat) (fs gs : List QP) (w : World) (hf : w.ownsRow bf 43 4 (.slice (some ⟨gf, 0, none⟩) (mf + 1) cf) (mf + 1) (ptcs (fs.map qp))) (hg : w.ownsRow bg 43 4 (.slice (some ⟨gg, 0, none⟩) (mg + 1) cg) (mg + 1) (ptcs (gs.map qp))) (hF : GMap fs) (hG : GMap gs) :
    Calls Try.prog 30 #[.slice (some ⟨gf, 0, none⟩) (mf + 1) cf, .slice (some ⟨gg, 0, none⟩) (mg + 1) cg] w fun e w' => CvO w.heap.size fs gs (bothX fs gs) e w' ∧ Below w.heap.size w w' := by
  obtain ⟨i0, hi0, hz0, hz1, hz2⟩ := info_parts iRat
  have hcb := coBoth_any gf mf cf bf gg mg cg bg fs gs w hf hg hF hG
  obtain ⟨hpl, hbl⟩ := bothX_pl hF hG
  have hgfl := (hf.lt gf rfl).2
  have hggl := (hg.lt gg rfl).2
  change Calls _ _ _ _ fun e w' => ∃ (g d : Nat), e = .returned (.slice (some ⟨g, 0, none⟩) (bothX fs gs).length d) ∧ w'.ownsRow w.heap.size 31 2 (.slice (some ⟨g, 0, none⟩) (bothX fs gs).length d) (bothX fs gs).length (frcs ((bothX fs gs).map qf)) ∧ Below w.heap.size w w' at hcb
  obtain ⟨xs, hxs⟩ : ∃ xs, xs = bothX fs gs := ⟨_, rfl⟩
  rw [← hxs] at hcb hpl hbl ⊢
  have HCB := hide hcb; have HF := hide hf; have HG := hide hg; have HU := hide hpl.un
  clear hcb hf hg hpl hxs
  go_enter Try.func30, Try.ntmps30
  go_wp2_with (go_at_call 50; (with_reducible refine (unhide HCB).mono ?_); rintro e w1 ⟨g1, d1, rfl, ho1, hbw1⟩; have hs1 := hbw1.size; have HO1 := hide ho1; clear ho1)
  have HW1 := hide hbw1
  have hg1l := ((unhide HO1).lt g1 rfl).2
  clear hbw1 HCB
  go_loopw [7, 8, 19] (fun v v2 i wr => ∃ (k : Nat) (u u2 : Value), i = .int .i64 k ∧ u = v ∧ u2 = v2 ∧ k ≤ xs.length ∧ Hid (∀ t, t < k → (vAt fs (xs.getD t 0)).isSome = true ∧ (vAt gs (xs.getD t 0)).isSome = true) ∧ Hid (∀ j, u.ownBlock = some j → u2.ownBlock ≠ some j) ∧ wr.ownsRow w1.heap.size 31 2 u k (frcs (((xs.take k).map (vf fs)).map qf)) ∧ wr.ownsRow w1.heap.size 31 2 u2 k (frcs (((xs.take k).map (vf gs)).map qf)) ∧ Below w1.heap.size w1 wr) (fun _ _ i _ => xs.length - (intOf i).toNat)
  case atStart => exact ⟨0, _, _, rfl, rfl, rfl, by omega, hide (fun t ht => absurd ht (by omega)), hide (fun j h => by cases h), World.ownsRow_nil _ _ _ _, World.ownsRow_nil _ _ _ _, Below.refl _ _⟩
  case round =>
    obtain ⟨k, u, u2, rfl, rfl, rfl, hk, HALL, HDJ, hown, hown2, hbwr⟩ := hrel
    have hsr := hbwr.size
    by_cases hlt : k < xs.length
    · have hC := (fcells_own (unhide HO1)).below hbwr
      have f0 := hC.at0 k hlt
      have f1 := hC.at1 k hlt
      have hgr := hC.lt
      rw [qAtR xs k hlt] at f0 f1
      simp only at f0 f1
      have hxu := (unhide HU) _ (mem_iff_getD.2 ⟨k, hlt, rfl⟩)
      have h1 := fun W hW => imAt_un gf mf cf bf fs (xs.getD k 0) W hW hF hxu
      have h2 := fun W hW => imAt_un gg mg cg bg gs (xs.getD k 0) W hW hG hxu
      have HO := hide hown; have HO2 := hide hown2; have HB := hide hbwr
      clear hown hown2 hbwr hC hxu
      cases ha : vAt fs (xs.getD k 0) with
      | none =>
        have HN := Lib.hid (cvB_at (fs := fs) (gs := gs) hlt (.inl ha))
        rw [ha] at h1
        have H1 := hide h1; have H2 := hide h2
        clear h1 h2 ha
        generalize oN (vAt gs (xs.getD k 0)) = bn at *
        generalize oD (vAt gs (xs.getD k 0)) = bd at *
        generalize (vAt gs (xs.getD k 0)).isSome = bz at *
        generalize (xs.getD k 0).num = xn at *
        generalize ((xs.getD k 0).den : Int) = xd at *
        go_wp2_with (first
          | (go_at_call 40; (with_reducible refine ((unhide H1) _ (own_below (unhide HF) ?pb)).mono ?_); (case pb => have hb0 := unhide HW1; have hb := unhide HB; exact (by repeat (first | with_reducible exact Below.refl _ _ | with_reducible assumption | (with_reducible refine Below.trans ?_ (Below.mono (by assumption) (by first | omega | (simp <;> omega)))) | with_reducible apply Below.drew | with_reducible apply below_drewN | (with_reducible refine Below.alloc ?_ (by first | omega | (simp <;> omega)) _) | (with_reducible refine Below.setCell ?_ (by first | omega | (simp <;> omega)) _)))); rintro e w3 ⟨rfl, hbw3⟩; have hsw3 := hbw3.size; (try simp at hsw3); (skip; (try ((have kw3wr0 := (bnew hbw3) (wr.heap.size) ?pf); (case pf => (first | omega | (simp; done) | (simp; omega))); obtain ⟨kcw3wr0, kfw3wr0, klw3wr0⟩ := kw3wr0))))
          | (go_at_call 40; (with_reducible refine ((unhide H2) _ (own_below (unhide HG) ?pb)).mono ?_); (case pb => have hb0 := unhide HW1; have hb := unhide HB; exact (by repeat (first | with_reducible exact Below.refl _ _ | with_reducible assumption | (with_reducible refine Below.trans ?_ (Below.mono (by assumption) (by first | omega | (simp <;> omega)))) | with_reducible apply Below.drew | with_reducible apply below_drewN | (with_reducible refine Below.alloc ?_ (by first | omega | (simp <;> omega)) _) | (with_reducible refine Below.setCell ?_ (by first | omega | (simp <;> omega)) _)))); rintro e w4 ⟨rfl, hbw4⟩; have hsw4 := hbw4.size; (try simp at hsw4); (skip; (try ((have kw4wr0 := (bnew hbw4) (wr.heap.size) ?pf); (case pf => (first | omega | (simp; done) | (simp; omega))); obtain ⟨kcw4wr0, kfw4wr0, klw4wr0⟩ := kw4wr0)); (try ((have kw4w30 := (bnew hbw4) (w3.heap.size) ?pf); (case pf => (first | omega | (simp; done) | (simp; omega))); obtain ⟨kcw4w30, kfw4w30, klw4w30⟩ := kw4w30)))))
        have hb0 := unhide HW1; have hb := unhide HB
        go_ret3
        exact ⟨⟨fun h => (by rw [HN.out] at h; cases h), fun _ => rfl⟩, (by repeat (first | with_reducible exact Below.refl _ _ | with_reducible assumption | (with_reducible refine Below.trans ?_ (Below.mono (by assumption) (by first | omega | (simp <;> omega)))) | with_reducible apply Below.drew | with_reducible apply below_drewN | (with_reducible refine Below.alloc ?_ (by first | omega | (simp <;> omega)) _) | (with_reducible refine Below.setCell ?_ (by first | omega | (simp <;> omega)) _)))⟩
      | some a =>
        rw [ha] at h1
        have H1 := hide h1
        have HA := Lib.hid ha
        clear h1 ha
        cases hb : vAt gs (xs.getD k 0) with
        | none =>
          have HN := Lib.hid (cvB_at (fs := fs) (gs := gs) hlt (.inr hb))
          rw [hb] at h2
          have H2 := hide h2
          clear h2 hb HA
          simp only [oN_some, oD_some, Option.isSome_some] at H1
          generalize a.num = an at *
          generalize (a.den : Int) = ad at *
          generalize (xs.getD k 0).num = xn at *
          generalize ((xs.getD k 0).den : Int) = xd at *
          go_wp2_with (first
            | (go_at_call 40; (with_reducible refine ((unhide H1) _ (own_below (unhide HF) ?pb)).mono ?_); (case pb => have hb0 := unhide HW1; have hb := unhide HB; exact (by repeat (first | with_reducible exact Below.refl _ _ | with_reducible assumption | (with_reducible refine Below.trans ?_ (Below.mono (by assumption) (by first | omega | (simp <;> omega)))) | with_reducible apply Below.drew | with_reducible apply below_drewN | (with_reducible refine Below.alloc ?_ (by first | omega | (simp <;> omega)) _) | (with_reducible refine Below.setCell ?_ (by first | omega | (simp <;> omega)) _)))); rintro e w3 ⟨rfl, hbw3⟩; have hsw3 := hbw3.size; (try simp at hsw3); (skip; (try ((have kw3wr0 := (bnew hbw3) (wr.heap.size) ?pf); (case pf => (first | omega | (simp; done) | (simp; omega))); obtain ⟨kcw3wr0, kfw3wr0, klw3wr0⟩ := kw3wr0))))
            | (go_at_call 40; (with_reducible refine ((unhide H2) _ (own_below (unhide HG) ?pb)).mono ?_); (case pb => have hb0 := unhide HW1; have hb := unhide HB; exact (by repeat (first | with_reducible exact Below.refl _ _ | with_reducible assumption | (with_reducible refine Below.trans ?_ (Below.mono (by assumption) (by first | omega | (simp <;> omega)))) | with_reducible apply Below.drew | with_reducible apply below_drewN | (with_reducible refine Below.alloc ?_ (by first | omega | (simp <;> omega)) _) | (with_reducible refine Below.setCell ?_ (by first | omega | (simp <;> omega)) _)))); rintro e w4 ⟨rfl, hbw4⟩; have hsw4 := hbw4.size; (try simp at hsw4); (skip; (try ((have kw4wr0 := (bnew hbw4) (wr.heap.size) ?pf); (case pf => (first | omega | (simp; done) | (simp; omega))); obtain ⟨kcw4wr0, kfw4wr0, klw4wr0⟩ := kw4wr0)); (try ((have kw4w30 := (bnew hbw4) (w3.heap.size) ?pf); (case pf => (first | omega | (simp; done) | (simp; omega))); obtain ⟨kcw4w30, kfw4w30, klw4w30⟩ := kw4w30)))))
          have hb0 := unhide HW1; have hb := unhide HB
          go_ret3
          exact ⟨⟨fun h => (by rw [HN.out] at h; cases h), fun _ => rfl⟩, (by repeat (first | with_reducible exact Below.refl _ _ | with_reducible assumption | (with_reducible refine Below.trans ?_ (Below.mono (by assumption) (by first | omega | (simp <;> omega)))) | with_reducible apply Below.drew | with_reducible apply below_drewN | (with_reducible refine Below.alloc ?_ (by first | omega | (simp <;> omega)) _) | (with_reducible refine Below.setCell ?_ (by first | omega | (simp <;> omega)) _)))⟩
        | some b =>
          rw [hb] at h2
          have H2 := hide h2
          have hva : vf fs (xs.getD k 0) = a := by unfold vf; rw [HA.out]; rfl
          have hvb : vf gs (xs.getD k 0) = b := by unfold vf; rw [hb]; rfl
          have e1 : frcs (((xs.take k).map (vf fs)).map qf) ++ [.int .i64 a.num, .int .i64 a.den] = frcs (((xs.take (k + 1)).map (vf fs)).map qf) := by rw [frq_sn', map_take_sn hlt, hva]
          have e2 : frcs (((xs.take k).map (vf gs)).map qf) ++ [.int .i64 b.num, .int .i64 b.den] = frcs (((xs.take (k + 1)).map (vf gs)).map qf) := by rw [frq_sn', map_take_sn hlt, hvb]
          have HALL' := hide (show ∀ t, t < k + 1 → (vAt fs (xs.getD t 0)).isSome = true ∧ (vAt gs (xs.getD t 0)).isSome = true from fun t ht => by
            by_cases htk : t = k
            · rw [htk, HA.out, hb]; exact ⟨rfl, rfl⟩
            · exact (unhide HALL) t (by omega))
          have HE1 := Lib.hid e1; have HE2 := Lib.hid e2
          have HV1 := hide (show ∀ j, u.ownBlock = some j → w1.heap.size ≤ j ∧ j < wr.heap.size from fun j e => (unhide HO).lt j e)
          have HV2 := hide (show ∀ j, u2.ownBlock = some j → w1.heap.size ≤ j ∧ j < wr.heap.size from fun j e => (unhide HO2).lt j e)
          clear h2 hb HA hva hvb e1 e2
          simp only [oN_some, oD_some, Option.isSome_some] at H1 H2
          generalize a.num = an at *
          generalize (a.den : Int) = ad at *
          generalize b.num = bn at *
          generalize (b.den : Int) = bd at *
          generalize (xs.getD k 0).num = xn at *
          generalize ((xs.getD k 0).den : Int) = xd at *
          go_wp2_with (first
            | (go_at_call 40; (with_reducible refine ((unhide H1) _ (own_below (unhide HF) ?pb)).mono ?_); (case pb => have hb0 := unhide HW1; have hb := unhide HB; exact (by repeat (first | with_reducible exact Below.refl _ _ | with_reducible assumption | (with_reducible refine Below.trans ?_ (Below.mono (by assumption) (by first | omega | (simp <;> omega)))) | with_reducible apply Below.drew | with_reducible apply below_drewN | (with_reducible refine Below.alloc ?_ (by first | omega | (simp <;> omega)) _) | (with_reducible refine Below.setCell ?_ (by first | omega | (simp <;> omega)) _)))); rintro e w3 ⟨rfl, hbw3⟩; have hsw3 := hbw3.size; (try simp at hsw3); (skip; (try ((have kw3wr0 := (bnew hbw3) (wr.heap.size) ?pf); (case pf => (first | omega | (simp; done) | (simp; omega))); obtain ⟨kcw3wr0, kfw3wr0, klw3wr0⟩ := kw3wr0))))
            | (go_at_call 40; (with_reducible refine ((unhide H2) _ (own_below (unhide HG) ?pb)).mono ?_); (case pb => have hb0 := unhide HW1; have hb := unhide HB; exact (by repeat (first | with_reducible exact Below.refl _ _ | with_reducible assumption | (with_reducible refine Below.trans ?_ (Below.mono (by assumption) (by first | omega | (simp <;> omega)))) | with_reducible apply Below.drew | with_reducible apply below_drewN | (with_reducible refine Below.alloc ?_ (by first | omega | (simp <;> omega)) _) | (with_reducible refine Below.setCell ?_ (by first | omega | (simp <;> omega)) _)))); rintro e w4 ⟨rfl, hbw4⟩; have hsw4 := hbw4.size; (try simp at hsw4); (skip; (try ((have kw4wr0 := (bnew hbw4) (wr.heap.size) ?pf); (case pf => (first | omega | (simp; done) | (simp; omega))); obtain ⟨kcw4wr0, kfw4wr0, klw4wr0⟩ := kw4wr0)); (try ((have kw4w30 := (bnew hbw4) (w3.heap.size) ?pf); (case pf => (first | omega | (simp; done) | (simp; omega))); obtain ⟨kcw4w30, kfw4w30, klw4w30⟩ := kw4w30))))
            | (at_builtin; refine wpl_append2 rfl _ _ _ rfl w1.heap.size 31 i0 _ 2 16 Try.underlying49 hi0 hz0 hz1 hz2 rfl (by omega) u k _ rfl (own_below (unhide HO) (show Below wr.heap.size wr _ from (by repeat (first | with_reducible exact Below.refl _ _ | with_reducible assumption | (with_reducible refine Below.trans ?_ (Below.mono (by assumption) (by first | omega | (simp <;> omega)))) | with_reducible apply Below.drew | with_reducible apply below_drewN | (with_reducible refine Below.alloc ?_ (by first | omega | (simp <;> omega)) _) | (with_reducible refine Below.setCell ?_ (by first | omega | (simp <;> omega)) _))))) _ 1 [.int .i64 an, .int .i64 ad] rfl (lies2 (by simp [go_sem, *]) (by simp [go_sem, *])) rfl (by simp [Value.oneCell']) (Nat.le_trans (by omega) maxLen_ge) (by omega) (by first | omega | (simp <;> omega)) (k + 1) rfl ?_; intro A5 c5 w5 hown5 hgrow5 hat5; have kc5 := fun o => World.cell?_of_block (a := ⟨w4.heap.size, o, none⟩) (hgrow5.block w4.heap.size (by first | omega | (simp; done) | (simp; omega)) (fun e => by have hq := (unhide HV1) _ e.symm; omega)); have hj5 : ∀ j, (Value.slice A5 (k + 1) c5).ownBlock = some j → u.ownBlock = some j ∨ w4.heap.size ≤ j := (fun j hj => by rcases hat5 with h | h; exact .inl (h.symm.trans hj); right; have h3 := Option.some.inj (h.symm.trans hj); simp at h3; omega); have hl5 : ∀ j, (Value.slice A5 (k + 1) c5).ownBlock = some j → j < w5.heap.size := (fun j hj => (hown5.lt j hj).2); have hsz5 := hgrow5.size; (try simp at hsz5); have HO2w := hide (own_kept (own_below (unhide HO2) (show Below wr.heap.size wr _ from (by repeat (first | with_reducible exact Below.refl _ _ | with_reducible assumption | (with_reducible refine Below.trans ?_ (Below.mono (by assumption) (by first | omega | (simp <;> omega)))) | with_reducible apply Below.drew | with_reducible apply below_drewN | (with_reducible refine Below.alloc ?_ (by first | omega | (simp <;> omega)) _) | (with_reducible refine Below.setCell ?_ (by first | omega | (simp <;> omega)) _))))) hgrow5 (fun j hj e => (unhide HDJ) j e.symm hj)); have hbw5 : Below w1.heap.size w1 w5 := Below.grown (show Below w1.heap.size w1 _ from (by have hb := unhide HB; exact (by repeat (first | with_reducible exact Below.refl _ _ | with_reducible assumption | (with_reducible refine Below.trans ?_ (Below.mono (by assumption) (by first | omega | (simp <;> omega)))) | with_reducible apply Below.drew | with_reducible apply below_drewN | (with_reducible refine Below.alloc ?_ (by first | omega | (simp <;> omega)) _) | (with_reducible refine Below.setCell ?_ (by first | omega | (simp <;> omega)) _))))) hgrow5 (by first | omega | (simp; omega)) (fun j e => ((unhide HV1) j e).1); have HO5 := hide hown5; have HJ5 := hide hj5; have HL5 := hide hl5; have HB5 := hide hbw5; clear hown5 hgrow5 hat5 hj5 hl5 hbw5)
            | (at_builtin; refine wpl_append2 rfl _ _ _ rfl w1.heap.size 31 i0 _ 2 16 Try.underlying49 hi0 hz0 hz1 hz2 rfl (by omega) u2 k _ rfl (own_below (unhide HO2w) (show Below w5.heap.size w5 _ from (by repeat (first | with_reducible exact Below.refl _ _ | with_reducible assumption | (with_reducible refine Below.trans ?_ (Below.mono (by assumption) (by first | omega | (simp <;> omega)))) | with_reducible apply Below.drew | with_reducible apply below_drewN | (with_reducible refine Below.alloc ?_ (by first | omega | (simp <;> omega)) _) | (with_reducible refine Below.setCell ?_ (by first | omega | (simp <;> omega)) _))))) _ 1 [.int .i64 bn, .int .i64 bd] rfl (lies2 (by simp [go_sem, *]) (by simp [go_sem, *])) rfl (by simp [Value.oneCell']) (Nat.le_trans (by omega) maxLen_ge) (by omega) (by first | omega | (simp <;> omega)) (k + 1) rfl ?_; intro A6 c6 w6 hown6 hgrow6 hat6))
          have hj6 : ∀ j, (Value.slice A6 (k + 1) c6).ownBlock = some j → u2.ownBlock = some j ∨ w5.heap.size ≤ j := fun j hj => by
            rcases hat6 with h | h
            · exact .inl (h.symm.trans hj)
            · right
              have h3 := Option.some.inj (h.symm.trans hj)
              simp at h3
              omega
          have ho5 := own_kept (own_below (unhide HO5) (show Below w5.heap.size w5 _ from (by repeat (first | with_reducible exact Below.refl _ _ | with_reducible assumption | (with_reducible refine Below.trans ?_ (Below.mono (by assumption) (by first | omega | (simp <;> omega)))) | with_reducible apply Below.drew | with_reducible apply below_drewN | (with_reducible refine Below.alloc ?_ (by first | omega | (simp <;> omega)) _) | (with_reducible refine Below.setCell ?_ (by first | omega | (simp <;> omega)) _))))) hgrow6 (fun j hj e => by
            rcases (unhide HJ5) j hj with h | h
            · exact (unhide HDJ) j h e.symm
            · have := (unhide HV2) j e.symm
              omega)
          have hbz : Below w1.heap.size w1 w6 := Below.grown (show Below w1.heap.size w1 _ from (by have hb5 := unhide HB5; exact (by repeat (first | with_reducible exact Below.refl _ _ | with_reducible assumption | (with_reducible refine Below.trans ?_ (Below.mono (by assumption) (by first | omega | (simp <;> omega)))) | with_reducible apply Below.drew | with_reducible apply below_drewN | (with_reducible refine Below.alloc ?_ (by first | omega | (simp <;> omega)) _) | (with_reducible refine Below.setCell ?_ (by first | omega | (simp <;> omega)) _))))) hgrow6 (by first | omega | (simp; omega)) (fun j e => ((unhide HV2) j e).1)
          have hdj : ∀ j, (Value.slice A5 (k + 1) c5).ownBlock = some j → (Value.slice A6 (k + 1) c6).ownBlock ≠ some j := fun j hj h6 => by
            have hl := (unhide HL5) j hj
            rcases hj6 j h6 with h | h
            · rcases (unhide HJ5) j hj with h' | h'
              · exact (unhide HDJ) j h' h
              · have := (unhide HV2) j h
                omega
            · omega
          rw [HE1.out] at ho5
          rw [HE2.out] at hown6
          have HA5 := hide ho5; have HA6 := hide hown6; have HBZ := hide hbz; have HD6 := hide hdj
          clear ho5 hown6 hgrow6 hat6 hj6 hbz hdj kc5
          go_wp2_with fail
          go_roundw
          case rel => exact ⟨k + 1, _, _, by go_num, rfl, rfl, by omega, HALL', HD6, unhide HA5, unhide HA6, unhide HBZ⟩
          case measure => simp [intOf]; omega
    · have hke : k = xs.length := by omega
      have hcv : cvB fs gs xs = true := List.all_eq_true.2 fun x hx => by
        obtain ⟨t, ht, e⟩ := mem_iff_getD.1 hx
        have := (unhide HALL) t (by omega)
        rw [← e, this.1, this.2]
        rfl
      rw [List.take_of_length_le (by omega)] at hown hown2
      obtain ⟨A5, c5, rfl⟩ := own_slice hown
      obtain ⟨A6, c6, rfl⟩ := own_slice hown2
      have HO := hide (hown.mono hs1); have HO2 := hide (hown2.mono hs1); have HB := hide ((unhide HW1).trans (hbwr.mono hs1))
      have HC := Lib.hid hcv; have HK := Lib.hid hke
      clear hown hown2 hbwr hcv hke
      go_wp2
      go_ret3
      refine ⟨⟨fun _ => ⟨A5, c5, A6, c6, ?_, ?_, ?_⟩, fun h => (by rw [HC.out] at h; cases h)⟩, unhide HB⟩
      · rw [← HK.out] <;> rfl
      · rw [← HK.out]; exact unhide HO
      · rw [← HK.out]; exact unhide HO2
end Go.Proofs.Ytgkbogcmmedmbaa

/-
  Chapter 5: the program's values of two maps.
-/
import Derived.Test.YtgkbogcmmedmbaaEg
namespace Go.Proofs.Ytgkbogcmmedmbaa
open Go.RowKit Rm

theorem iPair : (Try.prog.info? 60).map (fun i => (i.zero, i.size, i.bytes)) = some (some (.agg #[.int .i64 0, .int .i64 0, .int .i64 0, .int .i64 0]), 4, 32) := by kernel_rfl
/-- The pairs of values. -/
def vpL (fs gs : List QP) (xs : List Rat) : List QP := xs.map fun x => (vf fs x, vf gs x)
theorem vpL_sn {fs gs : List QP} {xs : List Rat} {k : Nat} (h : k < xs.length) : vpL fs gs (xs.take (k + 1)) = vpL fs gs (xs.take k) ++ [(vf fs (xs.getD k 0), vf gs (xs.getD k 0))] := by unfold vpL; rw [take_sn h, List.map_append]; rfl
def VpO (B : Nat) (fs gs : List QP) (xs : List Rat) (e : Ending) (w' : World) : Prop :=
  (cvB fs gs xs = true → ∃ (A1 : Option Addr) (d1 : Nat), e = .returned (.tuple #[.slice A1 xs.length d1, .bool true]) ∧ w'.ownsRow B 60 4 (.slice A1 xs.length d1) xs.length (ptcs ((vpL fs gs xs).map qp))) ∧
  (cvB fs gs xs = false → e = .returned (.tuple #[.slice none 0 0, .bool false]))

set_option maxRecDepth 100000 in
set_option maxHeartbeats 6400000 in
theorem valuesOfBoth_any (gf mf cf bf gg mg cg bg : Nat) (fs gs : List QP) (w : World) (hf : w.ownsRow bf 43 4 (.slice (some ⟨gf, 0, none⟩) (mf + 1) cf) (mf + 1) (ptcs (fs.map qp))) (hg : w.ownsRow bg 43 4 (.slice (some ⟨gg, 0, none⟩) (mg + 1) cg) (mg + 1) (ptcs (gs.map qp))) (hF : GMap fs) (hG : GMap gs) :
    Calls Try.prog 35 #[.slice (some ⟨gf, 0, none⟩) (mf + 1) cf, .slice (some ⟨gg, 0, none⟩) (mg + 1) cg] w fun e w' => VpO w.heap.size fs gs (bothX fs gs) e w' ∧ Below w.heap.size w w' := by
  obtain ⟨i0, hi0, hz0, hz1, hz2⟩ := info_parts iPair
  have hlf := own_lenQ hf
  have hlg := own_lenQ hg
  have hhf := hF.hi
  have hhg := hG.hi
  rw [hlf] at hhf
  rw [hlg] at hhg
  have hm1 := fun W hW => isMap_any (some ⟨gf, 0, none⟩) (mf + 1) cf bf (fs.map qp) W hW (by omega)
  have hm2 := fun W hW => isMap_any (some ⟨gg, 0, none⟩) (mg + 1) cg bg (gs.map qp) W hW (by omega)
  rw [hF.mapB] at hm1
  rw [hG.mapB] at hm2
  obtain ⟨hpl, hbl⟩ := bothX_pl hF hG
  have hll : (xsOf fs ++ xsOf gs).length = mf + 1 + (mg + 1) := by rw [List.length_append, xsOf_len, xsOf_len, hlf, hlg]
  have hinc : ∀ (g d base : Nat) (W : World) (ho : W.ownsRow base 31 2 (.slice (some ⟨g, 0, none⟩) (mf + 1 + (mg + 1)) d) (mf + 1 + (mg + 1)) (frcs ((xsOf fs ++ xsOf gs).map qf))), Calls Try.prog 54 #[.slice (some ⟨g, 0, none⟩) (mf + 1 + (mg + 1)) d] W fun e w' => ∃ d : Nat, e = .returned (.slice (some ⟨g, 0, none⟩) (bothX fs gs).length d) ∧ FCells w' g (bothX fs gs).length ((bothX fs gs).map qf) ∧ W.grownBy w' (some g) := by
    intro g d base W ho
    refine increasing_any g _ d base (xsOf fs ++ xsOf gs) W ho (fun z hz => ?_) (by omega) (by omega)
    rcases List.mem_append.1 hz with h | h
    · exact (xsOf_un hF z h).fit
    · exact (xsOf_un hG z h).fit
  obtain ⟨xs, hxs⟩ : ∃ xs, xs = bothX fs gs := ⟨_, rfl⟩
  rw [← hxs] at hinc hpl hbl ⊢
  have HM1 := hide hm1; have HM2 := hide hm2; have HINC := hide hinc; have HF := hide hf; have HG := hide hg; have HU := hide hpl.un
  clear hm1 hm2 hinc hf hg hpl hxs hll hlf hlg
  go_enter Try.func35, Try.ntmps35
  go_wp2_with (first
    | (go_at_call 26; (with_reducible refine ((unhide HM1) _ (own_below (unhide HF) ?pb)).mono ?_); (case pb => exact (by repeat (first | with_reducible exact Below.refl _ _ | with_reducible assumption | (with_reducible refine Below.trans ?_ (Below.mono (by assumption) (by first | omega | (simp <;> omega)))) | with_reducible apply Below.drew | with_reducible apply below_drewN | (with_reducible refine Below.alloc ?_ (by first | omega | (simp <;> omega)) _) | (with_reducible refine Below.setCell ?_ (by first | omega | (simp <;> omega)) _)))); rintro e wa ⟨rfl, hbwa⟩; have hsa := hbwa.size)
    | (go_at_call 26; (with_reducible refine ((unhide HM2) _ (own_below (unhide HG) ?pb)).mono ?_); (case pb => exact (by repeat (first | with_reducible exact Below.refl _ _ | with_reducible assumption | (with_reducible refine Below.trans ?_ (Below.mono (by assumption) (by first | omega | (simp <;> omega)))) | with_reducible apply Below.drew | with_reducible apply below_drewN | (with_reducible refine Below.alloc ?_ (by first | omega | (simp <;> omega)) _) | (with_reducible refine Below.setCell ?_ (by first | omega | (simp <;> omega)) _)))); rintro e wb ⟨rfl, hbwb⟩; have hsb := hbwb.size)
    | (go_at_call 55; (with_reducible refine (placesOfBoth_map gf (mf + 1) cf bf gg (mg + 1) cg bg fs gs _ (own_below (unhide HF) ?p1) (own_below (unhide HG) ?p2) (by omega) (by omega)).mono ?_); (case p1 => exact (by repeat (first | with_reducible exact Below.refl _ _ | with_reducible assumption | (with_reducible refine Below.trans ?_ (Below.mono (by assumption) (by first | omega | (simp <;> omega)))) | with_reducible apply Below.drew | with_reducible apply below_drewN | (with_reducible refine Below.alloc ?_ (by first | omega | (simp <;> omega)) _) | (with_reducible refine Below.setCell ?_ (by first | omega | (simp <;> omega)) _)))); (case p2 => exact (by repeat (first | with_reducible exact Below.refl _ _ | with_reducible assumption | (with_reducible refine Below.trans ?_ (Below.mono (by assumption) (by first | omega | (simp <;> omega)))) | with_reducible apply Below.drew | with_reducible apply below_drewN | (with_reducible refine Below.alloc ?_ (by first | omega | (simp <;> omega)) _) | (with_reducible refine Below.setCell ?_ (by first | omega | (simp <;> omega)) _)))); rintro e w1 ⟨A1, d1, rfl, ho1, hbw1⟩; obtain ⟨g1, rfl, hg10, hg11⟩ := own_some ho1 (by omega); have hs1 := hbw1.size; have HO1 := hide ho1; clear ho1)
    | (go_at_call 54; (with_reducible refine ((unhide HINC) g1 d1 _ _ (unhide HO1)).mono ?_); rintro e w2 ⟨d2, rfl, hF2, hg2⟩; have hsw2 := hg2.size))
  have hwb : Below w.heap.size w w1 := (by repeat (first | with_reducible exact Below.refl _ _ | with_reducible assumption | (with_reducible refine Below.trans ?_ (Below.mono (by assumption) (by first | omega | (simp <;> omega)))) | with_reducible apply Below.drew | with_reducible apply below_drewN | (with_reducible refine Below.alloc ?_ (by first | omega | (simp <;> omega)) _) | (with_reducible refine Below.setCell ?_ (by first | omega | (simp <;> omega)) _)))
  have hw2 : Below w.heap.size w w2 := hwb.grown hg2 (by omega) (fun k e => by have := Option.some.inj e; omega)
  have hgl2 := hF2.lt
  have HF2 := hide hF2; have HW2 := hide hw2
  have hsz2 := hw2.size
  clear hF2 hg2 hw2 hwb hbw1 hbwa hbwb HM1 HM2 HINC HO1
  go_loopw [6, 25] (fun v i wr => ∃ (k : Nat) (u : Value), i = .int .i64 k ∧ u = v ∧ k ≤ xs.length ∧ Hid (∀ t, t < k → (vAt fs (xs.getD t 0)).isSome = true ∧ (vAt gs (xs.getD t 0)).isSome = true) ∧ wr.ownsRow w2.heap.size 60 4 u k (ptcs ((vpL fs gs (xs.take k)).map qp)) ∧ Below w2.heap.size w2 wr) (fun _ i _ => xs.length - (intOf i).toNat)
  case atStart => exact ⟨0, _, rfl, rfl, by omega, hide (fun t ht => absurd ht (by omega)), World.ownsRow_nil _ _ _ _, Below.refl _ _⟩
  case round =>
    obtain ⟨k, u, rfl, rfl, hk, HALL, hown, hbwr⟩ := hrel
    have hsr := hbwr.size
    by_cases hlt : k < xs.length
    · have hC := (unhide HF2).below hbwr
      have f0 := hC.at0 k hlt
      have f1 := hC.at1 k hlt
      have hgr := hC.lt
      rw [qAtR xs k hlt] at f0 f1
      simp only at f0 f1
      have hxu := (unhide HU) _ (mem_iff_getD.2 ⟨k, hlt, rfl⟩)
      have h1 := fun W hW => valueAt_o gf mf cf bf fs (some (xs.getD k 0)) W hW hF (fun y e => by injection e with e; subst e; exact hxu)
      have h2 := fun W hW => valueAt_o gg mg cg bg gs (some (xs.getD k 0)) W hW hG (fun y e => by injection e with e; subst e; exact hxu)
      simp only [oN_some, oD_some, Option.bind_some] at h1 h2
      have hvB : ∀ j, u.ownBlock = some j → w2.heap.size ≤ j := fun j e => (hown.lt j e).1
      have HO := hide hown; have HB := hide hbwr; have HVB := hide hvB
      clear hown hbwr hC hxu hvB
      cases ha : vAt fs (xs.getD k 0) with
      | none =>
        have HN := Lib.hid (cvB_at (fs := fs) (gs := gs) hlt (.inl ha))
        rw [ha] at h1
        have H1 := hide h1
        clear h1 h2 ha
        generalize (xs.getD k 0).num = xn at *
        generalize ((xs.getD k 0).den : Int) = xd at *
        go_wp2_with (go_at_call 42; (with_reducible refine ((unhide H1) _ (own_below (unhide HF) ?pb)).mono ?_); (case pb => have hb0 := unhide HW2; have hb := unhide HB; exact (by repeat (first | with_reducible exact Below.refl _ _ | with_reducible assumption | (with_reducible refine Below.trans ?_ (Below.mono (by assumption) (by first | omega | (simp <;> omega)))) | with_reducible apply Below.drew | with_reducible apply below_drewN | (with_reducible refine Below.alloc ?_ (by first | omega | (simp <;> omega)) _) | (with_reducible refine Below.setCell ?_ (by first | omega | (simp <;> omega)) _)))); rintro e w3 ⟨rfl, hbw3⟩; have hsw3 := hbw3.size; (try simp at hsw3); (skip; (try ((have kw3wr0 := (bnew hbw3) (wr.heap.size) ?pf); (case pf => (first | omega | (simp; done) | (simp; omega))); obtain ⟨kcw3wr0, kfw3wr0, klw3wr0⟩ := kw3wr0))))
        have hb0 := unhide HW2; have hb := unhide HB
        go_ret2
        exact ⟨⟨fun h => (by rw [HN.out] at h; cases h), fun _ => rfl⟩, (by repeat (first | with_reducible exact Below.refl _ _ | with_reducible assumption | (with_reducible refine Below.trans ?_ (Below.mono (by assumption) (by first | omega | (simp <;> omega)))) | with_reducible apply Below.drew | with_reducible apply below_drewN | (with_reducible refine Below.alloc ?_ (by first | omega | (simp <;> omega)) _) | (with_reducible refine Below.setCell ?_ (by first | omega | (simp <;> omega)) _)))⟩
      | some a =>
        rw [ha] at h1
        have H1 := hide h1
        have HA := Lib.hid ha
        clear h1 ha
        cases hb : vAt gs (xs.getD k 0) with
        | none =>
          have HN := Lib.hid (cvB_at (fs := fs) (gs := gs) hlt (.inr hb))
          rw [hb] at h2
          have H2 := hide h2
          clear h2 hb HA
          simp only [oN_some, oD_some, Option.isSome_some] at H1
          generalize a.num = an at *
          generalize (a.den : Int) = ad at *
          generalize (xs.getD k 0).num = xn at *
          generalize ((xs.getD k 0).den : Int) = xd at *
          go_wp2_with (first
            | (go_at_call 42; (with_reducible refine ((unhide H1) _ (own_below (unhide HF) ?pb)).mono ?_); (case pb => have hb0 := unhide HW2; have hb := unhide HB; exact (by repeat (first | with_reducible exact Below.refl _ _ | with_reducible assumption | (with_reducible refine Below.trans ?_ (Below.mono (by assumption) (by first | omega | (simp <;> omega)))) | with_reducible apply Below.drew | with_reducible apply below_drewN | (with_reducible refine Below.alloc ?_ (by first | omega | (simp <;> omega)) _) | (with_reducible refine Below.setCell ?_ (by first | omega | (simp <;> omega)) _)))); rintro e w3 ⟨rfl, hbw3⟩; have hsw3 := hbw3.size; (try simp at hsw3); (skip; (try ((have kw3wr0 := (bnew hbw3) (wr.heap.size) ?pf); (case pf => (first | omega | (simp; done) | (simp; omega))); obtain ⟨kcw3wr0, kfw3wr0, klw3wr0⟩ := kw3wr0))))
            | (go_at_call 42; (with_reducible refine ((unhide H2) _ (own_below (unhide HG) ?pb)).mono ?_); (case pb => have hb0 := unhide HW2; have hb := unhide HB; exact (by repeat (first | with_reducible exact Below.refl _ _ | with_reducible assumption | (with_reducible refine Below.trans ?_ (Below.mono (by assumption) (by first | omega | (simp <;> omega)))) | with_reducible apply Below.drew | with_reducible apply below_drewN | (with_reducible refine Below.alloc ?_ (by first | omega | (simp <;> omega)) _) | (with_reducible refine Below.setCell ?_ (by first | omega | (simp <;> omega)) _)))); rintro e w4 ⟨rfl, hbw4⟩; have hsw4 := hbw4.size; (try simp at hsw4); (skip; (try ((have kw4wr0 := (bnew hbw4) (wr.heap.size) ?pf); (case pf => (first | omega | (simp; done) | (simp; omega))); obtain ⟨kcw4wr0, kfw4wr0, klw4wr0⟩ := kw4wr0)); (try ((have kw4w30 := (bnew hbw4) (w3.heap.size) ?pf); (case pf => (first | omega | (simp; done) | (simp; omega))); obtain ⟨kcw4w30, kfw4w30, klw4w30⟩ := kw4w30)))))
          have hb0 := unhide HW2; have hb := unhide HB
          go_ret2
          exact ⟨⟨fun h => (by rw [HN.out] at h; cases h), fun _ => rfl⟩, (by repeat (first | with_reducible exact Below.refl _ _ | with_reducible assumption | (with_reducible refine Below.trans ?_ (Below.mono (by assumption) (by first | omega | (simp <;> omega)))) | with_reducible apply Below.drew | with_reducible apply below_drewN | (with_reducible refine Below.alloc ?_ (by first | omega | (simp <;> omega)) _) | (with_reducible refine Below.setCell ?_ (by first | omega | (simp <;> omega)) _)))⟩
        | some b =>
          rw [hb] at h2
          have H2 := hide h2
          have hva : vf fs (xs.getD k 0) = a := by unfold vf; rw [HA.out]; rfl
          have hvb : vf gs (xs.getD k 0) = b := by unfold vf; rw [hb]; rfl
          have e1 : ptcs ((vpL fs gs (xs.take k)).map qp) ++ [.int .i64 a.num, .int .i64 a.den, .int .i64 b.num, .int .i64 b.den] = ptcs ((vpL fs gs (xs.take (k + 1))).map qp) := by rw [vpL_sn hlt, hva, hvb, ptq_sn]
          have HALL' := hide (show ∀ t, t < k + 1 → (vAt fs (xs.getD t 0)).isSome = true ∧ (vAt gs (xs.getD t 0)).isSome = true from fun t ht => by
            by_cases htk : t = k
            · rw [htk, HA.out, hb]; exact ⟨rfl, rfl⟩
            · exact (unhide HALL) t (by omega))
          have HE1 := Lib.hid e1
          clear h2 hb HA hva hvb e1
          simp only [oN_some, oD_some, Option.isSome_some] at H1 H2
          generalize a.num = an at *
          generalize (a.den : Int) = ad at *
          generalize b.num = bn at *
          generalize (b.den : Int) = bd at *
          generalize (xs.getD k 0).num = xn at *
          generalize ((xs.getD k 0).den : Int) = xd at *
          go_wp2_with (first
            | (go_at_call 42; (with_reducible refine ((unhide H1) _ (own_below (unhide HF) ?pb)).mono ?_); (case pb => have hb0 := unhide HW2; have hb := unhide HB; exact (by repeat (first | with_reducible exact Below.refl _ _ | with_reducible assumption | (with_reducible refine Below.trans ?_ (Below.mono (by assumption) (by first | omega | (simp <;> omega)))) | with_reducible apply Below.drew | with_reducible apply below_drewN | (with_reducible refine Below.alloc ?_ (by first | omega | (simp <;> omega)) _) | (with_reducible refine Below.setCell ?_ (by first | omega | (simp <;> omega)) _)))); rintro e w3 ⟨rfl, hbw3⟩; have hsw3 := hbw3.size; (try simp at hsw3); (skip; (try ((have kw3wr0 := (bnew hbw3) (wr.heap.size) ?pf); (case pf => (first | omega | (simp; done) | (simp; omega))); obtain ⟨kcw3wr0, kfw3wr0, klw3wr0⟩ := kw3wr0))))
            | (go_at_call 42; (with_reducible refine ((unhide H2) _ (own_below (unhide HG) ?pb)).mono ?_); (case pb => have hb0 := unhide HW2; have hb := unhide HB; exact (by repeat (first | with_reducible exact Below.refl _ _ | with_reducible assumption | (with_reducible refine Below.trans ?_ (Below.mono (by assumption) (by first | omega | (simp <;> omega)))) | with_reducible apply Below.drew | with_reducible apply below_drewN | (with_reducible refine Below.alloc ?_ (by first | omega | (simp <;> omega)) _) | (with_reducible refine Below.setCell ?_ (by first | omega | (simp <;> omega)) _)))); rintro e w4 ⟨rfl, hbw4⟩; have hsw4 := hbw4.size; (try simp at hsw4); (skip; (try ((have kw4wr0 := (bnew hbw4) (wr.heap.size) ?pf); (case pf => (first | omega | (simp; done) | (simp; omega))); obtain ⟨kcw4wr0, kfw4wr0, klw4wr0⟩ := kw4wr0)); (try ((have kw4w30 := (bnew hbw4) (w3.heap.size) ?pf); (case pf => (first | omega | (simp; done) | (simp; omega))); obtain ⟨kcw4w30, kfw4w30, klw4w30⟩ := kw4w30))))
            | (at_builtin; refine wpl_append rfl _ _ _ rfl w2.heap.size 60 i0 _ 4 32 Try.underlying56 hi0 hz0 hz1 hz2 rfl (by omega) u k _ rfl (own_below (unhide HO) (show Below wr.heap.size wr _ from (by repeat (first | with_reducible exact Below.refl _ _ | with_reducible assumption | (with_reducible refine Below.trans ?_ (Below.mono (by assumption) (by first | omega | (simp <;> omega)))) | with_reducible apply Below.drew | with_reducible apply below_drewN | (with_reducible refine Below.alloc ?_ (by first | omega | (simp <;> omega)) _) | (with_reducible refine Below.setCell ?_ (by first | omega | (simp <;> omega)) _))))) _ 1 [.int .i64 an, .int .i64 ad, .int .i64 bn, .int .i64 bd] rfl (lies4 (by simp [go_sem, *]) (by simp [go_sem, *]) (by simp [go_sem, *]) (by simp [go_sem, *])) rfl (by simp [Value.oneCell']) (Nat.le_trans (by omega) maxLen_ge) (by omega) (by first | omega | (simp <;> omega)) (k + 1) rfl ?_; intro A6 c6 w6 hown6 hgrow6))
          have hb := unhide HB
          have hbz : Below w2.heap.size w2 w6 := Below.grown (show Below w2.heap.size w2 _ from (by repeat (first | with_reducible exact Below.refl _ _ | with_reducible assumption | (with_reducible refine Below.trans ?_ (Below.mono (by assumption) (by first | omega | (simp <;> omega)))) | with_reducible apply Below.drew | with_reducible apply below_drewN | (with_reducible refine Below.alloc ?_ (by first | omega | (simp <;> omega)) _) | (with_reducible refine Below.setCell ?_ (by first | omega | (simp <;> omega)) _)))) hgrow6 (by first | omega | (simp <;> omega)) (unhide HVB)
          rw [HE1.out] at hown6
          have HO6 := hide hown6
          have HBZ := hide hbz
          clear hown6 hgrow6 hb hbz
          go_wp2_with fail
          go_roundw
          case rel => exact ⟨k + 1, _, by go_num, rfl, by omega, HALL', unhide HO6, unhide HBZ⟩
          case measure => simp [intOf]; omega
    · have hke : k = xs.length := by omega
      have hcv : cvB fs gs xs = true := List.all_eq_true.2 fun x hx => by
        obtain ⟨t, ht, e⟩ := mem_iff_getD.1 hx
        have := (unhide HALL) t (by omega)
        rw [← e, this.1, this.2]
        rfl
      rw [List.take_of_length_le (by omega)] at hown
      obtain ⟨A5, c5, rfl⟩ := own_slice hown
      have HO := hide (hown.mono hsz2); have HB := hide ((unhide HW2).trans (hbwr.mono hsz2))
      have HC := Lib.hid hcv; have HK := Lib.hid hke
      clear hown hbwr hcv hke
      go_wp2
      go_ret2
      refine ⟨⟨fun _ => ⟨A5, c5, ?_, ?_⟩, fun h => (by rw [HC.out] at h; cases h)⟩, unhide HB⟩
      · rw [← HK.out] <;> rfl
      · rw [← HK.out]; exact unhide HO
end Go.Proofs.Ytgkbogcmmedmbaa

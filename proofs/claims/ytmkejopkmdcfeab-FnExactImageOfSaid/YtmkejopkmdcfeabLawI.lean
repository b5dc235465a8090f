/-
  Chapter 2: the law of ImageOf.
-/
import Derived.Test.YtmkejopkmdcfeabImg
namespace Go.Proofs.Ytmkejopkmdcfeab
open Go.RowKit Rm

theorem twoB_img {ps : List Pt} {a b p q : Int} (h : twoB ps a b p q = false) : imgO ps a b p q = none := by
  unfold imgO
  rcases hU : valO ps a b with _ | u
  · rfl
  · rcases hV : valO ps p q with _ | v
    · rfl
    · obtain ⟨hm, hu⟩ := valO_some hU
      obtain ⟨_, hv⟩ := valO_some hV
      have hc : ¬ cmpI (a * q) (p * b) ≤ 0 := by
        intro hc
        rw [show twoB ps a b p q = true by simp [twoB, hm, hu, hv, hc]] at h
        cases h
      simp only [if_neg hc]
set_option maxRecDepth 100000 in
set_option maxHeartbeats 1600000 in
theorem sImageOf_any (A : Option Addr) (n c base : Nat) (ps : List Pt) (a b p q : Int) (w : World) (ha : w.ownsRow base 70 4 (.slice A n c) n (ptcs ps)) (hn : n ≤ 1048576) :
    Calls Try.prog 9 #[.slice A n c, .agg #[.int .i64 (a), .int .i64 (b)], .agg #[.int .i64 (p), .int .i64 (q)]] w fun e w' => e = .returned (imgV (imgO ps a b p q)) ∧ Below w.heap.size w w' := by
  have htw := fun W hW => imTwo_any A n c base ps a b p q W hW hn
  rcases ht : twoB ps a b p q with _ | _
  · rw [twoB_img ht, imgV_none]
    rw [ht] at htw
    have HT := hide htw; have HA := hide ha; clear htw ht ha
    go_enter Try.func9, Try.ntmps9
    go_wp2_with (go_at_call 44; (refine ((unhide HT) _ (own_below (unhide HA) ?pb)).mono ?_); (case pb => exact (by repeat (first | with_reducible exact Below.refl _ _ | with_reducible assumption | (with_reducible refine Below.trans ?_ (Below.mono (by assumption) (by first | omega | (simp <;> omega)))) | with_reducible apply Below.drew | with_reducible apply below_drewN | (with_reducible refine Below.alloc ?_ (by first | omega | (simp <;> omega)) _) | (with_reducible refine Below.setCell ?_ (by first | omega | (simp <;> omega)) _)))); rintro e w1 ⟨rfl, hbw1⟩; (skip; (try ((have kw1w0 := (bnew hbw1) (w.heap.size) ?pf); (case pf => (first | omega | (simp; done) | (simp; omega))); obtain ⟨kcw1w0, kfw1w0, klw1w0⟩ := kw1w0)); (try ((have kw1w1 := (bnew hbw1) (w.heap.size + 1) ?pf); (case pf => (first | omega | (simp; done) | (simp; omega))); obtain ⟨kcw1w1, kfw1w1, klw1w1⟩ := kw1w1)); (try ((have kw1w2 := (bnew hbw1) (w.heap.size + 1 + 1) ?pf); (case pf => (first | omega | (simp; done) | (simp; omega))); obtain ⟨kcw1w2, kfw1w2, klw1w2⟩ := kw1w2)); (try ((have kw1w3 := (bnew hbw1) (w.heap.size + 1 + 1 + 1) ?pf); (case pf => (first | omega | (simp; done) | (simp; omega))); obtain ⟨kcw1w3, kfw1w3, klw1w3⟩ := kw1w3))))
    exact bodyPost_ret (v := .tuple #[.agg #[.int .i64 (0), .int .i64 (0)], .agg #[.int .i64 (0), .int .i64 (0)], .bool false]) (by simp [results, Try.results9, go_sem, *]) rfl ⟨rfl, (by repeat (first | with_reducible exact Below.refl _ _ | with_reducible assumption | (with_reducible refine Below.trans ?_ (Below.mono (by assumption) (by first | omega | (simp <;> omega)))) | with_reducible apply Below.drew | with_reducible apply below_drewN | (with_reducible refine Below.alloc ?_ (by first | omega | (simp <;> omega)) _) | (with_reducible refine Below.setCell ?_ (by first | omega | (simp <;> omega)) _)))⟩
  · rw [ht] at htw
    simp only [twoB, Bool.and_eq_true, decide_eq_true_eq] at ht
    obtain ⟨hm, hua, hub, hle⟩ := ht
    obtain ⟨g, m, qs, rfl, rfl, rfl, hg, hlen⟩ := own_form ha hm
    obtain ⟨x, rfl, rfl, hxf, hx0, hx1⟩ := uB_rat hua
    obtain ⟨y, rfl, rfl, hyf, hy0, hy1⟩ := uB_rat hub
    have him : ∀ W : World, W.ownsRow base 70 4 (.slice (some ⟨g, 0, none⟩) (m + 1) c) (m + 1) (ptcs (qs.map qp)) → Calls Try.prog 45 #[.slice (some ⟨g, 0, none⟩) (m + 1) c, .agg #[.int .i64 (x.num), .int .i64 (x.den)], .agg #[.int .i64 (y.num), .int .i64 (y.den)]] W fun e w' => e = .returned (imgV (imgO (qs.map qp) x.num x.den y.num y.den)) ∧ Below W.heap.size W w' := by
      intro W hW
      unfold imgO
      rw [valO_eq hg hua, valO_eq hg hub]
      rcases hU : vAt qs x with _ | u
      · exact imImage_no g (m + 1) c base qs x y W hW hg hxf hyf (.inl hU)
      · rcases hV : vAt qs y with _ | v
        · exact imImage_no g (m + 1) c base qs x y W hW hg hxf hyf (.inr hV)
        · simp only [if_pos hle, dec_qp, Rat.num_divInt_den, List.length_map, hlen]
          exact imImage_yes g m c base qs x y u v W hW hg hxf hyf hU hV hlen
    clear hua hub hle hm hxf hyf hx0 hx1 hy0 hy1 hg hlen
    unfold imgV at him ⊢
    generalize imgO (qs.map qp) x.num x.den y.num y.den = res at *
    generalize x.num = xn at *
    generalize (x.den : Int) = xd at *
    generalize y.num = yn at *
    generalize (y.den : Int) = yd at *
    generalize oN (res.map (·.1)) = r1 at *
    generalize oD (res.map (·.1)) = r2 at *
    generalize oN (res.map (·.2)) = r3 at *
    generalize oD (res.map (·.2)) = r4 at *
    generalize res.isSome = r5 at *
    have HT := hide htw; have HI := hide him; have HA := hide ha; clear htw him ha
    go_enter Try.func9, Try.ntmps9
    go_wp2_with (first | (go_at_call 44; (refine ((unhide HT) _ (own_below (unhide HA) ?pb)).mono ?_); (case pb => exact (by repeat (first | with_reducible exact Below.refl _ _ | with_reducible assumption | (with_reducible refine Below.trans ?_ (Below.mono (by assumption) (by first | omega | (simp <;> omega)))) | with_reducible apply Below.drew | with_reducible apply below_drewN | (with_reducible refine Below.alloc ?_ (by first | omega | (simp <;> omega)) _) | (with_reducible refine Below.setCell ?_ (by first | omega | (simp <;> omega)) _)))); rintro e w1 ⟨rfl, hbw1⟩; (skip; (try ((have kw1w0 := (bnew hbw1) (w.heap.size) ?pf); (case pf => (first | omega | (simp; done) | (simp; omega))); obtain ⟨kcw1w0, kfw1w0, klw1w0⟩ := kw1w0)); (try ((have kw1w1 := (bnew hbw1) (w.heap.size + 1) ?pf); (case pf => (first | omega | (simp; done) | (simp; omega))); obtain ⟨kcw1w1, kfw1w1, klw1w1⟩ := kw1w1)); (try ((have kw1w2 := (bnew hbw1) (w.heap.size + 1 + 1) ?pf); (case pf => (first | omega | (simp; done) | (simp; omega))); obtain ⟨kcw1w2, kfw1w2, klw1w2⟩ := kw1w2)); (try ((have kw1w3 := (bnew hbw1) (w.heap.size + 1 + 1 + 1) ?pf); (case pf => (first | omega | (simp; done) | (simp; omega))); obtain ⟨kcw1w3, kfw1w3, klw1w3⟩ := kw1w3))); have hz1 := hbw1.size; simp at hz1) | (go_at_call 45; (refine ((unhide HI) _ (own_below (unhide HA) ?pb)).mono ?_); (case pb => exact (by repeat (first | with_reducible exact Below.refl _ _ | with_reducible assumption | (with_reducible refine Below.trans ?_ (Below.mono (by assumption) (by first | omega | (simp <;> omega)))) | with_reducible apply Below.drew | with_reducible apply below_drewN | (with_reducible refine Below.alloc ?_ (by first | omega | (simp <;> omega)) _) | (with_reducible refine Below.setCell ?_ (by first | omega | (simp <;> omega)) _)))); rintro e w2 ⟨rfl, hbw2⟩; (skip; (try ((have kw2w0 := (bnew hbw2) (w.heap.size) ?pf); (case pf => (first | omega | (simp; done) | (simp; omega))); obtain ⟨kcw2w0, kfw2w0, klw2w0⟩ := kw2w0)); (try ((have kw2w1 := (bnew hbw2) (w.heap.size + 1) ?pf); (case pf => (first | omega | (simp; done) | (simp; omega))); obtain ⟨kcw2w1, kfw2w1, klw2w1⟩ := kw2w1)); (try ((have kw2w2 := (bnew hbw2) (w.heap.size + 1 + 1) ?pf); (case pf => (first | omega | (simp; done) | (simp; omega))); obtain ⟨kcw2w2, kfw2w2, klw2w2⟩ := kw2w2)); (try ((have kw2w3 := (bnew hbw2) (w.heap.size + 1 + 1 + 1) ?pf); (case pf => (first | omega | (simp; done) | (simp; omega))); obtain ⟨kcw2w3, kfw2w3, klw2w3⟩ := kw2w3)))))
    exact bodyPost_ret (v := .tuple #[.agg #[.int .i64 (r1), .int .i64 (r2)], .agg #[.int .i64 (r3), .int .i64 (r4)], .bool r5]) (by simp [results, Try.results9, go_sem, *]) rfl ⟨rfl, (by repeat (first | with_reducible exact Below.refl _ _ | with_reducible assumption | (with_reducible refine Below.trans ?_ (Below.mono (by assumption) (by first | omega | (simp <;> omega)))) | with_reducible apply Below.drew | with_reducible apply below_drewN | (with_reducible refine Below.alloc ?_ (by first | omega | (simp <;> omega)) _) | (with_reducible refine Below.setCell ?_ (by first | omega | (simp <;> omega)) _)))⟩
set_option maxRecDepth 100000 in
set_option maxHeartbeats 3200000 in
theorem lawImageOf (A : Option Addr) (n c : Nat) (ps : List Pt) (a b p q : Int) (w : World) (ha : ArgP w A n ps) (hn : n ≤ maxLen) :
    Calls Try.prog 3 #[.slice A n c, .agg #[.int .i64 (a), .int .i64 (b)], .agg #[.int .i64 (p), .int .i64 (q)]] w fun e w' => e = .returned (.bool true) ∧ Below w.heap.size w w' := by
  have hsz := fun W => szPointS_any A n c hn W
  by_cases hs : n ≤ 1048576
  · rw [if_pos hs] at hsz
    have HSZ := hide hsz; clear hsz
    have HA := hide ha; clear ha
    have hsv := fun (W : World) (g base : Nat) hW => sImageOf_any (some ⟨g, 0, none⟩) n n base ps a b p q W hW hs
    have hiv := fun (W : World) (g base : Nat) hW => iImageOf_any (some ⟨g, 0, none⟩) n n base ps a b p q W hW hs
    unfold imgV at hsv hiv
    generalize imgO ps a b p q = res at *
    generalize oN (res.map (·.1)) = r1 at *
    generalize oD (res.map (·.1)) = r2 at *
    generalize oN (res.map (·.2)) = r3 at *
    generalize oD (res.map (·.2)) = r4 at *
    generalize res.isSome = z at *
    have HSV := hide hsv; have HIV := hide hiv; clear hsv hiv res
    go_enter Try.func3, Try.ntmps3
    go_upto_region 5 with (go_at_call 8; (with_reducible refine ((unhide HSZ) _).mono ?_); rintro e w' ⟨rfl, rfl⟩)
    have HA1 := hide ((unhide HA).below (show Below w.heap.size w ((w.alloc (.cells #[.int .i64 a, .int .i64 b] 24)).alloc (.cells #[.int .i64 p, .int .i64 q] 24)) from (by repeat (first | with_reducible exact Below.refl _ _ | with_reducible assumption | (with_reducible refine Below.trans ?_ (Below.mono (by assumption) (by first | omega | (simp <;> omega)))) | with_reducible apply Below.drew | with_reducible apply below_drewN | (with_reducible refine Below.alloc ?_ (by first | omega | (simp <;> omega)) _) | (with_reducible refine Below.setCell ?_ (by first | omega | (simp <;> omega)) _)))))
    go_cut [8, 9, 10] (fun s8 s9 s10 wx => s10 = .bool z ∧ ∃ g h : Nat, s8 = .pointer (some ⟨g, 0, none⟩) ∧ s9 = .pointer (some ⟨h, 0, none⟩) ∧ Box2 ((w.alloc (.cells #[.int .i64 a, .int .i64 b] 24)).alloc (.cells #[.int .i64 p, .int .i64 q] 24)) wx g r1 r2 ∧ Box2 ((w.alloc (.cells #[.int .i64 a, .int .i64 b] 24)).alloc (.cells #[.int .i64 p, .int .i64 q] 24)) wx h r3 r4)
    case first =>
      go_region_held3 (fun w' => w'.cell? ⟨w.heap.size, 0, none⟩ = some (.int .i64 a) ∧ w'.cell? ⟨w.heap.size, 1, none⟩ = some (.int .i64 b) ∧ w'.cell? ⟨w.heap.size + 1, 0, none⟩ = some (.int .i64 p) ∧ w'.cell? ⟨w.heap.size + 1, 1, none⟩ = some (.int .i64 q)) (simp [go_sem, World.cell?_alloc_past, *])
        (first
          | (go_at_call 10; (with_reducible refine (toPointS_any A n c ps _ ((unhide HA1).below ?pb) hs).mono ?_); (case pb => exact (by repeat (first | with_reducible exact Below.refl _ _ | with_reducible assumption | (with_reducible refine Below.trans ?_ (Below.mono (by assumption) (by first | omega | (simp <;> omega)))) | with_reducible apply Below.drew | with_reducible apply below_drewN | (with_reducible refine Below.alloc ?_ (by first | omega | (simp <;> omega)) _) | (with_reducible refine Below.setCell ?_ (by first | omega | (simp <;> omega)) _)))); rintro e w1 ⟨g1, rfl, ho1, hbw1⟩; (skip; (try ((have kw1w0 := (bnew hbw1) (w.heap.size) ?pf); (case pf => (first | omega | (simp; done) | (simp; omega))); obtain ⟨kcw1w0, kfw1w0, klw1w0⟩ := kw1w0)); (try ((have kw1w1 := (bnew hbw1) (w.heap.size + 1) ?pf); (case pf => (first | omega | (simp; done) | (simp; omega))); obtain ⟨kcw1w1, kfw1w1, klw1w1⟩ := kw1w1)); (try ((have kw1w2 := (bnew hbw1) (w.heap.size + 1 + 1) ?pf); (case pf => (first | omega | (simp; done) | (simp; omega))); obtain ⟨kcw1w2, kfw1w2, klw1w2⟩ := kw1w2)); (try ((have kw1w3 := (bnew hbw1) (w.heap.size + 1 + 1 + 1) ?pf); (case pf => (first | omega | (simp; done) | (simp; omega))); obtain ⟨kcw1w3, kfw1w3, klw1w3⟩ := kw1w3)); (try ((have kw1w20 := (bnew hbw1) (w2.heap.size) ?pf); (case pf => (first | omega | (simp; done) | (simp; omega))); obtain ⟨kcw1w20, kfw1w20, klw1w20⟩ := kw1w20)); (try ((have kw1w21 := (bnew hbw1) (w2.heap.size + 1) ?pf); (case pf => (first | omega | (simp; done) | (simp; omega))); obtain ⟨kcw1w21, kfw1w21, klw1w21⟩ := kw1w21)); (try ((have kw1w30 := (bnew hbw1) (w3.heap.size) ?pf); (case pf => (first | omega | (simp; done) | (simp; omega))); obtain ⟨kcw1w30, kfw1w30, klw1w30⟩ := kw1w30)); (try ((have kw1w31 := (bnew hbw1) (w3.heap.size + 1) ?pf); (case pf => (first | omega | (simp; done) | (simp; omega))); obtain ⟨kcw1w31, kfw1w31, klw1w31⟩ := kw1w31))); have HO1 := hide ho1; clear ho1)
          | (go_at_call 11; (with_reducible refine (toRat_any a b _).mono ?_); rintro e w2 ⟨rfl, hbw2⟩; obtain ⟨hcw2, hfw2⟩ := bcell hbw2; have hzw2 := hbw2.size; (try simp at hzw2); (try ((have kw2w0 := (bnew hbw2) (w.heap.size) ?pf); (case pf => (first | omega | (simp; done) | (simp; omega))); obtain ⟨kcw2w0, kfw2w0, klw2w0⟩ := kw2w0)); (try ((have kw2w1 := (bnew hbw2) (w.heap.size + 1) ?pf); (case pf => (first | omega | (simp; done) | (simp; omega))); obtain ⟨kcw2w1, kfw2w1, klw2w1⟩ := kw2w1)); (try ((have kw2w2 := (bnew hbw2) (w.heap.size + 1 + 1) ?pf); (case pf => (first | omega | (simp; done) | (simp; omega))); obtain ⟨kcw2w2, kfw2w2, klw2w2⟩ := kw2w2)); (try ((have kw2w3 := (bnew hbw2) (w.heap.size + 1 + 1 + 1) ?pf); (case pf => (first | omega | (simp; done) | (simp; omega))); obtain ⟨kcw2w3, kfw2w3, klw2w3⟩ := kw2w3)); (try ((have kw2w10 := (bnew hbw2) (w1.heap.size) ?pf); (case pf => (first | omega | (simp; done) | (simp; omega))); obtain ⟨kcw2w10, kfw2w10, klw2w10⟩ := kw2w10)); (try ((have kw2w11 := (bnew hbw2) (w1.heap.size + 1) ?pf); (case pf => (first | omega | (simp; done) | (simp; omega))); obtain ⟨kcw2w11, kfw2w11, klw2w11⟩ := kw2w11)); (try ((have kw2w30 := (bnew hbw2) (w3.heap.size) ?pf); (case pf => (first | omega | (simp; done) | (simp; omega))); obtain ⟨kcw2w30, kfw2w30, klw2w30⟩ := kw2w30)); (try ((have kw2w31 := (bnew hbw2) (w3.heap.size + 1) ?pf); (case pf => (first | omega | (simp; done) | (simp; omega))); obtain ⟨kcw2w31, kfw2w31, klw2w31⟩ := kw2w31)))
          | (go_at_call 11; (with_reducible refine (toRat_any p q _).mono ?_); rintro e w3 ⟨rfl, hbw3⟩; obtain ⟨hcw3, hfw3⟩ := bcell hbw3; have hzw3 := hbw3.size; (try simp at hzw3); (try ((have kw3w0 := (bnew hbw3) (w.heap.size) ?pf); (case pf => (first | omega | (simp; done) | (simp; omega))); obtain ⟨kcw3w0, kfw3w0, klw3w0⟩ := kw3w0)); (try ((have kw3w1 := (bnew hbw3) (w.heap.size + 1) ?pf); (case pf => (first | omega | (simp; done) | (simp; omega))); obtain ⟨kcw3w1, kfw3w1, klw3w1⟩ := kw3w1)); (try ((have kw3w2 := (bnew hbw3) (w.heap.size + 1 + 1) ?pf); (case pf => (first | omega | (simp; done) | (simp; omega))); obtain ⟨kcw3w2, kfw3w2, klw3w2⟩ := kw3w2)); (try ((have kw3w3 := (bnew hbw3) (w.heap.size + 1 + 1 + 1) ?pf); (case pf => (first | omega | (simp; done) | (simp; omega))); obtain ⟨kcw3w3, kfw3w3, klw3w3⟩ := kw3w3)); (try ((have kw3w10 := (bnew hbw3) (w1.heap.size) ?pf); (case pf => (first | omega | (simp; done) | (simp; omega))); obtain ⟨kcw3w10, kfw3w10, klw3w10⟩ := kw3w10)); (try ((have kw3w11 := (bnew hbw3) (w1.heap.size + 1) ?pf); (case pf => (first | omega | (simp; done) | (simp; omega))); obtain ⟨kcw3w11, kfw3w11, klw3w11⟩ := kw3w11)); (try ((have kw3w20 := (bnew hbw3) (w2.heap.size) ?pf); (case pf => (first | omega | (simp; done) | (simp; omega))); obtain ⟨kcw3w20, kfw3w20, klw3w20⟩ := kw3w20)); (try ((have kw3w21 := (bnew hbw3) (w2.heap.size + 1) ?pf); (case pf => (first | omega | (simp; done) | (simp; omega))); obtain ⟨kcw3w21, kfw3w21, klw3w21⟩ := kw3w21)))
          | (go_at_call 9; (with_reducible refine ((unhide HSV) _ _ _ (own_below (unhide HO1) ?pb)).mono ?_); (case pb => exact (by repeat (first | with_reducible exact Below.refl _ _ | with_reducible assumption | (with_reducible refine Below.trans ?_ (Below.mono (by assumption) (by first | omega | (simp <;> omega)))) | with_reducible apply Below.drew | with_reducible apply below_drewN | (with_reducible refine Below.alloc ?_ (by first | omega | (simp <;> omega)) _) | (with_reducible refine Below.setCell ?_ (by first | omega | (simp <;> omega)) _)))); rintro e w4 ⟨rfl, hbw4⟩; (skip; (try ((have kw4w0 := (bnew hbw4) (w.heap.size) ?pf); (case pf => (first | omega | (simp; done) | (simp; omega))); obtain ⟨kcw4w0, kfw4w0, klw4w0⟩ := kw4w0)); (try ((have kw4w1 := (bnew hbw4) (w.heap.size + 1) ?pf); (case pf => (first | omega | (simp; done) | (simp; omega))); obtain ⟨kcw4w1, kfw4w1, klw4w1⟩ := kw4w1)); (try ((have kw4w2 := (bnew hbw4) (w.heap.size + 1 + 1) ?pf); (case pf => (first | omega | (simp; done) | (simp; omega))); obtain ⟨kcw4w2, kfw4w2, klw4w2⟩ := kw4w2)); (try ((have kw4w3 := (bnew hbw4) (w.heap.size + 1 + 1 + 1) ?pf); (case pf => (first | omega | (simp; done) | (simp; omega))); obtain ⟨kcw4w3, kfw4w3, klw4w3⟩ := kw4w3)); (try ((have kw4w10 := (bnew hbw4) (w1.heap.size) ?pf); (case pf => (first | omega | (simp; done) | (simp; omega))); obtain ⟨kcw4w10, kfw4w10, klw4w10⟩ := kw4w10)); (try ((have kw4w11 := (bnew hbw4) (w1.heap.size + 1) ?pf); (case pf => (first | omega | (simp; done) | (simp; omega))); obtain ⟨kcw4w11, kfw4w11, klw4w11⟩ := kw4w11)); (try ((have kw4w20 := (bnew hbw4) (w2.heap.size) ?pf); (case pf => (first | omega | (simp; done) | (simp; omega))); obtain ⟨kcw4w20, kfw4w20, klw4w20⟩ := kw4w20)); (try ((have kw4w21 := (bnew hbw4) (w2.heap.size + 1) ?pf); (case pf => (first | omega | (simp; done) | (simp; omega))); obtain ⟨kcw4w21, kfw4w21, klw4w21⟩ := kw4w21)); (try ((have kw4w30 := (bnew hbw4) (w3.heap.size) ?pf); (case pf => (first | omega | (simp; done) | (simp; omega))); obtain ⟨kcw4w30, kfw4w30, klw4w30⟩ := kw4w30)); (try ((have kw4w31 := (bnew hbw4) (w3.heap.size + 1) ?pf); (case pf => (first | omega | (simp; done) | (simp; omega))); obtain ⟨kcw4w31, kfw4w31, klw4w31⟩ := kw4w31)))))
      all_goals
        go_wp2_with fail
        go_meet
        refine ⟨rfl, _, _, rfl, rfl, ⟨(by repeat (first | with_reducible exact Below.refl _ _ | with_reducible assumption | (with_reducible refine Below.trans ?_ (Below.mono (by assumption) (by first | omega | (simp <;> omega)))) | with_reducible apply Below.drew | with_reducible apply below_drewN | (with_reducible refine Below.alloc ?_ (by first | omega | (simp <;> omega)) _) | (with_reducible refine Below.setCell ?_ (by first | omega | (simp <;> omega)) _))), ?_, ?_, ?_, ?_, ?_, ?_⟩, ⟨(by repeat (first | with_reducible exact Below.refl _ _ | with_reducible assumption | (with_reducible refine Below.trans ?_ (Below.mono (by assumption) (by first | omega | (simp <;> omega)))) | with_reducible apply Below.drew | with_reducible apply below_drewN | (with_reducible refine Below.alloc ?_ (by first | omega | (simp <;> omega)) _) | (with_reducible refine Below.setCell ?_ (by first | omega | (simp <;> omega)) _))), ?_, ?_, ?_, ?_, ?_, ?_⟩⟩
      all_goals first | (go_simp; done) | (simp [go_sem, *]; done) | omega | (simp; omega)
    case rest =>
      obtain ⟨rfl, g, h, rfl, rfl, hB, hC⟩ := hcut
      have hbwc := hB.below
      have hzc := hbwc.size
      simp at hzc
      (skip; (try ((have kwcw0 := (bnew hbwc) (w.heap.size) ?pf); (case pf => (first | omega | (simp; done) | (simp; omega))); obtain ⟨kcwcw0, kfwcw0, klwcw0⟩ := kwcw0)); (try ((have kwcw1 := (bnew hbwc) (w.heap.size + 1) ?pf); (case pf => (first | omega | (simp; done) | (simp; omega))); obtain ⟨kcwcw1, kfwcw1, klwcw1⟩ := kwcw1)))
      have ca : wc.cell? ⟨w.heap.size, 0, none⟩ = some (.int .i64 a) := (kcwcw0 0).trans (by simp [go_sem])
      have cb : wc.cell? ⟨w.heap.size, 1, none⟩ = some (.int .i64 b) := (kcwcw0 1).trans (by simp [go_sem])
      have cp : wc.cell? ⟨w.heap.size + 1, 0, none⟩ = some (.int .i64 p) := (kcwcw1 0).trans (by simp [go_sem])
      have cq' : wc.cell? ⟨w.heap.size + 1, 1, none⟩ = some (.int .i64 q) := (kcwcw1 1).trans (by simp [go_sem])
      have g0 := hB.c0
      have g1' := hB.c1
      have hgl := hB.hi
      have h0 := hC.c0
      have h1 := hC.c1
      have hhl := hC.hi
      have HA2 := hide ((unhide HA1).below hbwc)
      have hbw : Below w.heap.size w wc := (by repeat (first | with_reducible exact Below.refl _ _ | with_reducible assumption | (with_reducible refine Below.trans ?_ (Below.mono (by assumption) (by first | omega | (simp <;> omega)))) | with_reducible apply Below.drew | with_reducible apply below_drewN | (with_reducible refine Below.alloc ?_ (by first | omega | (simp <;> omega)) _) | (with_reducible refine Below.setCell ?_ (by first | omega | (simp <;> omega)) _)))
      have hzw := hbw.size
      have HBW := hide hbw
      clear hB hC hbwc kcwcw0 kfwcw0 kcwcw1 kfwcw1 hbw HA1 HA
      cases z
      all_goals
        go_wp2_with fail
        refine (toPointS_any A n c ps _ (unhide HA2) hs).mono ?_
        rintro e w3 ⟨g3, rfl, ho3, hbw3⟩
        have hz3 := hbw3.size
        (skip; (try ((have kw3gX0 := (bnew hbw3) (g) ?pf); (case pf => (first | omega | (simp; done) | (simp; omega))); obtain ⟨kcw3gX0, kfw3gX0, klw3gX0⟩ := kw3gX0)); (try ((have kw3hX0 := (bnew hbw3) (h) ?pf); (case pf => (first | omega | (simp; done) | (simp; omega))); obtain ⟨kcw3hX0, kfw3hX0, klw3hX0⟩ := kw3hX0)); (try ((have kw3w0 := (bnew hbw3) (w.heap.size) ?pf); (case pf => (first | omega | (simp; done) | (simp; omega))); obtain ⟨kcw3w0, kfw3w0, klw3w0⟩ := kw3w0)); (try ((have kw3w1 := (bnew hbw3) (w.heap.size + 1) ?pf); (case pf => (first | omega | (simp; done) | (simp; omega))); obtain ⟨kcw3w1, kfw3w1, klw3w1⟩ := kw3w1)))
        have d0 := (kcw3w0 0).trans ca
        have d1 := (kcw3w0 1).trans cb
        have d2 := (kcw3w1 0).trans cp
        have d3 := (kcw3w1 1).trans cq'
        have d4 := (kcw3gX0 0).trans g0
        have d5 := (kcw3gX0 1).trans g1'
        have d6 := (kcw3hX0 0).trans h0
        have d7 := (kcw3hX0 1).trans h1
        have HO3 := hide ho3
        have HB3 := hide hbw3
        clear ho3 hbw3 kcw3w0 kfw3w0 kcw3w1 kfw3w1 kcw3gX0 kfw3gX0 kcw3hX0 kfw3hX0 ca cb cp cq' g0 g1' h0 h1
        go_upto_region 7 with fail
        go_cut [12, 13, 14] (fun s12 s13 s14 wx => s14 = .bool _ ∧ ∃ g' h' : Nat, s12 = .pointer (some ⟨g', 0, none⟩) ∧ s13 = .pointer (some ⟨h', 0, none⟩) ∧ Box2 w3 wx g' r1 r2 ∧ Box2 w3 wx h' r3 r4)
        case first =>
          go_region_held3 (fun w' => w'.cell? ⟨w.heap.size, 0, none⟩ = some (.int .i64 a) ∧ w'.cell? ⟨w.heap.size, 1, none⟩ = some (.int .i64 b) ∧ w'.cell? ⟨w.heap.size + 1, 0, none⟩ = some (.int .i64 p) ∧ w'.cell? ⟨w.heap.size + 1, 1, none⟩ = some (.int .i64 q)) (simp [go_sem, World.cell?_alloc_past, *])
            (first
              | (go_at_call 11; (with_reducible refine (toRat_any a b _).mono ?_); rintro e w4 ⟨rfl, hbw4⟩; obtain ⟨hcw4, hfw4⟩ := bcell hbw4; have hzw4 := hbw4.size; (try simp at hzw4); (try ((have kw4w0 := (bnew hbw4) (w.heap.size) ?pf); (case pf => (first | omega | (simp; done) | (simp; omega))); obtain ⟨kcw4w0, kfw4w0, klw4w0⟩ := kw4w0)); (try ((have kw4w1 := (bnew hbw4) (w.heap.size + 1) ?pf); (case pf => (first | omega | (simp; done) | (simp; omega))); obtain ⟨kcw4w1, kfw4w1, klw4w1⟩ := kw4w1)); (try ((have kw4w30 := (bnew hbw4) (w3.heap.size) ?pf); (case pf => (first | omega | (simp; done) | (simp; omega))); obtain ⟨kcw4w30, kfw4w30, klw4w30⟩ := kw4w30)); (try ((have kw4w31 := (bnew hbw4) (w3.heap.size + 1) ?pf); (case pf => (first | omega | (simp; done) | (simp; omega))); obtain ⟨kcw4w31, kfw4w31, klw4w31⟩ := kw4w31)); (try ((have kw4w50 := (bnew hbw4) (w5.heap.size) ?pf); (case pf => (first | omega | (simp; done) | (simp; omega))); obtain ⟨kcw4w50, kfw4w50, klw4w50⟩ := kw4w50)); (try ((have kw4w51 := (bnew hbw4) (w5.heap.size + 1) ?pf); (case pf => (first | omega | (simp; done) | (simp; omega))); obtain ⟨kcw4w51, kfw4w51, klw4w51⟩ := kw4w51)))
              | (go_at_call 11; (with_reducible refine (toRat_any p q _).mono ?_); rintro e w5 ⟨rfl, hbw5⟩; obtain ⟨hcw5, hfw5⟩ := bcell hbw5; have hzw5 := hbw5.size; (try simp at hzw5); (try ((have kw5w0 := (bnew hbw5) (w.heap.size) ?pf); (case pf => (first | omega | (simp; done) | (simp; omega))); obtain ⟨kcw5w0, kfw5w0, klw5w0⟩ := kw5w0)); (try ((have kw5w1 := (bnew hbw5) (w.heap.size + 1) ?pf); (case pf => (first | omega | (simp; done) | (simp; omega))); obtain ⟨kcw5w1, kfw5w1, klw5w1⟩ := kw5w1)); (try ((have kw5w30 := (bnew hbw5) (w3.heap.size) ?pf); (case pf => (first | omega | (simp; done) | (simp; omega))); obtain ⟨kcw5w30, kfw5w30, klw5w30⟩ := kw5w30)); (try ((have kw5w31 := (bnew hbw5) (w3.heap.size + 1) ?pf); (case pf => (first | omega | (simp; done) | (simp; omega))); obtain ⟨kcw5w31, kfw5w31, klw5w31⟩ := kw5w31)); (try ((have kw5w40 := (bnew hbw5) (w4.heap.size) ?pf); (case pf => (first | omega | (simp; done) | (simp; omega))); obtain ⟨kcw5w40, kfw5w40, klw5w40⟩ := kw5w40)); (try ((have kw5w41 := (bnew hbw5) (w4.heap.size + 1) ?pf); (case pf => (first | omega | (simp; done) | (simp; omega))); obtain ⟨kcw5w41, kfw5w41, klw5w41⟩ := kw5w41)))
              | (go_at_call 12; (with_reducible refine ((unhide HIV) _ _ _ (own_below (unhide HO3) ?pb)).mono ?_); (case pb => exact (by repeat (first | with_reducible exact Below.refl _ _ | with_reducible assumption | (with_reducible refine Below.trans ?_ (Below.mono (by assumption) (by first | omega | (simp <;> omega)))) | with_reducible apply Below.drew | with_reducible apply below_drewN | (with_reducible refine Below.alloc ?_ (by first | omega | (simp <;> omega)) _) | (with_reducible refine Below.setCell ?_ (by first | omega | (simp <;> omega)) _)))); rintro e w6 ⟨rfl, hbw6⟩; have hz6 := hbw6.size; (try simp at hz6); (skip; (try ((have kw6w0 := (bnew hbw6) (w.heap.size) ?pf); (case pf => (first | omega | (simp; done) | (simp; omega))); obtain ⟨kcw6w0, kfw6w0, klw6w0⟩ := kw6w0)); (try ((have kw6w1 := (bnew hbw6) (w.heap.size + 1) ?pf); (case pf => (first | omega | (simp; done) | (simp; omega))); obtain ⟨kcw6w1, kfw6w1, klw6w1⟩ := kw6w1)); (try ((have kw6w30 := (bnew hbw6) (w3.heap.size) ?pf); (case pf => (first | omega | (simp; done) | (simp; omega))); obtain ⟨kcw6w30, kfw6w30, klw6w30⟩ := kw6w30)); (try ((have kw6w31 := (bnew hbw6) (w3.heap.size + 1) ?pf); (case pf => (first | omega | (simp; done) | (simp; omega))); obtain ⟨kcw6w31, kfw6w31, klw6w31⟩ := kw6w31)); (try ((have kw6w40 := (bnew hbw6) (w4.heap.size) ?pf); (case pf => (first | omega | (simp; done) | (simp; omega))); obtain ⟨kcw6w40, kfw6w40, klw6w40⟩ := kw6w40)); (try ((have kw6w41 := (bnew hbw6) (w4.heap.size + 1) ?pf); (case pf => (first | omega | (simp; done) | (simp; omega))); obtain ⟨kcw6w41, kfw6w41, klw6w41⟩ := kw6w41)); (try ((have kw6w50 := (bnew hbw6) (w5.heap.size) ?pf); (case pf => (first | omega | (simp; done) | (simp; omega))); obtain ⟨kcw6w50, kfw6w50, klw6w50⟩ := kw6w50)); (try ((have kw6w51 := (bnew hbw6) (w5.heap.size + 1) ?pf); (case pf => (first | omega | (simp; done) | (simp; omega))); obtain ⟨kcw6w51, kfw6w51, klw6w51⟩ := kw6w51)))))
          all_goals
            go_wp2_with fail
            go_meet
            refine ⟨rfl, _, _, rfl, rfl, ⟨(by repeat (first | with_reducible exact Below.refl _ _ | with_reducible assumption | (with_reducible refine Below.trans ?_ (Below.mono (by assumption) (by first | omega | (simp <;> omega)))) | with_reducible apply Below.drew | with_reducible apply below_drewN | (with_reducible refine Below.alloc ?_ (by first | omega | (simp <;> omega)) _) | (with_reducible refine Below.setCell ?_ (by first | omega | (simp <;> omega)) _))), ?_, ?_, ?_, ?_, ?_, ?_⟩, ⟨(by repeat (first | with_reducible exact Below.refl _ _ | with_reducible assumption | (with_reducible refine Below.trans ?_ (Below.mono (by assumption) (by first | omega | (simp <;> omega)))) | with_reducible apply Below.drew | with_reducible apply below_drewN | (with_reducible refine Below.alloc ?_ (by first | omega | (simp <;> omega)) _) | (with_reducible refine Below.setCell ?_ (by first | omega | (simp <;> omega)) _))), ?_, ?_, ?_, ?_, ?_, ?_⟩⟩
          all_goals first | (go_simp; done) | (simp [go_sem, *]; done) | omega | (simp; omega)
        case rest =>
          obtain ⟨rfl, g', h', rfl, rfl, hB, hC⟩ := hcut
          have hb3 := hB.below
          have hzb := hb3.size
          have b0 := hB.c0
          have b1 := hB.c1
          have b2 := hC.c0
          have b3 := hC.c1
          have hgl' := hB.hi
          have hhl' := hC.hi
          have a0 : wc.cell? ⟨g, 0, none⟩ = some (.int .i64 r1) := (hb3.cell (by simp; omega)).trans d4
          have a1 : wc.cell? ⟨g, 1, none⟩ = some (.int .i64 r2) := (hb3.cell (by simp; omega)).trans d5
          have a2 : wc.cell? ⟨h, 0, none⟩ = some (.int .i64 r3) := (hb3.cell (by simp; omega)).trans d6
          have a3 : wc.cell? ⟨h, 1, none⟩ = some (.int .i64 r4) := (hb3.cell (by simp; omega)).trans d7
          have hgc : g < wc.heap.size := by omega
          have hhc : h < wc.heap.size := by omega
          have HO4 := hide (own_below (unhide HO3) hb3)
          have hw4 := (unhide HB3).trans (hb3.mono hz3)
          have HA4 := hide ((unhide HA2).below hw4)
          have hbw := (unhide HBW).trans (hw4.mono (unhide HBW).size)
          have HBW4 := hide hbw
          have hzw4 := hbw.size
          clear hB hC hb3 d0 d1 d2 d3 d4 d5 d6 d7 hw4 hbw
          go_wp2_with (first | (go_at_call 13; (with_reducible refine (eqRat_same r1 r2 _).mono ?_); rintro e w7 ⟨rfl, hbw7⟩; obtain ⟨hcw7, hfw7⟩ := bcell hbw7; have hzw7 := hbw7.size; (try simp at hzw7); (try ((have kw7hX0 := (bnew hbw7) (h) ?pf); (case pf => (first | omega | (simp; done) | (simp; omega))); obtain ⟨kcw7hX0, kfw7hX0, klw7hX0⟩ := kw7hX0)); (try ((have kw7h'X0 := (bnew hbw7) (h') ?pf); (case pf => (first | omega | (simp; done) | (simp; omega))); obtain ⟨kcw7h'X0, kfw7h'X0, klw7h'X0⟩ := kw7h'X0))) | (go_at_call 13; have _t := hbw7; clear _t; (with_reducible refine (eqRat_same r3 r4 _).mono ?_); rintro e w8 ⟨rfl, hbw8⟩; obtain ⟨hcw8, hfw8⟩ := bcell hbw8; have hzw8 := hbw8.size; (try simp at hzw8); (try ((have kw8hX0 := (bnew hbw8) (h) ?pf); (case pf => (first | omega | (simp; done) | (simp; omega))); obtain ⟨kcw8hX0, kfw8hX0, klw8hX0⟩ := kw8hX0))))
          have hbx : Below wc.heap.size wc w8 := (by repeat (first | with_reducible exact Below.refl _ _ | with_reducible assumption | (with_reducible refine Below.trans ?_ (Below.mono (by assumption) (by first | omega | (simp <;> omega)))) | with_reducible apply Below.drew | with_reducible apply below_drewN | (with_reducible refine Below.alloc ?_ (by first | omega | (simp <;> omega)) _) | (with_reducible refine Below.setCell ?_ (by first | omega | (simp <;> omega)) _)))
          have hzx := hbx.size
          have HA8 := hide ((unhide HA4).below hbx)
          have HO8 := hide (own_below (unhide HO4) hbx)
          refine (toPointS_any A n c ps _ (unhide HA8) hs).mono ?_
          rintro e w9 ⟨g9, rfl, ho9, hbw9⟩
          have hz9 := hbw9.size
          have HO9 := hide ho9; clear ho9
          go_wp2_with fail
          refine (eqPointS_same _ _ n n n _ _ ps w9 (own_below (unhide HO8) hbw9) (unhide HO9) hs).mono ?_
          rintro e w10 ⟨rfl, hbw10⟩
          have hbw := unhide HBW4
          go_wp2_with fail
          go_ret
          exact ⟨rfl, (by repeat (first | with_reducible exact Below.refl _ _ | with_reducible assumption | (with_reducible refine Below.trans ?_ (Below.mono (by assumption) (by first | omega | (simp <;> omega)))) | with_reducible apply Below.drew | with_reducible apply below_drewN | (with_reducible refine Below.alloc ?_ (by first | omega | (simp <;> omega)) _) | (with_reducible refine Below.setCell ?_ (by first | omega | (simp <;> omega)) _)))⟩
  · rw [if_neg hs] at hsz
    have HSZ := hide hsz; clear hsz ha
    go_enter Try.func3, Try.ntmps3
    go_wp2_with (go_at_call 8; (with_reducible refine ((unhide HSZ) _).mono ?_); rintro e w' ⟨rfl, rfl⟩)
    go_ret
    exact ⟨rfl, (by repeat (first | with_reducible exact Below.refl _ _ | with_reducible assumption | (with_reducible refine Below.trans ?_ (Below.mono (by assumption) (by first | omega | (simp <;> omega)))) | with_reducible apply Below.drew | with_reducible apply below_drewN | (with_reducible refine Below.alloc ?_ (by first | omega | (simp <;> omega)) _) | (with_reducible refine Below.setCell ?_ (by first | omega | (simp <;> omega)) _)))⟩
end Go.Proofs.Ytmkejopkmdcfeab

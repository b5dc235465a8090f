/-
  Chapter 2: the law of ValueAt.
-/
import Derived.Test.YtmkejopkmdcfeaaVa
namespace Go.Proofs.Ytmkejopkmdcfeaa
open Go.RowKit Rm

set_option maxRecDepth 100000 in
set_option maxHeartbeats 1600000 in
theorem lawValueAt (A : Option Addr) (n c : Nat) (ps : List Pt) (a b : Int) (w : World) (ha : ArgP w A n ps) (hn : n ≤ maxLen) :
    Calls Try.prog 3 #[.slice A n c, .agg #[.int .i64 (a), .int .i64 (b)]] w fun e w' => e = .returned (.bool true) ∧ Below w.heap.size w w' := by
  have hsz := fun W => szPointS_any A n c hn W
  by_cases hs : n ≤ 1048576
  · rw [if_pos hs] at hsz
    have HSZ := hide hsz; clear hsz
    have HA := hide ha; clear ha
    have hsv := fun (W : World) (g base : Nat) hW => sValueAt_any (some ⟨g, 0, none⟩) n n base ps a b W hW hs
    have hiv := fun (W : World) (g base : Nat) hW => iValueAt_any (some ⟨g, 0, none⟩) n n base ps a b W hW hs
    generalize valO ps a b = res at *
    generalize oN res = u at *
    generalize oD res = v at *
    generalize res.isSome = z at *
    have HSV := hide hsv; have HIV := hide hiv; clear hsv hiv res
    go_enter Try.func3, Try.ntmps3
    go_upto_region 5 with (go_at_call 15; (with_reducible refine ((unhide HSZ) _).mono ?_); rintro e w' ⟨rfl, rfl⟩)
    have HA1 := hide ((unhide HA).below (show Below w.heap.size w (w.alloc (.cells #[.int .i64 a, .int .i64 b] 24)) from (by repeat (first | with_reducible exact Below.refl _ _ | with_reducible assumption | (with_reducible refine Below.trans ?_ (Below.mono (by assumption) (by first | omega | (simp <;> omega)))) | with_reducible apply Below.drew | with_reducible apply below_drewN | (with_reducible refine Below.alloc ?_ (by first | omega | (simp <;> omega)) _) | (with_reducible refine Below.setCell ?_ (by first | omega | (simp <;> omega)) _)))))
    go_cut [6, 7] (fun s6 s7 wx => s7 = .bool z ∧ ∃ g : Nat, s6 = .pointer (some ⟨g, 0, none⟩) ∧ Box2 (w.alloc (.cells #[.int .i64 a, .int .i64 b] 24)) wx g u v)
    case first =>
      go_region_held3 (fun w' => w'.cell? ⟨w.heap.size, 0, none⟩ = some (.int .i64 a) ∧ w'.cell? ⟨w.heap.size, 1, none⟩ = some (.int .i64 b)) (simp [go_sem, World.cell?_alloc_past, *])
        (first
          | (go_at_call 17; (with_reducible refine (toPointS_any A n c ps _ ((unhide HA1).below ?pb) hs).mono ?_); (case pb => exact (by repeat (first | with_reducible exact Below.refl _ _ | with_reducible assumption | (with_reducible refine Below.trans ?_ (Below.mono (by assumption) (by first | omega | (simp <;> omega)))) | with_reducible apply Below.drew | with_reducible apply below_drewN | (with_reducible refine Below.alloc ?_ (by first | omega | (simp <;> omega)) _) | (with_reducible refine Below.setCell ?_ (by first | omega | (simp <;> omega)) _)))); rintro e w1 ⟨g1, rfl, ho1, hbw1⟩; (skip; (try ((have kw1w0 := (bnew hbw1) (w.heap.size) ?pf); (case pf => (first | omega | (simp; done) | (simp; omega))); obtain ⟨kcw1w0, kfw1w0, klw1w0⟩ := kw1w0)); (try ((have kw1w1 := (bnew hbw1) (w.heap.size + 1) ?pf); (case pf => (first | omega | (simp; done) | (simp; omega))); obtain ⟨kcw1w1, kfw1w1, klw1w1⟩ := kw1w1)); (try ((have kw1w20 := (bnew hbw1) (w2.heap.size) ?pf); (case pf => (first | omega | (simp; done) | (simp; omega))); obtain ⟨kcw1w20, kfw1w20, klw1w20⟩ := kw1w20))); have HO1 := hide ho1; clear ho1)
          | (go_at_call 18; (with_reducible refine (toRat_any _ _ _).mono ?_); rintro e w2 ⟨rfl, hbw2⟩; obtain ⟨hcw2, hfw2⟩ := bcell hbw2; have hzw2 := hbw2.size; (try simp at hzw2); (try ((have kw2w0 := (bnew hbw2) (w.heap.size) ?pf); (case pf => (first | omega | (simp; done) | (simp; omega))); obtain ⟨kcw2w0, kfw2w0, klw2w0⟩ := kw2w0)); (try ((have kw2w1 := (bnew hbw2) (w.heap.size + 1) ?pf); (case pf => (first | omega | (simp; done) | (simp; omega))); obtain ⟨kcw2w1, kfw2w1, klw2w1⟩ := kw2w1)); (try ((have kw2w10 := (bnew hbw2) (w1.heap.size) ?pf); (case pf => (first | omega | (simp; done) | (simp; omega))); obtain ⟨kcw2w10, kfw2w10, klw2w10⟩ := kw2w10)))
          | (go_at_call 16; (with_reducible refine ((unhide HSV) _ _ _ (own_below (unhide HO1) ?pb)).mono ?_); (case pb => exact (by repeat (first | with_reducible exact Below.refl _ _ | with_reducible assumption | (with_reducible refine Below.trans ?_ (Below.mono (by assumption) (by first | omega | (simp <;> omega)))) | with_reducible apply Below.drew | with_reducible apply below_drewN | (with_reducible refine Below.alloc ?_ (by first | omega | (simp <;> omega)) _) | (with_reducible refine Below.setCell ?_ (by first | omega | (simp <;> omega)) _)))); rintro e w3 ⟨rfl, hbw3⟩; (skip; (try ((have kw3w0 := (bnew hbw3) (w.heap.size) ?pf); (case pf => (first | omega | (simp; done) | (simp; omega))); obtain ⟨kcw3w0, kfw3w0, klw3w0⟩ := kw3w0)); (try ((have kw3w1 := (bnew hbw3) (w.heap.size + 1) ?pf); (case pf => (first | omega | (simp; done) | (simp; omega))); obtain ⟨kcw3w1, kfw3w1, klw3w1⟩ := kw3w1)); (try ((have kw3w10 := (bnew hbw3) (w1.heap.size) ?pf); (case pf => (first | omega | (simp; done) | (simp; omega))); obtain ⟨kcw3w10, kfw3w10, klw3w10⟩ := kw3w10)); (try ((have kw3w20 := (bnew hbw3) (w2.heap.size) ?pf); (case pf => (first | omega | (simp; done) | (simp; omega))); obtain ⟨kcw3w20, kfw3w20, klw3w20⟩ := kw3w20)))))
      all_goals
        go_wp2_with fail
        go_meet
        refine ⟨rfl, _, rfl, ⟨(by repeat (first | with_reducible exact Below.refl _ _ | with_reducible assumption | (with_reducible refine Below.trans ?_ (Below.mono (by assumption) (by first | omega | (simp <;> omega)))) | with_reducible apply Below.drew | with_reducible apply below_drewN | (with_reducible refine Below.alloc ?_ (by first | omega | (simp <;> omega)) _) | (with_reducible refine Below.setCell ?_ (by first | omega | (simp <;> omega)) _))), ?_, ?_, ?_, ?_, ?_, ?_⟩⟩
      all_goals first | (go_simp; done) | (simp [go_sem, *]; done) | omega | (simp; omega)
    case rest =>
      obtain ⟨rfl, g, rfl, hB⟩ := hcut
      have hbwc := hB.below
      have hzc := hbwc.size
      simp at hzc
      (skip; (try ((have kwcw0 := (bnew hbwc) (w.heap.size) ?pf); (case pf => (first | omega | (simp; done) | (simp; omega))); obtain ⟨kcwcw0, kfwcw0, klwcw0⟩ := kwcw0)))
      have ca : wc.cell? ⟨w.heap.size, 0, none⟩ = some (.int .i64 a) := (kcwcw0 0).trans (by simp [go_sem])
      have cb : wc.cell? ⟨w.heap.size, 1, none⟩ = some (.int .i64 b) := (kcwcw0 1).trans (by simp [go_sem])
      have c0 := hB.c0
      have c1 := hB.c1
      have hgl := hB.hi
      have HA2 := hide ((unhide HA1).below hbwc)
      have hbw : Below w.heap.size w wc := (by repeat (first | with_reducible exact Below.refl _ _ | with_reducible assumption | (with_reducible refine Below.trans ?_ (Below.mono (by assumption) (by first | omega | (simp <;> omega)))) | with_reducible apply Below.drew | with_reducible apply below_drewN | (with_reducible refine Below.alloc ?_ (by first | omega | (simp <;> omega)) _) | (with_reducible refine Below.setCell ?_ (by first | omega | (simp <;> omega)) _)))
      have hzw := hbw.size
      have HBW := hide hbw
      clear hB hbwc kcwcw0 kfwcw0 hbw HA1 HA
      cases z
      all_goals
        go_wp2_with fail
        refine (toPointS_any A n c ps _ (unhide HA2) hs).mono ?_
        rintro e w3 ⟨g3, rfl, ho3, hbw3⟩
        have hz3 := hbw3.size
        (skip; (try ((have kw3gX0 := (bnew hbw3) (g) ?pf); (case pf => (first | omega | (simp; done) | (simp; omega))); obtain ⟨kcw3gX0, kfw3gX0, klw3gX0⟩ := kw3gX0)); (try ((have kw3w.heap.sizeX0 := (bnew hbw3) (w.heap.size) ?pf); (case pf => (first | omega | (simp; done) | (simp; omega))); obtain ⟨kcw3w.heap.sizeX0, kfw3w.heap.sizeX0, klw3w.heap.sizeX0⟩ := kw3w.heap.sizeX0)))
        have HO3 := hide ho3; clear ho3
        go_wp2_with ((go_at_call 18; (with_reducible refine (toRat_any _ _ _).mono ?_); rintro e w4 ⟨rfl, hbw4⟩; obtain ⟨hcw4, hfw4⟩ := bcell hbw4; have hzw4 := hbw4.size; (try simp at hzw4); (try ((have kw4gX0 := (bnew hbw4) (g) ?pf); (case pf => (first | omega | (simp; done) | (simp; omega))); obtain ⟨kcw4gX0, kfw4gX0, klw4gX0⟩ := kw4gX0)); (try ((have kw4w.heap.sizeX0 := (bnew hbw4) (w.heap.size) ?pf); (case pf => (first | omega | (simp; done) | (simp; omega))); obtain ⟨kcw4w.heap.sizeX0, kfw4w.heap.sizeX0, klw4w.heap.sizeX0⟩ := kw4w.heap.sizeX0))))
        refine ((unhide HIV) _ _ _ (own_below (unhide HO3) hbw4)).mono ?_
        rintro e w5 ⟨rfl, hbw5⟩
        have hz5 := hbw5.size
        (skip; (try ((have kw5gX0 := (bnew hbw5) (g) ?pf); (case pf => (first | omega | (simp; done) | (simp; omega))); obtain ⟨kcw5gX0, kfw5gX0, klw5gX0⟩ := kw5gX0)); (try ((have kw5w.heap.sizeX0 := (bnew hbw5) (w.heap.size) ?pf); (case pf => (first | omega | (simp; done) | (simp; omega))); obtain ⟨kcw5w.heap.sizeX0, kfw5w.heap.sizeX0, klw5w.heap.sizeX0⟩ := kw5w.heap.sizeX0)))
        go_wp2_with ((go_at_call 20; (with_reducible refine (eqRat_same u v _).mono ?_); rintro e w6 ⟨rfl, hbw6⟩; obtain ⟨hcw6, hfw6⟩ := bcell hbw6; have hzw6 := hbw6.size; (try simp at hzw6); (try ((have kw6gX0 := (bnew hbw6) (g) ?pf); (case pf => (first | omega | (simp; done) | (simp; omega))); obtain ⟨kcw6gX0, kfw6gX0, klw6gX0⟩ := kw6gX0))))
        have hbx : Below w3.heap.size w3 w6 := (by repeat (first | with_reducible exact Below.refl _ _ | with_reducible assumption | (with_reducible refine Below.trans ?_ (Below.mono (by assumption) (by first | omega | (simp <;> omega)))) | with_reducible apply Below.drew | with_reducible apply below_drewN | (with_reducible refine Below.alloc ?_ (by first | omega | (simp <;> omega)) _) | (with_reducible refine Below.setCell ?_ (by first | omega | (simp <;> omega)) _)))
        have hzx := hbx.size
        have HA6 := hide ((unhide HA2).below (hbw3.trans (hbx.mono hz3)))
        have HO6 := hide (own_below (unhide HO3) hbx)
        refine (toPointS_any A n c ps _ (unhide HA6) hs).mono ?_
        rintro e w7 ⟨g7, rfl, ho7, hbw7⟩
        have hz7 := hbw7.size
        have HO7 := hide ho7; clear ho7
        go_wp2_with fail
        refine (eqPointS_same _ _ n n n _ _ ps w7 (own_below (unhide HO6) hbw7) (unhide HO7) hs).mono ?_
        rintro e w8 ⟨rfl, hbw8⟩
        have hbw := unhide HBW
        go_wp2_with fail
        go_ret
        exact ⟨rfl, (by repeat (first | with_reducible exact Below.refl _ _ | with_reducible assumption | (with_reducible refine Below.trans ?_ (Below.mono (by assumption) (by first | omega | (simp <;> omega)))) | with_reducible apply Below.drew | with_reducible apply below_drewN | (with_reducible refine Below.alloc ?_ (by first | omega | (simp <;> omega)) _) | (with_reducible refine Below.setCell ?_ (by first | omega | (simp <;> omega)) _)))⟩
  · rw [if_neg hs] at hsz
    have HSZ := hide hsz; clear hsz ha
    go_enter Try.func3, Try.ntmps3
    go_wp2_with (go_at_call 15; (with_reducible refine ((unhide HSZ) _).mono ?_); rintro e w' ⟨rfl, rfl⟩)
    go_ret
    exact ⟨rfl, (by repeat (first | with_reducible exact Below.refl _ _ | with_reducible assumption | (with_reducible refine Below.trans ?_ (Below.mono (by assumption) (by first | omega | (simp <;> omega)))) | with_reducible apply Below.drew | with_reducible apply below_drewN | (with_reducible refine Below.alloc ?_ (by first | omega | (simp <;> omega)) _) | (with_reducible refine Below.setCell ?_ (by first | omega | (simp <;> omega)) _)))⟩
end Go.Proofs.Ytmkejopkmdcfeaa

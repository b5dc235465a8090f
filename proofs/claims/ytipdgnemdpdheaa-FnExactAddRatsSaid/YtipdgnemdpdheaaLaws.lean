/-
  Chapter 1: the walks of the laws.
-/
import Derived.Test.YtipdgnemdpdheaaOps
import Derived.Test.YtipdgnemdpdheaaSpec
import Derived.Deep.DeepCutAuto
namespace Go.Proofs.Ytipdgnemdpdheaa
open Go.RowKit Rm

set_option maxHeartbeats 400000 in
theorem toRat_any (a b : Int) (w : World) :
    Calls Try.prog 31 #[.agg #[.int .i64 a, .int .i64 b]] w fun e w' => e = .returned (.agg #[.int .i64 a, .int .i64 b]) ∧ Below w.heap.size w w' := by
  go_enter Try.func31, Try.ntmps31
  go_wp2
  exact bodyPost_ret (v := .agg #[.int .i64 a, .int .i64 b]) (by simp [results, Try.results31, go_sem]) rfl ⟨rfl, (by repeat (first | exact Below.refl _ _ | assumption | refine Below.trans ?_ (Below.mono (by assumption) (by first | omega | (simp <;> omega))) | apply Below.drew | apply below_drewN | refine Below.alloc ?_ (by first | omega | (simp <;> omega)) _ | refine Below.setCell ?_ (by first | omega | (simp <;> omega)) _))⟩

set_option maxHeartbeats 400000 in
theorem eqRat_same (a b : Int) (w : World) :
    Calls Try.prog 34 #[.agg #[.int .i64 a, .int .i64 b], .agg #[.int .i64 a, .int .i64 b]] w fun e w' => e = .returned (.bool true) ∧ Below w.heap.size w w' := by
  go_enter Try.func34, Try.ntmps34
  go_wp2
  go_ret
  exact ⟨rfl, (by repeat (first | exact Below.refl _ _ | assumption | refine Below.trans ?_ (Below.mono (by assumption) (by first | omega | (simp <;> omega))) | apply Below.drew | apply below_drewN | refine Below.alloc ?_ (by first | omega | (simp <;> omega)) _ | refine Below.setCell ?_ (by first | omega | (simp <;> omega)) _))⟩


set_option maxHeartbeats 400000 in
theorem lawAddRats (a b c d : Int) (w : World) :
    Calls Try.prog 6 #[.agg #[.int .i64 a, .int .i64 b], .agg #[.int .i64 c, .int .i64 d]] w fun e w' => e = .returned (.bool true) ∧ Below w.heap.size w w' := by
  have hs := fun W => sAddRats_any a b c d W
  have hi := fun W => iAddRats_any a b c d W
  generalize tN _ _ _ = x at *
  generalize tD _ _ _ = y at *
  generalize (two _ _ _ _ && mok _ _) = z at *
  have HS := hide hs; have HI := hide hi; clear hs hi
  go_enter Try.func6, Try.ntmps6
  go_upto_region 1 with fail
  go_cut [5, 6] (fun s5 s6 wx => s6 = .bool z ∧ ∃ g : Nat, s5 = .pointer (some ⟨g, 0, none⟩) ∧ Box2 ((w.alloc (.cells #[.int .i64 a, .int .i64 b] 34)).alloc (.cells #[.int .i64 c, .int .i64 d] 34)) wx g x y)
  case first =>
    go_region_held3 (fun w' => w'.cell? ⟨w.heap.size, 0, none⟩ = some (.int .i64 a) ∧ w'.cell? ⟨w.heap.size, 1, none⟩ = some (.int .i64 b) ∧ w'.cell? ⟨w.heap.size + 1, 0, none⟩ = some (.int .i64 c) ∧ w'.cell? ⟨w.heap.size + 1, 1, none⟩ = some (.int .i64 d)) (simp [go_sem, World.cell?_alloc_past, *])
      (first
        | (go_at_call 31; have _t := hbw1; clear _t; refine (toRat_any _ _ _).mono ?_; rintro e w2 ⟨rfl, hbw2⟩; obtain ⟨hcw2, hfw2⟩ := bcell hbw2; have hzw2 := hbw2.size; (try simp at hzw2); (try ((have kw2w0 := (bnew hbw2) (w.heap.size) ?pf); (case pf => (first | omega | (simp; done) | (simp; omega))); obtain ⟨kcw2w0, kfw2w0, klw2w0⟩ := kw2w0)); (try ((have kw2w1 := (bnew hbw2) (w.heap.size + 1) ?pf); (case pf => (first | omega | (simp; done) | (simp; omega))); obtain ⟨kcw2w1, kfw2w1, klw2w1⟩ := kw2w1)); (try ((have kw2w2 := (bnew hbw2) (w.heap.size + 1 + 1) ?pf); (case pf => (first | omega | (simp; done) | (simp; omega))); obtain ⟨kcw2w2, kfw2w2, klw2w2⟩ := kw2w2)); (try ((have kw2w10 := (bnew hbw2) (w1.heap.size) ?pf); (case pf => (first | omega | (simp; done) | (simp; omega))); obtain ⟨kcw2w10, kfw2w10, klw2w10⟩ := kw2w10)))
        | (go_at_call 31; refine (toRat_any _ _ _).mono ?_; rintro e w1 ⟨rfl, hbw1⟩; obtain ⟨hcw1, hfw1⟩ := bcell hbw1; have hzw1 := hbw1.size; (try simp at hzw1); (try ((have kw1w0 := (bnew hbw1) (w.heap.size) ?pf); (case pf => (first | omega | (simp; done) | (simp; omega))); obtain ⟨kcw1w0, kfw1w0, klw1w0⟩ := kw1w0)); (try ((have kw1w1 := (bnew hbw1) (w.heap.size + 1) ?pf); (case pf => (first | omega | (simp; done) | (simp; omega))); obtain ⟨kcw1w1, kfw1w1, klw1w1⟩ := kw1w1)); (try ((have kw1w2 := (bnew hbw1) (w.heap.size + 1 + 1) ?pf); (case pf => (first | omega | (simp; done) | (simp; omega))); obtain ⟨kcw1w2, kfw1w2, klw1w2⟩ := kw1w2)))
        | (go_at_call 17; refine ((unhide HS) _).mono ?_; rintro e w3 ⟨rfl, hbw3⟩; obtain ⟨hcw3, hfw3⟩ := bcell hbw3; have hzw3 := hbw3.size; (try simp at hzw3); (try ((have kw3w0 := (bnew hbw3) (w.heap.size) ?pf); (case pf => (first | omega | (simp; done) | (simp; omega))); obtain ⟨kcw3w0, kfw3w0, klw3w0⟩ := kw3w0)); (try ((have kw3w1 := (bnew hbw3) (w.heap.size + 1) ?pf); (case pf => (first | omega | (simp; done) | (simp; omega))); obtain ⟨kcw3w1, kfw3w1, klw3w1⟩ := kw3w1)); (try ((have kw3w2 := (bnew hbw3) (w.heap.size + 1 + 1) ?pf); (case pf => (first | omega | (simp; done) | (simp; omega))); obtain ⟨kcw3w2, kfw3w2, klw3w2⟩ := kw3w2)); (try ((have kw3w10 := (bnew hbw3) (w1.heap.size) ?pf); (case pf => (first | omega | (simp; done) | (simp; omega))); obtain ⟨kcw3w10, kfw3w10, klw3w10⟩ := kw3w10)); (try ((have kw3w20 := (bnew hbw3) (w2.heap.size) ?pf); (case pf => (first | omega | (simp; done) | (simp; omega))); obtain ⟨kcw3w20, kfw3w20, klw3w20⟩ := kw3w20))))
    all_goals
      go_wp2_with fail
      go_meet
      refine ⟨rfl, _, rfl, ⟨(by repeat (first | exact Below.refl _ _ | assumption | refine Below.trans ?_ (Below.mono (by assumption) (by first | omega | (simp <;> omega))) | apply Below.drew | apply below_drewN | refine Below.alloc ?_ (by first | omega | (simp <;> omega)) _ | refine Below.setCell ?_ (by first | omega | (simp <;> omega)) _)), ?_, ?_, ?_, ?_, ?_, ?_⟩⟩
    all_goals first | (go_simp; done) | (simp [go_sem, *]; done) | omega | (simp; omega)
  case rest =>
    obtain ⟨rfl, g, rfl, hB⟩ := hcut
    have ca : ∀ o, wc.cell? ⟨w.heap.size, o, none⟩ = _ := fun o => hB.below.cell (p := ⟨w.heap.size, o, none⟩) (by simp <;> omega)
    have cb : ∀ o, wc.cell? ⟨w.heap.size + 1, o, none⟩ = _ := fun o => hB.below.cell (p := ⟨w.heap.size + 1, o, none⟩) (by simp)
    simp at ca cb
    have hz := hB.below.size
    simp at hz
    have l0 : w.heap.size < wc.heap.size := by omega
    have l1 : w.heap.size + 1 < wc.heap.size := by omega
    have c0 := hB.c0
    have c1 := hB.c1
    have hlo := hB.lo
    simp at hlo
    have hhi := hB.hi
    have HB := Lib.hid hB; clear hB
    go_upto_region 2 with fail
    go_cut [7, 8] (fun s7 s8 wx => s8 = .bool z ∧ ∃ g : Nat, s7 = .pointer (some ⟨g, 0, none⟩) ∧ Box2 wc wx g x y)
    case first =>
      go_region_held3 (fun w' => w'.cell? ⟨w.heap.size, 0, none⟩ = some (.int .i64 a) ∧ w'.cell? ⟨w.heap.size, 1, none⟩ = some (.int .i64 b) ∧ w'.cell? ⟨w.heap.size + 1, 0, none⟩ = some (.int .i64 c) ∧ w'.cell? ⟨w.heap.size + 1, 1, none⟩ = some (.int .i64 d)) (simp [go_sem, World.cell?_alloc_past, *])
        (first
          | (go_at_call 31; have _t := hbw1; clear _t; refine (toRat_any _ _ _).mono ?_; rintro e w2 ⟨rfl, hbw2⟩; obtain ⟨hcw2, hfw2⟩ := bcell hbw2; have hzw2 := hbw2.size; (try simp at hzw2); (try ((have kw2w0 := (bnew hbw2) (w.heap.size) ?pf); (case pf => (first | omega | (simp; done) | (simp; omega))); obtain ⟨kcw2w0, kfw2w0, klw2w0⟩ := kw2w0)); (try ((have kw2w1 := (bnew hbw2) (w.heap.size + 1) ?pf); (case pf => (first | omega | (simp; done) | (simp; omega))); obtain ⟨kcw2w1, kfw2w1, klw2w1⟩ := kw2w1)); (try ((have kw2wc0 := (bnew hbw2) (wc.heap.size) ?pf); (case pf => (first | omega | (simp; done) | (simp; omega))); obtain ⟨kcw2wc0, kfw2wc0, klw2wc0⟩ := kw2wc0)); (try ((have kw2w10 := (bnew hbw2) (w1.heap.size) ?pf); (case pf => (first | omega | (simp; done) | (simp; omega))); obtain ⟨kcw2w10, kfw2w10, klw2w10⟩ := kw2w10)))
          | (go_at_call 31; refine (toRat_any _ _ _).mono ?_; rintro e w1 ⟨rfl, hbw1⟩; obtain ⟨hcw1, hfw1⟩ := bcell hbw1; have hzw1 := hbw1.size; (try simp at hzw1); (try ((have kw1w0 := (bnew hbw1) (w.heap.size) ?pf); (case pf => (first | omega | (simp; done) | (simp; omega))); obtain ⟨kcw1w0, kfw1w0, klw1w0⟩ := kw1w0)); (try ((have kw1w1 := (bnew hbw1) (w.heap.size + 1) ?pf); (case pf => (first | omega | (simp; done) | (simp; omega))); obtain ⟨kcw1w1, kfw1w1, klw1w1⟩ := kw1w1)); (try ((have kw1wc0 := (bnew hbw1) (wc.heap.size) ?pf); (case pf => (first | omega | (simp; done) | (simp; omega))); obtain ⟨kcw1wc0, kfw1wc0, klw1wc0⟩ := kw1wc0)))
          | (go_at_call 16; refine ((unhide HI) _).mono ?_; rintro e w3 ⟨rfl, hbw3⟩; obtain ⟨hcw3, hfw3⟩ := bcell hbw3; have hzw3 := hbw3.size; (try simp at hzw3); (try ((have kw3w0 := (bnew hbw3) (w.heap.size) ?pf); (case pf => (first | omega | (simp; done) | (simp; omega))); obtain ⟨kcw3w0, kfw3w0, klw3w0⟩ := kw3w0)); (try ((have kw3w1 := (bnew hbw3) (w.heap.size + 1) ?pf); (case pf => (first | omega | (simp; done) | (simp; omega))); obtain ⟨kcw3w1, kfw3w1, klw3w1⟩ := kw3w1)); (try ((have kw3wc0 := (bnew hbw3) (wc.heap.size) ?pf); (case pf => (first | omega | (simp; done) | (simp; omega))); obtain ⟨kcw3wc0, kfw3wc0, klw3wc0⟩ := kw3wc0)); (try ((have kw3w10 := (bnew hbw3) (w1.heap.size) ?pf); (case pf => (first | omega | (simp; done) | (simp; omega))); obtain ⟨kcw3w10, kfw3w10, klw3w10⟩ := kw3w10)); (try ((have kw3w20 := (bnew hbw3) (w2.heap.size) ?pf); (case pf => (first | omega | (simp; done) | (simp; omega))); obtain ⟨kcw3w20, kfw3w20, klw3w20⟩ := kw3w20))))
      all_goals
        go_wp2_with fail
        go_meet
        refine ⟨rfl, _, rfl, ⟨(by repeat (first | exact Below.refl _ _ | assumption | refine Below.trans ?_ (Below.mono (by assumption) (by first | omega | (simp <;> omega))) | apply Below.drew | apply below_drewN | refine Below.alloc ?_ (by first | omega | (simp <;> omega)) _ | refine Below.setCell ?_ (by first | omega | (simp <;> omega)) _)), ?_, ?_, ?_, ?_, ?_, ?_⟩⟩
      all_goals first | (go_simp; done) | (simp [go_sem, *]; done) | omega | (simp; omega)
    case rest =>
      obtain ⟨rfl, h, rfl, hB2⟩ := hcut
      have HA := HB.out.keep hB2.below
      have a0 := HA.c0
      have a1 := HA.c1
      have b0 := hB2.c0
      have b1 := hB2.c1
      have hb := HB.out.below.trans (hB2.below.mono HB.out.below.size)
      have hbe : Below w.heap.size w wc := (by repeat (first | exact Below.refl _ _ | assumption | refine Below.trans ?_ (Below.mono (by assumption) (by first | omega | (simp <;> omega))) | apply Below.drew | apply below_drewN | refine Below.alloc ?_ (by first | omega | (simp <;> omega)) _ | refine Below.setCell ?_ (by first | omega | (simp <;> omega)) _))
      clear hb
      have hze := hbe.size
      have HBe := Lib.hid hbe; clear hbe
      clear hB2 HA ca cb hz c0 c1 hlo hhi
      cases z
      all_goals
        go_wp2_with ((go_at_call 34; refine (eqRat_same x y _).mono ?_; rintro e w4 ⟨rfl, hbw4⟩; obtain ⟨hcw4, hfw4⟩ := bcell hbw4; have hzw4 := hbw4.size; (try simp at hzw4)))
        go_ret
        have hbe := HBe.out
        exact ⟨rfl, (by repeat (first | exact Below.refl _ _ | assumption | refine Below.trans ?_ (Below.mono (by assumption) (by first | omega | (simp <;> omega))) | apply Below.drew | apply below_drewN | refine Below.alloc ?_ (by first | omega | (simp <;> omega)) _ | refine Below.setCell ?_ (by first | omega | (simp <;> omega)) _))⟩
end Go.Proofs.Ytipdgnemdpdheaa

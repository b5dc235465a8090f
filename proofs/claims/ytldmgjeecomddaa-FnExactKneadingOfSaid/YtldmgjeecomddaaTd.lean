/-
  Chapter 7: KneadingOf of the program.
-/
import Derived.Test.YtldmgjeecomddaaBt
import Derived.Test.YtldmgjeecomddaaTb
namespace Go.Proofs.Ytldmgjeecomddaa
open Go.RowKit Rm

/-- The letter of a comparison with the centre. -/
def knLet (d : Int) : UInt8 := if d < 0 then 76 else if d = 0 then 67 else 82
/-- The first j letters of a kneading sequence. -/
def knK (l : List Rat) (c : Rat) : Nat → List UInt8
  | 0 => []
  | j + 1 => knK l c j ++ [knLet (cq (l.getD (j + 1) 0) c)]
theorem knK_len (l : List Rat) (c : Rat) : ∀ j, (knK l c j).length = j
  | 0 => rfl
  | j + 1 => by rw [knK, List.length_append, knK_len l c j]; rfl
def knT (ps : List Pt) (m : Int) : List UInt8 := match ocO ps m with | some l => knK l (cenQ (dec ps)) m.toNat | none => []
theorem run_hd (qs : List QP) (x : Rat) (n : Nat) : (run qs n x).getD 0 0 = x := by
  obtain ⟨l, hl⟩ := run_ne qs x n
  rw [hl]; rfl

set_option maxRecDepth 100000 in
set_option maxHeartbeats 1600000 in
theorem iKneadingOf_any (A : Option Addr) (n c base : Nat) (ps : List Pt) (m : Int) (w : World) (ha : w.ownsRow base 49 4 (.slice A n c) n (ptcs ps)) (hn : n ≤ 1048576) :
    Calls Try.prog 11 #[.slice A n c, .int .i64 m] w fun e w' => e = .returned (.tuple #[.string ⟨(knT ps m).toArray⟩, .bool (ocO ps m).isSome]) ∧ Below w.heap.size w w' := by
  have hc := fun W hW => iOrbitOfCentre_any A n c base ps m W hW hn
  have hno : ocO ps m = none → Calls Try.prog 11 #[.slice A n c, .int .i64 m] w fun e w' => e = .returned (.tuple #[.string ⟨(knT ps m).toArray⟩, .bool (ocO ps m).isSome]) ∧ Below w.heap.size w w' := by
    intro h
    rw [h] at hc
    have ht : knT ps m = [] := by unfold knT; rw [h]
    rw [ht, h]
    have HC := hide hc; have HA := hide ha
    clear hc ha h ht
    go_enter Try.func11, Try.ntmps11
    go_wp2_with (go_at_call 31; (with_reducible refine ((unhide HC) _ (unhide HA)).mono ?_); rintro e w1 ⟨⟨A1, d1, rfl, hown⟩, hbw1⟩)
    go_ret2
    exact ⟨rfl, (by repeat (first | with_reducible exact Below.refl _ _ | with_reducible assumption | (with_reducible refine Below.trans ?_ (Below.mono (by assumption) (by first | omega | (simp <;> omega)))) | with_reducible apply Below.drew | with_reducible apply below_drewN | (with_reducible refine Below.alloc ?_ (by first | omega | (simp <;> omega)) _) | (with_reducible refine Below.setCell ?_ (by first | omega | (simp <;> omega)) _)))⟩
  rcases oc_cases ps m with ⟨_, ho⟩ | ⟨qs, k, rfl, _, rfl, hk1, hk2, _, _, _, _, _, _, ⟨_, _, ho⟩ | ⟨hrl, hO, ho⟩⟩
  · exact hno ho
  · exact hno ho
  · clear hno
    rw [ho] at hc
    have ht : knT (qs.map qp) k = knK (run qs k (cenQ qs)) (cenQ qs) k := by unfold knT; rw [ho, dec_qp, Int.toNat_natCast]
    rw [ht, ho]
    simp only [Option.getD_some, Option.isSome_some] at hc ⊢
    have hun := hO.all
    have hhd := run_hd qs (cenQ qs) k
    obtain ⟨l, hL⟩ : ∃ l, l = run qs k (cenQ qs) := ⟨_, rfl⟩
    rw [← hL] at hrl hc hun hhd ⊢
    have hfx := hO.un.fit
    clear ho hL hO ht
    generalize cenQ qs = x at *
    have hor := fun (i : Nat) (hi : i < k) W => orderOf_q (l.getD (i + 1) 0) x (hun (i + 1) (by omega)).fit hfx W
    have hlm : (l.map qf).length = k + 1 := by rw [List.length_map, hrl]
    have HC := hide hc; have HA := hide ha; have HOR := hide hor; have HLM := Lib.hid hlm; have HHD := Lib.hid hhd
    clear hc ha hor hlm hun hfx hhd
    have s1 : (1 : Int) ≤ (k : Int) + 1 := by omega
    go_enter Try.func11, Try.ntmps11
    go_wp2_with (go_at_call 31; (with_reducible refine ((unhide HC) _ (unhide HA)).mono ?_); rintro e w1 ⟨⟨A1, d1, rfl, hown⟩, hbw1⟩; have hs1 := hbw1.size; rw [HLM.out] at hown ⊢; obtain ⟨gs, rfl⟩ := own_form0 hown (by omega); have hcap := own_cap hown; have s7 : ((k + 1 : Nat) : Int) ≤ (d1 : Int) := (by omega); have s7' : (k : Int) + 1 ≤ (d1 : Int) := (by omega); have s8 : ¬ d1 = 1 := (by omega); have s9 : (1 : Int) ≤ (d1 : Int) := (by omega); have hrc := rcells_own hown; have c0 := hrc.at0 0 (by omega); have c1 := hrc.at1 0 (by omega); rw [HHD.out] at c0 c1; have hgl := hrc.lt; have HRC := hide hrc; clear hrc hown)
    obtain ⟨wa, hwa⟩ : ∃ W, W = w1.alloc (.cells #[.int .i64 x.num, .int .i64 x.den] 34) := ⟨_, rfl⟩
    have hfb := Lib.fresh_isBuilder 56 5 wa
    have hba : Below w1.heap.size w1 wa := by rw [hwa]; exact (by repeat (first | with_reducible exact Below.refl _ _ | with_reducible assumption | (with_reducible refine Below.trans ?_ (Below.mono (by assumption) (by first | omega | (simp <;> omega)))) | with_reducible apply Below.drew | with_reducible apply below_drewN | (with_reducible refine Below.alloc ?_ (by first | omega | (simp <;> omega)) _) | (with_reducible refine Below.setCell ?_ (by first | omega | (simp <;> omega)) _)))
    have hza : wa.heap.size = w1.heap.size + 1 := by rw [hwa]; simp
    have b0 : wa.cell? ⟨w1.heap.size, 0, none⟩ = some (.int .i64 x.num) := by rw [hwa]; simp [go_sem]
    have b1 : wa.cell? ⟨w1.heap.size, 1, none⟩ = some (.int .i64 x.den) := by rw [hwa]; simp [go_sem]
    have HBA := hide hba; have HFB := hide hfb
    have HRC2 := hide ((unhide HRC).below hba)
    rw [← hwa, ← hza]
    have hxl : w1.heap.size < wa.heap.size := by omega
    have HZA := Lib.hid hza
    clear hwa hba hfb HRC hza
    generalize hX : w1.heap.size = X at *
    go_loopw [26] (fun i wr => ∃ j : Nat, i = .int .i64 j ∧ j ≤ k ∧ Hid (Lib.IsBuilder 56 5 wa.heap.size wa.heap.size (Lib.byteCells (knK l x j)) wr) ∧ Below wa.heap.size wa wr) (fun i _ => k - (intOf i).toNat)
    case atStart => exact ⟨0, rfl, Nat.zero_le _, HFB, (by repeat (first | with_reducible exact Below.refl _ _ | with_reducible assumption | (with_reducible refine Below.trans ?_ (Below.mono (by assumption) (by first | omega | (simp <;> omega)))) | with_reducible apply Below.drew | with_reducible apply below_drewN | (with_reducible refine Below.alloc ?_ (by first | omega | (simp <;> omega)) _) | (with_reducible refine Below.setCell ?_ (by first | omega | (simp <;> omega)) _)))⟩
    case round =>
      obtain ⟨j, rfl, hj, HI, hb⟩ := hrel
      have hzr := hb.size
      by_cases hlt : j < k
      · have hrcr := (unhide HRC2).below hb
        have f0 := hrcr.at0 (j + 1) (by omega)
        have f1 := hrcr.at1 (j + 1) (by omega)
        rw [show (j + 1) * 2 = 2 + j * 2 by omega] at f0 f1
        have t0 := (hb.cell (p := ⟨X, 0, none⟩) hxl).trans b0
        have t1 := (hb.cell (p := ⟨X, 1, none⟩) hxl).trans b1
        have hgw : gs < wr.heap.size := hrcr.lt
        have hxw : X < wr.heap.size := by omega
        have hord := (unhide HOR) j hlt
        have hbd := cq_bd (l.getD (j + 1) 0) x
        have hsn : knK l x (j + 1) = knK l x j ++ [knLet (cq (l.getD (j + 1) 0) x)] := rfl
        have hls := knK_len l x j
        have hap : Lib.byteCells (knK l x (j + 1)) = Lib.byteCells (knK l x j) ++ [.int .u8 ((knLet (cq (l.getD (j + 1) 0) x)).toNat : Int)] := by
          rw [hsn, Lib.byteCells_append]; rfl
        obtain ⟨T, hT⟩ : ∃ T, T = knK l x j := ⟨_, rfl⟩
        obtain ⟨T1, hT1⟩ : ∃ T1, T1 = knK l x (j + 1) := ⟨_, rfl⟩
        rw [← hT, ← hT1] at hap
        rw [← hT] at hls HI
        have HORD := hide hord; have HB := hide hb; have HAP := hide hap; have HLS := Lib.hid hls; have HT1 := Lib.hid hT1
        clear hrcr hord hsn hap hls hb hT hT1
        generalize cq (l.getD (j + 1) 0) x = dd at *
        generalize (l.getD (j + 1) 0).num = yn at *
        generalize ((l.getD (j + 1) 0).den : Int) = yd at *
        generalize x.num = xn at *
        generalize (x.den : Int) = xd at *
        have s20 : (j : Int) < (k : Int) := by omega
        have s21 : (0 : Int) ≤ (j : Int) := by omega
        rcases (by omega : dd = -1 ∨ dd = 0 ∨ dd = 1) with rfl | rfl | rfl
        all_goals
          go_wp2_with (first
            | (go_at_call 33; (with_reducible refine ((unhide HORD) _).mono ?_); rintro e w3 ⟨rfl, hbw3⟩; obtain ⟨hcw3, hfw3⟩ := bcell hbw3; have hzw3 := hbw3.size; (try simp at hzw3); (try ((have kw3wr0 := (bnew hbw3) (wr.heap.size) ?pf); (case pf => (first | omega | (simp; done) | (simp; omega))); obtain ⟨kcw3wr0, kfw3wr0, klw3wr0⟩ := kw3wr0)))
            | (go_at_call 32; refine (Try.Builder_WriteByte wa.heap.size wa.heap.size (Lib.byteCells (T)) _ _ (isb_on (unhide HI) ?pb) (by rw [Lib.byteCells_length, HLS.out]; omega) ?pc).mono ?_; (case pb => exact (by repeat (first | with_reducible exact Below.refl _ _ | with_reducible assumption | (with_reducible refine Below.trans ?_ (Below.mono (by assumption) (by first | omega | (simp <;> omega)))) | with_reducible apply Below.drew | with_reducible apply below_drewN | (with_reducible refine Below.alloc ?_ (by first | omega | (simp <;> omega)) _) | (with_reducible refine Below.setCell ?_ (by first | omega | (simp <;> omega)) _)))); (case pc => (first | omega | (simp <;> omega))); rintro e w5 ⟨rfl, hB5, hb5⟩))
          have hy : Below wr.heap.size wr w3 := (by repeat (first | with_reducible exact Below.refl _ _ | with_reducible assumption | (with_reducible refine Below.trans ?_ (Below.mono (by assumption) (by first | omega | (simp <;> omega)))) | with_reducible apply Below.drew | with_reducible apply below_drewN | (with_reducible refine Below.alloc ?_ (by first | omega | (simp <;> omega)) _) | (with_reducible refine Below.setCell ?_ (by first | omega | (simp <;> omega)) _)))
          have hbz := ((unhide HB).trans (hy.mono hzr)).trans hb5
          have hB6 : Lib.BuilderAt 56 5 wa.heap.size wa.heap.size (.pointer (some ⟨wa.heap.size, 0, none⟩)) (Lib.byteCells (T1)) w5 := by rw [unhide HAP]; exact hB5
          have HB6 := hide hB6; have HBZ := hide hbz
          clear hB5 hB6 hb5 hbz hy
          go_wp2_with fail
          go_roundw
          case rel => exact ⟨j + 1, by go_num, by omega, by rw [← HT1.out]; exact hide (.inr (unhide HB6)), unhide HBZ⟩
          case measure => (simp [intOf] <;> omega)
      · obtain rfl : j = k := by omega
        have HB := hide hb
        clear hb
        obtain ⟨T, hT⟩ : ∃ T, T = knK l x j := ⟨_, rfl⟩
        rw [← hT] at HI
        have HT := Lib.hid hT
        clear hT
        go_wp2_with (go_at_call 34; refine (Try.Builder_String_any wa.heap.size wa.heap.size T _ (unhide HI) (by omega)).mono ?_; rintro e w6 ⟨rfl, hb6⟩)
        go_ret2
        exact ⟨by rw [← HT.out]; rfl, hbw1.trans (((unhide HBA).trans (((unhide HB).trans hb6).mono (by have := HZA.out; omega))).mono hs1)⟩
end Go.Proofs.Ytldmgjeecomddaa

/-
  Chapter 7: KneadingOf of the model.
-/
import Derived.Test.YtldmgjeecomddaaTd
import Derived.Lib.SmallJoins
namespace Go.Proofs.Ytldmgjeecomddaa
open Go.RowKit Rm

abbrev lcr : ByteArray := ⟨#[76, 67, 82]⟩
theorem lcr_at : ∀ k : Nat, k < 3 → (lcr.extract k (k + 1)).data = #[knLet ((k : Int) - 1)] := by decide

set_option maxRecDepth 100000 in
set_option maxHeartbeats 1600000 in
theorem knWord_map (g m c base : Nat) (qs : List QP) (k : Nat) (w : World) (ha : w.ownsRow base 49 4 (.slice (some ⟨g, 0, none⟩) (m + 1) c) (m + 1) (ptcs (qs.map qp))) (hu : umB (qs.map qp) = true) (hk1 : 1 ≤ k) (hk2 : k ≤ 30) :
    Calls Try.prog 29 #[.slice (some ⟨g, 0, none⟩) (m + 1) c, .int .i64 k] w fun e w' => e = .returned (.tuple #[.string ⟨(knT (qs.map qp) k).toArray⟩, .bool (ocO (qs.map qp) k).isSome]) ∧ Below w.heap.size w w' := by
  have hv := fun W hW => knValues_map g m c base qs k W hW hu hk1 hk2
  have hcen := fun W hW => knCentre_map g m c base qs W hW hu
  rcases oc_cases (qs.map qp) k with ⟨h, _⟩ | ⟨qs', k', e1, _, e2, _, _, _, hx, _, _, _, _, hh⟩
  · rw [hu, decide_eq_true (show 1 ≤ (k : Int) ∧ (k : Int) ≤ 30 by omega)] at h; cases h
  · obtain rfl : qs = qs' := by have := congrArg dec e1; rwa [dec_qp, dec_qp] at this
    obtain rfl : k = k' := by omega
    clear e1 e2
    rcases hh with ⟨_, _, ho⟩ | ⟨hrl, hO, ho⟩
    · have ht : knT (qs.map qp) k = [] := by unfold knT; rw [ho]
      have htv : tvO (qs.map qp) k = none := by unfold tvO; rw [ho]; rfl
      rw [ht, ho]
      rw [htv] at hv
      have HV := hide hv; have HA := hide ha
      clear hv ha hcen ho ht htv hx hu
      go_enter Try.func29, Try.ntmps29
      go_wp2_with (go_at_call 39; (with_reducible refine ((unhide HV) _ (unhide HA)).mono ?_); rintro e w1 ⟨⟨A1, d1, rfl, hown⟩, hbw1⟩)
      go_ret2
      exact ⟨rfl, (by repeat (first | with_reducible exact Below.refl _ _ | with_reducible assumption | (with_reducible refine Below.trans ?_ (Below.mono (by assumption) (by first | omega | (simp <;> omega)))) | with_reducible apply Below.drew | with_reducible apply below_drewN | (with_reducible refine Below.alloc ?_ (by first | omega | (simp <;> omega)) _) | (with_reducible refine Below.setCell ?_ (by first | omega | (simp <;> omega)) _)))⟩
    · have ht : knT (qs.map qp) k = knK (run qs k (cenQ qs)) (cenQ qs) k := by unfold knT; rw [ho, dec_qp, Int.toNat_natCast]
      have htv : tvO (qs.map qp) k = some (cyL (run qs k (cenQ qs)) (1, k)) := by unfold tvO; rw [ho]; rfl
      rw [ht, ho]
      rw [htv] at hv
      simp only [Option.getD_some, Option.isSome_some] at hv ⊢
      have hun := hO.all
      obtain ⟨l, hL⟩ : ∃ l, l = run qs k (cenQ qs) := ⟨_, rfl⟩
      rw [← hL] at hrl hv hun ⊢
      have hfx := hO.un.fit
      clear ho hL hO ht htv hx hu
      generalize cenQ qs = x at *
      have hor := fun (i : Nat) (hi : i < k) W => raCmp_q (l.getD (i + 1) 0) x (hun (i + 1) (by omega)).fit hfx W
      have hcl : (cyL l (1, k)).length = k := cyL_len (by omega)
      have hcg : ∀ i, i < k → fAt ((cyL l (1, k)).map qf) i = ((l.getD (i + 1) 0).num, ((l.getD (i + 1) 0).den : Int)) := fun i hi => by
        rw [qAtR _ _ (by omega), cyL_get hi, Nat.add_comm 1 i]
      have hlm : ((cyL l (1, k)).map qf).length = k := by rw [List.length_map, hcl]
      generalize (cyL l (1, k)).map qf = L at *
      have HV := hide hv; have HA := hide ha; have HOR := hide hor; have HLM := Lib.hid hlm; have HCE := hide hcen; have HCG := hide hcg
      clear hv ha hor hlm hun hfx hcl hcg hcen hrl
      go_enter Try.func29, Try.ntmps29
      go_wp2_with (go_at_call 39; (with_reducible refine ((unhide HV) _ (unhide HA)).mono ?_); rintro e w1 ⟨⟨A1, d1, rfl, hrs⟩, hbw1⟩; have hs1 := hbw1.size; rw [HLM.out] at hrs ⊢; obtain ⟨_, ⟨h0, _⟩ | ⟨gs, o, rfl, hB, hgl, hcc⟩⟩ := hrs; (omega))
      have HCC := hide hcc; have HA1 := hide (own_below (unhide HA) hbw1); have HB1 := hide hbw1
      clear hcc hbw1
      go_loopw [8, 22] (fun s i wr => ∃ j : Nat, i = .int .i64 j ∧ s = .string ⟨(knK l x j).toArray⟩ ∧ j ≤ k ∧ Below w1.heap.size w1 wr) (fun _ i _ => k - (intOf i).toNat)
      case atStart => exact ⟨0, rfl, rfl, Nat.zero_le _, Below.refl _ _⟩
      case round =>
        obtain ⟨j, rfl, rfl, hj, hb⟩ := hrel
        have hzr := hb.size
        by_cases hlt : j < k
        · obtain ⟨f0, f1⟩ := (unhide HCC) j hlt
          rw [(unhide HCG) j hlt] at f0 f1
          have f0 := (hb.cell (p := ⟨gs, o + j * 2, none⟩) hgl).trans f0
          have f1 := (hb.cell (p := ⟨gs, o + j * 2 + 1, none⟩) hgl).trans f1
          have hgw : gs < wr.heap.size := Nat.lt_of_lt_of_le hgl hzr
          have hord := (unhide HOR) j hlt
          have hbd := cq_bd (l.getD (j + 1) 0) x
          have hsn : knK l x (j + 1) = knK l x j ++ [knLet (cq (l.getD (j + 1) 0) x)] := rfl
          have hls := knK_len l x j
          obtain ⟨kk, hkk, hk3⟩ : ∃ kk : Nat, cq (l.getD (j + 1) 0) x = (kk : Int) - 1 ∧ kk < 3 := ⟨(cq (l.getD (j + 1) 0) x + 1).toNat, by omega, by omega⟩
          rw [hkk] at hsn hord
          have hab := lcr_at kk hk3
          obtain ⟨T, hT⟩ : ∃ T, T = knK l x j := ⟨_, rfl⟩
          obtain ⟨T1, hT1⟩ : ∃ T1, T1 = knK l x (j + 1) := ⟨_, rfl⟩
          rw [← hT, ← hT1] at hsn
          rw [← hT] at hls ⊢
          have hadd : ∀ (W : World), (Op.stringOp .add ⟨T.toArray⟩ (lcr.extract kk (kk + 1))).run Try.prog W = .ok (.string ⟨T1.toArray⟩) W := fun W => by
            have e : lcr.extract kk (kk + 1) = ⟨[knLet ((kk : Int) - 1)].toArray⟩ := ByteArray.ext hab
            rw [e, hsn]
            exact run_string_add_lists W T [knLet ((kk : Int) - 1)] (by omega) (by simp)
          have hAr := own_below (unhide HA1) hb
          have HORD := hide hord; have HB := hide hb; have HT1 := Lib.hid hT1; have HAR := hide hAr
          clear hord hb hsn hls hT hT1 hAr hab hkk hbd
          generalize (l.getD (j + 1) 0).num = yn at *
          generalize ((l.getD (j + 1) 0).den : Int) = yd at *
          generalize x.num = xn at *
          generalize (x.den : Int) = xd at *
          have e0 : IntKind.i64.wrap (1 + ((kk : Int) - 1)) = (kk : Int) := by rw [show 1 + ((kk : Int) - 1) = (kk : Int) by omega]; exact IntWalk.i64_in _ (by omega)
          have e1 : IntKind.i64.wrap ((kk : Int) + 1) = (kk : Int) + 1 := IntWalk.i64_in _ (by omega)
          have e2 : ((kk : Int) + 1).toNat = kk + 1 := by omega
          have e3 : (kk : Int) ≤ (kk : Int) + 1 := by omega
          have e4 : (kk : Int) + 1 ≤ 3 := by omega
          have e5 : (0 : Int) ≤ (kk : Int) := by omega
          go_upto_region 8 with fail
          go_cut [11] (fun s11 wx => s11 = .int .i64 (kk : Int) ∧ Below wr.heap.size wr wx)
          case first =>
            go_region_held3 (fun w' => w'.cell? ⟨wr.heap.size, 0, none⟩ = some (.int .i64 yn) ∧ w'.cell? ⟨wr.heap.size, 1, none⟩ = some (.int .i64 yd)) (simp [go_sem, *])
              (first
                | (go_at_call 49; (with_reducible refine ((unhide HCE) _ (own_below (unhide HAR) ?pb)).mono ?_); (case pb => exact (by repeat (first | with_reducible exact Below.refl _ _ | with_reducible assumption | (with_reducible refine Below.trans ?_ (Below.mono (by assumption) (by first | omega | (simp <;> omega)))) | with_reducible apply Below.drew | with_reducible apply below_drewN | (with_reducible refine Below.alloc ?_ (by first | omega | (simp <;> omega)) _) | (with_reducible refine Below.setCell ?_ (by first | omega | (simp <;> omega)) _)))); rintro e w3 ⟨rfl, hbw3⟩; have hz3 := hbw3.size; (try simp at hz3); (skip; (try ((have kw3wr.heap.sizeX0 := (bnew hbw3) (wr.heap.size) ?pf); (case pf => (first | omega | (simp; done) | (simp; omega))); obtain ⟨kcw3wr.heap.sizeX0, kfw3wr.heap.sizeX0, klw3wr.heap.sizeX0⟩ := kw3wr.heap.sizeX0))))
                | (go_at_call 48; (with_reducible refine ((unhide HORD) _).mono ?_); rintro e w4 ⟨rfl, hbw4⟩; obtain ⟨hcw4, hfw4⟩ := bcell hbw4; have hzw4 := hbw4.size; (try simp at hzw4); (try ((have kw4wr.heap.sizeX0 := (bnew hbw4) (wr.heap.size) ?pf); (case pf => (first | omega | (simp; done) | (simp; omega))); obtain ⟨kcw4wr.heap.sizeX0, kfw4wr.heap.sizeX0, klw4wr.heap.sizeX0⟩ := kw4wr.heap.sizeX0))))
            all_goals
              go_wp2_with fail
              go_meet
              exact ⟨by first | rfl | (rw [e0]), (by repeat (first | with_reducible exact Below.refl _ _ | with_reducible assumption | (with_reducible refine Below.trans ?_ (Below.mono (by assumption) (by first | omega | (simp <;> omega)))) | with_reducible apply Below.drew | with_reducible apply below_drewN | (with_reducible refine Below.alloc ?_ (by first | omega | (simp <;> omega)) _) | (with_reducible refine Below.setCell ?_ (by first | omega | (simp <;> omega)) _)))⟩
          case rest =>
            obtain ⟨rfl, hbx⟩ := hcut
            have HBX := hide ((unhide HB).trans (hbx.mono hzr))
            clear hbx
            go_wp2_with fail
            go_roundw
            case rel => exact ⟨j + 1, by go_num, by rw [← HT1.out], by omega, unhide HBX⟩
            case measure => (simp [intOf] <;> omega)
        · obtain rfl : j = k := by omega
          have HB := hide hb
          clear hb
          go_wp2_with fail
          go_ret2
          exact ⟨rfl, (unhide HB1).trans ((unhide HB).mono hs1)⟩

set_option maxRecDepth 100000 in
set_option maxHeartbeats 1600000 in
theorem sKneadingOf_any (A : Option Addr) (n c base : Nat) (ps : List Pt) (m : Int) (w : World) (ha : w.ownsRow base 49 4 (.slice A n c) n (ptcs ps)) (hn : n ≤ 1048576) :
    Calls Try.prog 9 #[.slice A n c, .int .i64 m] w fun e w' => e = .returned (.tuple #[.string ⟨(knT ps m).toArray⟩, .bool (ocO ps m).isSome]) ∧ Below w.heap.size w w' := by
  have hla := fun W hW => sknLaps_any A n c base ps W hW hn
  have hle := fun W => knLength_any m W
  rcases oc_cases ps m with ⟨hno, ho⟩ | ⟨qs, k, rfl, hy, rfl, hk1, hk2, hl, _, _, _, _, _, _⟩
  · have ht : knT ps m = [] := by unfold knT; rw [ho]
    rw [ht, ho]
    have HLA := hide hla; have HLE := hide hle; have HA := hide ha
    clear ho ht hla hle ha
    cases hz : umB ps with
    | false =>
      rw [hz] at HLA
      clear hno hz
      go_enter Try.func9, Try.ntmps9
      go_wp2_with (go_at_call 27; (with_reducible refine ((unhide HLA) _ (unhide HA)).mono ?_); rintro e w1 ⟨rfl, hbw1⟩)
      go_ret2
      exact ⟨rfl, (by repeat (first | with_reducible exact Below.refl _ _ | with_reducible assumption | (with_reducible refine Below.trans ?_ (Below.mono (by assumption) (by first | omega | (simp <;> omega)))) | with_reducible apply Below.drew | with_reducible apply below_drewN | (with_reducible refine Below.alloc ?_ (by first | omega | (simp <;> omega)) _) | (with_reducible refine Below.setCell ?_ (by first | omega | (simp <;> omega)) _)))⟩
    | true =>
      rw [hz] at HLA
      rw [hz, Bool.true_and] at hno
      rw [hno] at HLE
      clear hno hz
      go_enter Try.func9, Try.ntmps9
      go_wp2_with (first
        | (go_at_call 27; (with_reducible refine ((unhide HLA) _ (unhide HA)).mono ?_); rintro e w1 ⟨rfl, hbw1⟩)
        | (go_at_call 28; (with_reducible refine ((unhide HLE) _).mono ?_); rintro e w2 ⟨rfl, rfl⟩))
      go_ret2
      exact ⟨rfl, (by repeat (first | with_reducible exact Below.refl _ _ | with_reducible assumption | (with_reducible refine Below.trans ?_ (Below.mono (by assumption) (by first | omega | (simp <;> omega)))) | with_reducible apply Below.drew | with_reducible apply below_drewN | (with_reducible refine Below.alloc ?_ (by first | omega | (simp <;> omega)) _) | (with_reducible refine Below.setCell ?_ (by first | omega | (simp <;> omega)) _)))⟩
  · rw [hy] at hla
    rw [decide_eq_true (show 1 ≤ (k : Int) ∧ (k : Int) ≤ 30 by omega)] at hle
    obtain ⟨g, mm, qs', rfl, rfl, e1, _, _⟩ := own_form ha hl.toGMap.mapB
    obtain rfl : qs = qs' := by have := congrArg dec e1; rwa [dec_qp, dec_qp] at this
    have hv := fun W hW => knWord_map g mm c base qs k W hW hy hk1 hk2
    have HLA := hide hla; have HLE := hide hle; have HA := hide ha; have HV := hide hv
    clear hla hle ha hv e1 hy hl
    generalize knT (qs.map qp) k = L at *
    generalize (ocO (qs.map qp) k).isSome = z at *
    go_enter Try.func9, Try.ntmps9
    go_wp2_with (first
      | (go_at_call 27; (with_reducible refine ((unhide HLA) _ (unhide HA)).mono ?_); rintro e w1 ⟨rfl, hbw1⟩; have hs1 := hbw1.size)
      | (go_at_call 28; (with_reducible refine ((unhide HLE) _).mono ?_); rintro e w2 ⟨rfl, rfl⟩)
      | (go_at_call 29; (with_reducible refine ((unhide HV) _ (own_below (unhide HA) hbw1)).mono ?_); rintro e w3 ⟨rfl, hbw3⟩; have hs3 := hbw3.size))
    go_ret2
    exact ⟨rfl, (by repeat (first | with_reducible exact Below.refl _ _ | with_reducible assumption | (with_reducible refine Below.trans ?_ (Below.mono (by assumption) (by first | omega | (simp <;> omega)))) | with_reducible apply Below.drew | with_reducible apply below_drewN | (with_reducible refine Below.alloc ?_ (by first | omega | (simp <;> omega)) _) | (with_reducible refine Below.setCell ?_ (by first | omega | (simp <;> omega)) _)))⟩
end Go.Proofs.Ytldmgjeecomddaa

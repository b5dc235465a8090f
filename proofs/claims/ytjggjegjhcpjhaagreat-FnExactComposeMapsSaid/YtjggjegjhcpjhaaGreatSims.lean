/-
  Chapter 2: SimpleMap of the model; the contracts.
-/
import Derived.Test.YtjggjegjhcpjhaaGreatSim
namespace Go.Proofs.YtjggjegjhcpjhaaGreat
open Go.RowKit Rm

set_option maxRecDepth 100000 in
set_option maxHeartbeats 3200000 in
theorem coSimple_map (g m c base : Nat) (qs : List QP) (w : World) (ha : w.ownsRow base 63 4 (.slice (some ⟨g, 0, none⟩) (m + 1) c) (m + 1) (ptcs (qs.map qp))) (hg : SMap qs) :
    Calls Tryz.prog 121 #[.slice (some ⟨g, 0, none⟩) (m + 1) c] w fun e w' => ∃ v : Value, e = .returned v ∧ w'.ownsRow w.heap.size 63 4 v (simK qs (m + 1) (m + 1)).length (ptcs ((simK qs (m + 1) (m + 1)).map qp)) ∧ Below w.heap.size w w' := by
  obtain ⟨i0, hi0, hz0, hz1, hz2⟩ := info_parts iPoint
  have hlen : qs.length = m + 1 := by have := own_len ha; rw [List.length_map] at this; exact this
  have hlo := hg.lo
  have hhi := hg.hi
  rw [hlen] at hlo hhi
  obtain ⟨g', cap, hv, _, hgl⟩ := ha.form (by omega)
  obtain rfl : g = g' := by injection hv with h1; exact (Addr.mk.inj (Option.some.inj h1)).1
  obtain ⟨k0, k1, k2, k3⟩ := q_cells ha (k := 0) (by omega)
  have hkeep : keepB qs (m + 1) 0 = true := by simp [keepB]
  obtain ⟨hl1, hn1⟩ := simK_yes hkeep
  have hst : ∀ W : World, (W.alloc (.cells #[.int .i64 (qAt qs 0).1.num, .int .i64 (qAt qs 0).1.den, .int .i64 (qAt qs 0).2.num, .int .i64 (qAt qs 0).2.den] 63)).ownsRow W.heap.size 63 4 (.slice (some ⟨W.heap.size, 0, none⟩) 1 1) (simK qs (m + 1) 1).length (ptcs ((simK qs (m + 1) 1).map qp)) := by
    intro W
    rw [hl1, hn1]
    exact World.ownsRow_lit W _ 1 (Nat.le_refl _) (by unfold maxLen; omega) rfl
  have HST := hide hst
  have HA := hide ha; clear ha hv hkeep hl1 hn1 hst
  have HL := Lib.hid hlen; clear hlen
  simp only [Nat.zero_mul, Nat.zero_add] at k0 k1 k2 k3
  generalize (qAt qs 0).1.num = f1 at *
  generalize ((qAt qs 0).1.den : Int) = f2 at *
  generalize (qAt qs 0).2.num = f3 at *
  generalize ((qAt qs 0).2.den : Int) = f4 at *
  go_enter Tryz.func121, Tryz.ntmps121
  go_wp2
  clear k0 k1 k2 k3
  go_loopw [3, 4] (fun v i wr => ∃ (k : Nat) (u : Value), i = .int .i64 k ∧ u = v ∧ 1 ≤ k ∧ k ≤ m + 1 ∧ wr.ownsRow w.heap.size 63 4 u (simK qs (m + 1) k).length (ptcs ((simK qs (m + 1) k).map qp)) ∧ Below w.heap.size w wr) (fun _ i _ => m + 1 - (intOf i).toNat)
  case atStart => exact ⟨1, _, rfl, rfl, by omega, by omega, (unhide HST) w, (by repeat (first | with_reducible exact Below.refl _ _ | with_reducible assumption | (with_reducible refine Below.trans ?_ (Below.mono (by assumption) (by first | omega | (simp <;> omega)))) | with_reducible apply Below.drew | with_reducible apply below_drewN | (with_reducible refine Below.alloc ?_ (by first | omega | (simp <;> omega)) _) | (with_reducible refine Below.setCell ?_ (by first | omega | (simp <;> omega)) _)))⟩
  case round =>
    obtain ⟨k, u, rfl, rfl, hk1, hk, hown, hbwr⟩ := hrel
    clear HST
    have hzwr := hbwr.size
    by_cases hlt : k < m + 1
    · (skip; (try ((have kwrgX0 := (bnew hbwr) (g) ?pf); (case pf => (first | omega | (simp; done) | (simp; omega))); obtain ⟨kcwrgX0, kfwrgX0, klwrgX0⟩ := kwrgX0)))
      have hkl : k < qs.length := by rw [HL.out]; exact hlt
      obtain ⟨k0, k1, k2, k3⟩ := q_cells (own_below (unhide HA) hbwr) (k := k) hlt
      have hsl := simK_len qs (m + 1) k
      have hvB : ∀ j, u.ownBlock = some j → w.heap.size ≤ j := fun j e => (hown.lt j e).1
      have HO := hide hown
      have HV := hide hvB
      have HB := hide hbwr
      clear hown hvB hbwr kcwrgX0 kfwrgX0
      by_cases hkm : k = m
      · obtain rfl : m = k := hkm.symm
        have hkeep : keepB qs (m + 1) m = true := by simp [keepB]
        obtain ⟨hl1, hn1⟩ := simK_yes hkeep
        have HL1 := Lib.hid hl1
        have HN := Lib.hid hn1
        clear hl1 hn1 hkeep
        generalize (qAt qs m).1.num = f1 at *
        generalize ((qAt qs m).1.den : Int) = f2 at *
        generalize (qAt qs m).2.num = f3 at *
        generalize ((qAt qs m).2.den : Int) = f4 at *
        have s1' : IntKind.i64.wrap ((m : Int) + 1) = (m : Int) + 1 := IntWalk.i64_in _ (by omega)
        go_upto_region 5 with fail
        go_cut [42] (fun s42 wx => s42 = .bool true ∧ Below wr.heap.size wr wx)
        case first =>
          go_quiet (fail)
          go_wp2_with fail
          go_meet
          exact ⟨rfl, (by repeat (first | with_reducible exact Below.refl _ _ | with_reducible assumption | (with_reducible refine Below.trans ?_ (Below.mono (by assumption) (by first | omega | (simp <;> omega)))) | with_reducible apply Below.drew | with_reducible apply below_drewN | (with_reducible refine Below.alloc ?_ (by first | omega | (simp <;> omega)) _) | (with_reducible refine Below.setCell ?_ (by first | omega | (simp <;> omega)) _)))⟩
        case rest =>
          obtain ⟨rfl, hbwc⟩ := hcut
          have hzc := hbwc.size
          (skip; (try ((have kwcgX0 := (bnew hbwc) (g) ?pf); (case pf => (first | omega | (simp; done) | (simp; omega))); obtain ⟨kcwcgX0, kfwcgX0, klwcgX0⟩ := kwcgX0)))
          have c0 := (kcwcgX0 _).trans k0
          have c1 := (kcwcgX0 _).trans k1
          have c2 := (kcwcgX0 _).trans k2
          have c3 := (kcwcgX0 _).trans k3
          have HBC := hide hbwc
          clear hbwc kcwcgX0 kfwcgX0
          go_wp2_with (at_builtin; refine wpList_append_lies _ rfl _ _ _ rfl w.heap.size 63 i0 _ 4 32 Tryz.underlying24 hi0 hz0 hz1 hz2 rfl (by omega) u _ _ rfl (World.ownsRow.alloc (own_below (unhide HO) (unhide HBC)) _) ⟨wc.heap.size, 0, none⟩ 1 1 [.int .i64 f1, .int .i64 f2, .int .i64 f3, .int .i64 f4] rfl rfl (World.news_of_block (cs := #[.int .i64 f1, .int .i64 f2, .int .i64 f3, .int .i64 f4]) (t := 63) (fr := (0, 0)) (heap_alloc_new wc _)) (by simp [Value.oneCell']) (by omega) (by unfold maxLen; omega) (by omega) (by simp; omega) (wc.heap.size + 1) (by simp) ?_; intro gg cap w4 hown4 hgrow hat hlt4)
          have hb := unhide HB
          have hbc := unhide HBC
          rw [← HN.out, ← HL1.out] at hown4
          have hby : Below wr.heap.size wr (wc.alloc (.cells #[.int .i64 f1, .int .i64 f2, .int .i64 f3, .int .i64 f4] 63)) := (by repeat (first | with_reducible exact Below.refl _ _ | with_reducible assumption | (with_reducible refine Below.trans ?_ (Below.mono (by assumption) (by first | omega | (simp <;> omega)))) | with_reducible apply Below.drew | with_reducible apply below_drewN | (with_reducible refine Below.alloc ?_ (by first | omega | (simp <;> omega)) _) | (with_reducible refine Below.setCell ?_ (by first | omega | (simp <;> omega)) _)))
          have hbz : Below w.heap.size w w4 := (hb.trans (hby.mono hb.size)).grown hgrow (by have := hby.size; omega) (unhide HV)
          have hn1 := HL1.out
          have HO4 := hide hown4
          have HBZ := hide hbz
          clear hown4 hby hgrow hb hbz hbc
          go_wp2_with fail
          go_roundw
          case rel => exact ⟨m + 1, _, by go_num, by rw [hn1], by omega, by omega, unhide HO4, unhide HBZ⟩
          case measure => (simp [intOf] <;> omega)
      · obtain ⟨j, rfl⟩ : ∃ j, k = j + 1 := ⟨k - 1, by omega⟩
        have hj2 : j + 1 + 1 < qs.length := by rw [HL.out]; omega
        have hb := unhide HB
        obtain ⟨l0, l1, l2, l3⟩ := q_cells (own_below (unhide HA) hb) (k := j) (by omega)
        obtain ⟨r0, r1, r2, r3⟩ := q_cells (own_below (unhide HA) hb) (k := j + 1 + 1) (by omega)
        clear hb
        have h1 := fun W => imSlope_q (qAt qs j) (qAt qs (j + 1)) (hg.cx _ (by omega)) (hg.cy _ (by omega)) (hg.cx _ hkl) (hg.cy _ hkl) (hg.inc j hkl) W
        have h2 := fun W => imSlope_q (qAt qs (j + 1)) (qAt qs (j + 1 + 1)) (hg.cx _ hkl) (hg.cy _ hkl) (hg.cx _ hj2) (hg.cy _ hj2) (hg.inc (j + 1) hj2) W
        have e1 : ((j : Int) + 1 == (m : Int)) = false := by rw [beq_eq_false_iff_ne]; omega
        have e1' : ((j : Int) + 1 + 1 == (m : Int) + 1) = false := by rw [beq_eq_false_iff_ne]; omega
        have s1 : IntKind.i64.wrap (j : Int) = (j : Int) := IntWalk.i64_in _ (by omega)
        have s1' : IntKind.i64.wrap ((j : Int) + 1 + 1) = (j : Int) + 1 + 1 := IntWalk.i64_in _ (by omega)
        have s2 : (0 : Int) ≤ (j : Int) + 1 + 1 := by omega
        have s3 : (j : Int) + 1 + 1 < (m : Int) + 1 := by omega
        have s4 : (j : Int) < (m : Int) + 1 := by omega
        have s6 : (j : Int) + 1 < (m : Int) + 1 := by omega
        have s7 : (0 : Int) ≤ (j : Int) + 1 := by omega
        have s5 : ((j : Int) + 1 + 1).toNat = j + 1 + 1 := by omega
        have s5' : ((j : Int) + 1).toNat = j + 1 := by omega
        by_cases hs : slopeR (qAt qs j) (qAt qs (j + 1)) = slopeR (qAt qs (j + 1)) (qAt qs (j + 1 + 1))
        · have hkeep : keepB qs (m + 1) (j + 1) = false := by simp [keepB, hs]; omega
          have HE := Lib.hid (simK_no hkeep)
          rw [hs] at h1
          clear hkeep hs
          generalize slopeR (qAt qs (j + 1)) (qAt qs (j + 1 + 1)) = sl at *
          generalize sl.num = sx at *
          generalize (sl.den : Int) = sy at *
          have H1 := hide h1; have H2 := hide h2; clear h1 h2
          generalize (qAt qs (j + 1)).1.num = f1 at *
          generalize ((qAt qs (j + 1)).1.den : Int) = f2 at *
          generalize (qAt qs (j + 1)).2.num = f3 at *
          generalize ((qAt qs (j + 1)).2.den : Int) = f4 at *
          generalize (qAt qs j).1.num = lf1 at *
          generalize ((qAt qs j).1.den : Int) = lf2 at *
          generalize (qAt qs j).2.num = lf3 at *
          generalize ((qAt qs j).2.den : Int) = lf4 at *
          generalize (qAt qs (j + 1 + 1)).1.num = rf1 at *
          generalize ((qAt qs (j + 1 + 1)).1.den : Int) = rf2 at *
          generalize (qAt qs (j + 1 + 1)).2.num = rf3 at *
          generalize ((qAt qs (j + 1 + 1)).2.den : Int) = rf4 at *
          go_upto_region 5 with fail
          go_cut [42] (fun s42 wx => s42 = .bool false ∧ Below wr.heap.size wr wx)
          case first =>
            go_region_held3 (fun w' => (w'.cell? ⟨g, j * 4, none⟩ = some (.int .i64 lf1) ∧ w'.cell? ⟨g, j * 4 + 1, none⟩ = some (.int .i64 lf2) ∧ w'.cell? ⟨g, j * 4 + 2, none⟩ = some (.int .i64 lf3) ∧ w'.cell? ⟨g, j * 4 + 3, none⟩ = some (.int .i64 lf4)) ∧
                (w'.cell? ⟨g, (j + 1 + 1) * 4, none⟩ = some (.int .i64 rf1) ∧ w'.cell? ⟨g, (j + 1 + 1) * 4 + 1, none⟩ = some (.int .i64 rf2) ∧ w'.cell? ⟨g, (j + 1 + 1) * 4 + 2, none⟩ = some (.int .i64 rf3) ∧ w'.cell? ⟨g, (j + 1 + 1) * 4 + 3, none⟩ = some (.int .i64 rf4)) ∧
                w'.cell? ⟨g, (j + 1) * 4, none⟩ = some (.int .i64 f1) ∧ w'.cell? ⟨g, (j + 1) * 4 + 1, none⟩ = some (.int .i64 f2) ∧ w'.cell? ⟨g, (j + 1) * 4 + 2, none⟩ = some (.int .i64 f3) ∧ w'.cell? ⟨g, (j + 1) * 4 + 3, none⟩ = some (.int .i64 f4)) (simp [go_sem, *])
              (first | (go_at_call 130; (with_reducible refine ((unhide H1) _).mono ?_); rintro e w3 ⟨rfl, hbw3⟩; obtain ⟨hcw3, hfw3⟩ := bcell hbw3; have hzw3 := hbw3.size; (try simp at hzw3); (try ((have kw3gX0 := (bnew hbw3) (g) ?pf); (case pf => (first | omega | (simp; done) | (simp; omega))); obtain ⟨kcw3gX0, kfw3gX0, klw3gX0⟩ := kw3gX0))) | (go_at_call 130; (with_reducible refine ((unhide H2) _).mono ?_); rintro e w4 ⟨rfl, hbw4⟩; obtain ⟨hcw4, hfw4⟩ := bcell hbw4; have hzw4 := hbw4.size; (try simp at hzw4); (try ((have kw4gX0 := (bnew hbw4) (g) ?pf); (case pf => (first | omega | (simp; done) | (simp; omega))); obtain ⟨kcw4gX0, kfw4gX0, klw4gX0⟩ := kw4gX0))))
            all_goals
              go_wp2_with fail
              go_meet
              exact ⟨by simp [*], (by repeat (first | with_reducible exact Below.refl _ _ | with_reducible assumption | (with_reducible refine Below.trans ?_ (Below.mono (by assumption) (by first | omega | (simp <;> omega)))) | with_reducible apply Below.drew | with_reducible apply below_drewN | (with_reducible refine Below.alloc ?_ (by first | omega | (simp <;> omega)) _) | (with_reducible refine Below.setCell ?_ (by first | omega | (simp <;> omega)) _)))⟩
          case rest =>
            obtain ⟨rfl, hbwc⟩ := hcut
            have hzc := hbwc.size
            (skip; (try ((have kwcgX0 := (bnew hbwc) (g) ?pf); (case pf => (first | omega | (simp; done) | (simp; omega))); obtain ⟨kcwcgX0, kfwcgX0, klwcgX0⟩ := kwcgX0)))
            have c0 := (kcwcgX0 _).trans k0
            have c1 := (kcwcgX0 _).trans k1
            have c2 := (kcwcgX0 _).trans k2
            have c3 := (kcwcgX0 _).trans k3
            have HBC := hide hbwc
            clear hbwc kcwcgX0 kfwcgX0
            have hb := unhide HB
            have hbc := unhide HBC
            have HBZ := hide (hb.trans (hbc.mono hb.size))
            have HO4 := hide (own_below (unhide HO) hbc)
            rw [← HE.out] at HO4
            clear hb hbc
            go_wp2_with fail
            go_roundw
            case rel => exact ⟨j + 1 + 1, _, by go_num, rfl, by omega, by omega, unhide HO4, unhide HBZ⟩
            case measure => simp [intOf]; omega
        · have hkeep : keepB qs (m + 1) (j + 1) = true := by simp [keepB, hs]
          obtain ⟨hl1, hn1⟩ := simK_yes hkeep
          have HL1 := Lib.hid hl1
          have HN := Lib.hid hn1
          clear hl1 hn1 hkeep
          have hne : ¬ ((slopeR (qAt qs j) (qAt qs (j + 1))).num = (slopeR (qAt qs (j + 1)) (qAt qs (j + 1 + 1))).num ∧ ((slopeR (qAt qs j) (qAt qs (j + 1))).den : Int) = (slopeR (qAt qs (j + 1)) (qAt qs (j + 1 + 1))).den) := fun h => hs (eq_parts.1 h)
          clear hs
          generalize slopeR (qAt qs (j + 1)) (qAt qs (j + 1 + 1)) = sl at *
          generalize slopeR (qAt qs j) (qAt qs (j + 1)) = st at *
          generalize sl.num = sx at *
          generalize (sl.den : Int) = sy at *
          generalize st.num = tx at *
          generalize (st.den : Int) = ty at *
          have H1 := hide h1; have H2 := hide h2; clear h1 h2
          generalize (qAt qs (j + 1)).1.num = f1 at *
          generalize ((qAt qs (j + 1)).1.den : Int) = f2 at *
          generalize (qAt qs (j + 1)).2.num = f3 at *
          generalize ((qAt qs (j + 1)).2.den : Int) = f4 at *
          generalize (qAt qs j).1.num = lf1 at *
          generalize ((qAt qs j).1.den : Int) = lf2 at *
          generalize (qAt qs j).2.num = lf3 at *
          generalize ((qAt qs j).2.den : Int) = lf4 at *
          generalize (qAt qs (j + 1 + 1)).1.num = rf1 at *
          generalize ((qAt qs (j + 1 + 1)).1.den : Int) = rf2 at *
          generalize (qAt qs (j + 1 + 1)).2.num = rf3 at *
          generalize ((qAt qs (j + 1 + 1)).2.den : Int) = rf4 at *
          by_cases hx : tx = sx
          · subst hx
            have hy : (ty == sy) = false := by simpa using hne
            have hy' : decide (ty = sy) = false := by simpa using hne
            clear hne
            go_upto_region 5 with fail
            go_cut [42] (fun s42 wx => s42 = .bool true ∧ Below wr.heap.size wr wx)
            case first =>
              go_region_held3 (fun w' => (w'.cell? ⟨g, j * 4, none⟩ = some (.int .i64 lf1) ∧ w'.cell? ⟨g, j * 4 + 1, none⟩ = some (.int .i64 lf2) ∧ w'.cell? ⟨g, j * 4 + 2, none⟩ = some (.int .i64 lf3) ∧ w'.cell? ⟨g, j * 4 + 3, none⟩ = some (.int .i64 lf4)) ∧
                  (w'.cell? ⟨g, (j + 1 + 1) * 4, none⟩ = some (.int .i64 rf1) ∧ w'.cell? ⟨g, (j + 1 + 1) * 4 + 1, none⟩ = some (.int .i64 rf2) ∧ w'.cell? ⟨g, (j + 1 + 1) * 4 + 2, none⟩ = some (.int .i64 rf3) ∧ w'.cell? ⟨g, (j + 1 + 1) * 4 + 3, none⟩ = some (.int .i64 rf4)) ∧
                  w'.cell? ⟨g, (j + 1) * 4, none⟩ = some (.int .i64 f1) ∧ w'.cell? ⟨g, (j + 1) * 4 + 1, none⟩ = some (.int .i64 f2) ∧ w'.cell? ⟨g, (j + 1) * 4 + 2, none⟩ = some (.int .i64 f3) ∧ w'.cell? ⟨g, (j + 1) * 4 + 3, none⟩ = some (.int .i64 f4)) (simp [go_sem, *])
                (first | (go_at_call 130; (with_reducible refine ((unhide H1) _).mono ?_); rintro e w3 ⟨rfl, hbw3⟩; obtain ⟨hcw3, hfw3⟩ := bcell hbw3; have hzw3 := hbw3.size; (try simp at hzw3); (try ((have kw3gX0 := (bnew hbw3) (g) ?pf); (case pf => (first | omega | (simp; done) | (simp; omega))); obtain ⟨kcw3gX0, kfw3gX0, klw3gX0⟩ := kw3gX0))) | (go_at_call 130; (with_reducible refine ((unhide H2) _).mono ?_); rintro e w4 ⟨rfl, hbw4⟩; obtain ⟨hcw4, hfw4⟩ := bcell hbw4; have hzw4 := hbw4.size; (try simp at hzw4); (try ((have kw4gX0 := (bnew hbw4) (g) ?pf); (case pf => (first | omega | (simp; done) | (simp; omega))); obtain ⟨kcw4gX0, kfw4gX0, klw4gX0⟩ := kw4gX0))))
              all_goals
                go_wp2_with fail
                go_meet
                exact ⟨by simp [*], (by repeat (first | with_reducible exact Below.refl _ _ | with_reducible assumption | (with_reducible refine Below.trans ?_ (Below.mono (by assumption) (by first | omega | (simp <;> omega)))) | with_reducible apply Below.drew | with_reducible apply below_drewN | (with_reducible refine Below.alloc ?_ (by first | omega | (simp <;> omega)) _) | (with_reducible refine Below.setCell ?_ (by first | omega | (simp <;> omega)) _)))⟩
            case rest =>
              obtain ⟨rfl, hbwc⟩ := hcut
              have hzc := hbwc.size
              (skip; (try ((have kwcgX0 := (bnew hbwc) (g) ?pf); (case pf => (first | omega | (simp; done) | (simp; omega))); obtain ⟨kcwcgX0, kfwcgX0, klwcgX0⟩ := kwcgX0)))
              have c0 := (kcwcgX0 _).trans k0
              have c1 := (kcwcgX0 _).trans k1
              have c2 := (kcwcgX0 _).trans k2
              have c3 := (kcwcgX0 _).trans k3
              have HBC := hide hbwc
              clear hbwc kcwcgX0 kfwcgX0
              go_wp2_with (at_builtin; refine wpList_append_lies _ rfl _ _ _ rfl w.heap.size 63 i0 _ 4 32 Tryz.underlying24 hi0 hz0 hz1 hz2 rfl (by omega) u _ _ rfl (World.ownsRow.alloc (own_below (unhide HO) (unhide HBC)) _) ⟨wc.heap.size, 0, none⟩ 1 1 [.int .i64 f1, .int .i64 f2, .int .i64 f3, .int .i64 f4] rfl rfl (World.news_of_block (cs := #[.int .i64 f1, .int .i64 f2, .int .i64 f3, .int .i64 f4]) (t := 63) (fr := (0, 0)) (heap_alloc_new wc _)) (by simp [Value.oneCell']) (by omega) (by unfold maxLen; omega) (by omega) (by simp; omega) (wc.heap.size + 1) (by simp) ?_; intro gg cap w4 hown4 hgrow hat hlt4)
              have hb := unhide HB
              have hbc := unhide HBC
              rw [← HN.out, ← HL1.out] at hown4
              have hby : Below wr.heap.size wr (wc.alloc (.cells #[.int .i64 f1, .int .i64 f2, .int .i64 f3, .int .i64 f4] 63)) := (by repeat (first | with_reducible exact Below.refl _ _ | with_reducible assumption | (with_reducible refine Below.trans ?_ (Below.mono (by assumption) (by first | omega | (simp <;> omega)))) | with_reducible apply Below.drew | with_reducible apply below_drewN | (with_reducible refine Below.alloc ?_ (by first | omega | (simp <;> omega)) _) | (with_reducible refine Below.setCell ?_ (by first | omega | (simp <;> omega)) _)))
              have hbz : Below w.heap.size w w4 := (hb.trans (hby.mono hb.size)).grown hgrow (by have := hby.size; omega) (unhide HV)
              have hn1 := HL1.out
              have HO4 := hide hown4
              have HBZ := hide hbz
              clear hown4 hby hgrow hb hbz hbc
              go_wp2_with fail
              go_roundw
              case rel => exact ⟨j + 1 + 1, _, by go_num, by rw [hn1], by omega, by omega, unhide HO4, unhide HBZ⟩
              case measure => (simp [intOf] <;> omega)
          · have hx' : (tx == sx) = false := by simpa using hx
            have hx'' : decide (tx = sx) = false := by simpa using hx
            clear hne
            go_upto_region 5 with fail
            go_cut [42] (fun s42 wx => s42 = .bool true ∧ Below wr.heap.size wr wx)
            case first =>
              go_region_held3 (fun w' => (w'.cell? ⟨g, j * 4, none⟩ = some (.int .i64 lf1) ∧ w'.cell? ⟨g, j * 4 + 1, none⟩ = some (.int .i64 lf2) ∧ w'.cell? ⟨g, j * 4 + 2, none⟩ = some (.int .i64 lf3) ∧ w'.cell? ⟨g, j * 4 + 3, none⟩ = some (.int .i64 lf4)) ∧
                  (w'.cell? ⟨g, (j + 1 + 1) * 4, none⟩ = some (.int .i64 rf1) ∧ w'.cell? ⟨g, (j + 1 + 1) * 4 + 1, none⟩ = some (.int .i64 rf2) ∧ w'.cell? ⟨g, (j + 1 + 1) * 4 + 2, none⟩ = some (.int .i64 rf3) ∧ w'.cell? ⟨g, (j + 1 + 1) * 4 + 3, none⟩ = some (.int .i64 rf4)) ∧
                  w'.cell? ⟨g, (j + 1) * 4, none⟩ = some (.int .i64 f1) ∧ w'.cell? ⟨g, (j + 1) * 4 + 1, none⟩ = some (.int .i64 f2) ∧ w'.cell? ⟨g, (j + 1) * 4 + 2, none⟩ = some (.int .i64 f3) ∧ w'.cell? ⟨g, (j + 1) * 4 + 3, none⟩ = some (.int .i64 f4)) (simp [go_sem, *])
                (first | (go_at_call 130; (with_reducible refine ((unhide H1) _).mono ?_); rintro e w3 ⟨rfl, hbw3⟩; obtain ⟨hcw3, hfw3⟩ := bcell hbw3; have hzw3 := hbw3.size; (try simp at hzw3); (try ((have kw3gX0 := (bnew hbw3) (g) ?pf); (case pf => (first | omega | (simp; done) | (simp; omega))); obtain ⟨kcw3gX0, kfw3gX0, klw3gX0⟩ := kw3gX0))) | (go_at_call 130; (with_reducible refine ((unhide H2) _).mono ?_); rintro e w4 ⟨rfl, hbw4⟩; obtain ⟨hcw4, hfw4⟩ := bcell hbw4; have hzw4 := hbw4.size; (try simp at hzw4); (try ((have kw4gX0 := (bnew hbw4) (g) ?pf); (case pf => (first | omega | (simp; done) | (simp; omega))); obtain ⟨kcw4gX0, kfw4gX0, klw4gX0⟩ := kw4gX0))))
              all_goals
                go_wp2_with fail
                go_meet
                exact ⟨by simp [*], (by repeat (first | with_reducible exact Below.refl _ _ | with_reducible assumption | (with_reducible refine Below.trans ?_ (Below.mono (by assumption) (by first | omega | (simp <;> omega)))) | with_reducible apply Below.drew | with_reducible apply below_drewN | (with_reducible refine Below.alloc ?_ (by first | omega | (simp <;> omega)) _) | (with_reducible refine Below.setCell ?_ (by first | omega | (simp <;> omega)) _)))⟩
            case rest =>
              obtain ⟨rfl, hbwc⟩ := hcut
              have hzc := hbwc.size
              (skip; (try ((have kwcgX0 := (bnew hbwc) (g) ?pf); (case pf => (first | omega | (simp; done) | (simp; omega))); obtain ⟨kcwcgX0, kfwcgX0, klwcgX0⟩ := kwcgX0)))
              have c0 := (kcwcgX0 _).trans k0
              have c1 := (kcwcgX0 _).trans k1
              have c2 := (kcwcgX0 _).trans k2
              have c3 := (kcwcgX0 _).trans k3
              have HBC := hide hbwc
              clear hbwc kcwcgX0 kfwcgX0
              go_wp2_with (at_builtin; refine wpList_append_lies _ rfl _ _ _ rfl w.heap.size 63 i0 _ 4 32 Tryz.underlying24 hi0 hz0 hz1 hz2 rfl (by omega) u _ _ rfl (World.ownsRow.alloc (own_below (unhide HO) (unhide HBC)) _) ⟨wc.heap.size, 0, none⟩ 1 1 [.int .i64 f1, .int .i64 f2, .int .i64 f3, .int .i64 f4] rfl rfl (World.news_of_block (cs := #[.int .i64 f1, .int .i64 f2, .int .i64 f3, .int .i64 f4]) (t := 63) (fr := (0, 0)) (heap_alloc_new wc _)) (by simp [Value.oneCell']) (by omega) (by unfold maxLen; omega) (by omega) (by simp; omega) (wc.heap.size + 1) (by simp) ?_; intro gg cap w4 hown4 hgrow hat hlt4)
              have hb := unhide HB
              have hbc := unhide HBC
              rw [← HN.out, ← HL1.out] at hown4
              have hby : Below wr.heap.size wr (wc.alloc (.cells #[.int .i64 f1, .int .i64 f2, .int .i64 f3, .int .i64 f4] 63)) := (by repeat (first | with_reducible exact Below.refl _ _ | with_reducible assumption | (with_reducible refine Below.trans ?_ (Below.mono (by assumption) (by first | omega | (simp <;> omega)))) | with_reducible apply Below.drew | with_reducible apply below_drewN | (with_reducible refine Below.alloc ?_ (by first | omega | (simp <;> omega)) _) | (with_reducible refine Below.setCell ?_ (by first | omega | (simp <;> omega)) _)))
              have hbz : Below w.heap.size w w4 := (hb.trans (hby.mono hb.size)).grown hgrow (by have := hby.size; omega) (unhide HV)
              have hn1 := HL1.out
              have HO4 := hide hown4
              have HBZ := hide hbz
              clear hown4 hby hgrow hb hbz hbc
              go_wp2_with fail
              go_roundw
              case rel => exact ⟨j + 1 + 1, _, by go_num, by rw [hn1], by omega, by omega, unhide HO4, unhide HBZ⟩
              case measure => (simp [intOf] <;> omega)
    · obtain rfl : k = m + 1 := by omega
      have HO := hide hown
      have HB := hide hbwr
      clear hown hbwr
      go_wp2
      go_ret
      exact ⟨_, rfl, unhide HO, unhide HB⟩
end Go.Proofs.YtjggjegjhcpjhaaGreat

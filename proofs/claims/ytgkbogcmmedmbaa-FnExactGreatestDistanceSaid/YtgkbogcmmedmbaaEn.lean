/-
  Chapter 5: GreatestDistance of the program.
-/
import Derived.Test.YtgkbogcmmedmbaaEm
namespace Go.Proofs.Ytgkbogcmmedmbaa
open Go.RowKit Rm

set_option maxRecDepth 100000 in
set_option maxHeartbeats 6400000 in
theorem iGreatestDistance_any (A : Option Addr) (n c b1 : Nat) (ps : List Pt) (B : Option Addr) (m d b2 : Nat) (qs : List Pt) (w : World) (ha : w.ownsRow b1 43 4 (.slice A n c) n (ptcs ps)) (hn : n ≤ 1048576) (hb : w.ownsRow b2 43 4 (.slice B m d) m (ptcs qs)) (hm : m ≤ 1048576) :
    Calls Try.prog 13 #[.slice A n c, .slice B m d] w fun e w' => e = .returned (.tuple #[.agg #[.int .i64 (oN (gdP ps qs)), .int .i64 (oD (gdP ps qs))], .bool (gdP ps qs).isSome]) ∧ Below w.heap.size w w' := by
  cases hz : (mapB ps && mapB qs) with
  | false =>
    have hno : mapB ps = false ∨ mapB qs = false := by
      cases h1 : mapB ps with
      | false => exact .inl rfl
      | true => rw [h1, Bool.true_and] at hz; exact .inr hz
    have hv := fun W hW hV => valuesOfBoth_no A n c b1 ps B m d b2 qs W hW hn hV hm hno
    rw [gdP_no hno]
    have HV := hide hv; have HA := hide ha; have HB := hide hb; clear hv ha hb hno hz
    simp only [oN_none, oD_none, Option.isSome_none]
    go_enter Try.func13, Try.ntmps13
    go_wp2_with (go_at_call 35; (with_reducible refine ((unhide HV) _ (own_below (unhide HA) ?pb) (own_below (unhide HB) ?pc)).mono ?_); (case pb => exact (by repeat (first | with_reducible exact Below.refl _ _ | with_reducible assumption | (with_reducible refine Below.trans ?_ (Below.mono (by assumption) (by first | omega | (simp <;> omega)))) | with_reducible apply Below.drew | with_reducible apply below_drewN | (with_reducible refine Below.alloc ?_ (by first | omega | (simp <;> omega)) _) | (with_reducible refine Below.setCell ?_ (by first | omega | (simp <;> omega)) _)))); (case pc => exact (by repeat (first | with_reducible exact Below.refl _ _ | with_reducible assumption | (with_reducible refine Below.trans ?_ (Below.mono (by assumption) (by first | omega | (simp <;> omega)))) | with_reducible apply Below.drew | with_reducible apply below_drewN | (with_reducible refine Below.alloc ?_ (by first | omega | (simp <;> omega)) _) | (with_reducible refine Below.setCell ?_ (by first | omega | (simp <;> omega)) _)))); rintro e w1 ⟨rfl, hbw1⟩; have hsw1 := hbw1.size; (try simp at hsw1); (skip; (try ((have kw1w0 := (bnew hbw1) (w.heap.size) ?pf); (case pf => (first | omega | (simp; done) | (simp; omega))); obtain ⟨kcw1w0, kfw1w0, klw1w0⟩ := kw1w0))))
    exact bodyPost_ret (v := .tuple #[.agg #[.int .i64 (0), .int .i64 (0)], .bool false]) (by simp [results, Try.results13, go_sem, *]) rfl ⟨rfl, (by repeat (first | with_reducible exact Below.refl _ _ | with_reducible assumption | (with_reducible refine Below.trans ?_ (Below.mono (by assumption) (by first | omega | (simp <;> omega)))) | with_reducible apply Below.drew | with_reducible apply below_drewN | (with_reducible refine Below.alloc ?_ (by first | omega | (simp <;> omega)) _) | (with_reducible refine Below.setCell ?_ (by first | omega | (simp <;> omega)) _)))⟩
  | true =>
    rw [Bool.and_eq_true] at hz
    obtain ⟨g, m1, fs, rfl, rfl, rfl, hgx, hlx⟩ := own_form ha hz.1
    obtain ⟨g', m2, gs, rfl, rfl, rfl, hgy, hly⟩ := own_form hb hz.2
    rw [gdP_yes hgx hgy]
    have hv := fun W hW hV => valuesOfBoth_any g m1 c b1 g' m2 d b2 fs gs W hW hV hgx hgy
    obtain ⟨hpl, hbl⟩ := bothX_pl hgx hgy
    have hxl := hpl.len
    have hfit := fun hc k hk => vf_fit (xs := bothX fs gs) hgx hgy hpl.un hc (k := k) hk
    unfold gdO
    have HV := hide hv; have HFT := hide hfit; have HA := hide ha; have HB := hide hb
    clear hv hfit ha hb hz hgx hgy hlx hly hpl
    generalize bothX fs gs = xs at *
    cases hc : cvB fs gs xs with
    | false =>
      have HC := Lib.hid hc; clear hc
      rw [if_neg (by simp)]
      simp only [oN_none, oD_none, Option.isSome_none]
      go_enter Try.func13, Try.ntmps13
      go_wp2_with (go_at_call 35; (with_reducible refine ((unhide HV) _ (own_below (unhide HA) ?pb) (own_below (unhide HB) ?pc)).mono ?_); (case pb => exact (by repeat (first | with_reducible exact Below.refl _ _ | with_reducible assumption | (with_reducible refine Below.trans ?_ (Below.mono (by assumption) (by first | omega | (simp <;> omega)))) | with_reducible apply Below.drew | with_reducible apply below_drewN | (with_reducible refine Below.alloc ?_ (by first | omega | (simp <;> omega)) _) | (with_reducible refine Below.setCell ?_ (by first | omega | (simp <;> omega)) _)))); (case pc => exact (by repeat (first | with_reducible exact Below.refl _ _ | with_reducible assumption | (with_reducible refine Below.trans ?_ (Below.mono (by assumption) (by first | omega | (simp <;> omega)))) | with_reducible apply Below.drew | with_reducible apply below_drewN | (with_reducible refine Below.alloc ?_ (by first | omega | (simp <;> omega)) _) | (with_reducible refine Below.setCell ?_ (by first | omega | (simp <;> omega)) _)))); rintro e w1 ⟨⟨_, h2⟩, hbw1⟩; obtain rfl := h2 HC.out; clear h2; have hsw1 := hbw1.size; (try simp at hsw1); (skip; (try ((have kw1w0 := (bnew hbw1) (w.heap.size) ?pf); (case pf => (first | omega | (simp; done) | (simp; omega))); obtain ⟨kcw1w0, kfw1w0, klw1w0⟩ := kw1w0))))
      exact bodyPost_ret (v := .tuple #[.agg #[.int .i64 (0), .int .i64 (0)], .bool false]) (by simp [results, Try.results13, go_sem, *]) rfl ⟨rfl, (by repeat (first | with_reducible exact Below.refl _ _ | with_reducible assumption | (with_reducible refine Below.trans ?_ (Below.mono (by assumption) (by first | omega | (simp <;> omega)))) | with_reducible apply Below.drew | with_reducible apply below_drewN | (with_reducible refine Below.alloc ?_ (by first | omega | (simp <;> omega)) _) | (with_reducible refine Below.setCell ?_ (by first | omega | (simp <;> omega)) _)))⟩
    | true =>
      rw [if_pos rfl]
      have hfc := (unhide HFT) hc
      have HFC := hide hfc
      have HC := Lib.hid hc; clear hc hfc HFT
      go_enter Try.func13, Try.ntmps13
      go_wp2_with (go_at_call 35; (with_reducible refine ((unhide HV) _ (own_below (unhide HA) ?pb) (own_below (unhide HB) ?pc)).mono ?_); (case pb => exact (by repeat (first | with_reducible exact Below.refl _ _ | with_reducible assumption | (with_reducible refine Below.trans ?_ (Below.mono (by assumption) (by first | omega | (simp <;> omega)))) | with_reducible apply Below.drew | with_reducible apply below_drewN | (with_reducible refine Below.alloc ?_ (by first | omega | (simp <;> omega)) _) | (with_reducible refine Below.setCell ?_ (by first | omega | (simp <;> omega)) _)))); (case pc => exact (by repeat (first | with_reducible exact Below.refl _ _ | with_reducible assumption | (with_reducible refine Below.trans ?_ (Below.mono (by assumption) (by first | omega | (simp <;> omega)))) | with_reducible apply Below.drew | with_reducible apply below_drewN | (with_reducible refine Below.alloc ?_ (by first | omega | (simp <;> omega)) _) | (with_reducible refine Below.setCell ?_ (by first | omega | (simp <;> omega)) _)))); rintro e w1 ⟨⟨h1, _⟩, hbw1⟩; obtain ⟨A1, d1, rfl, ho1⟩ := h1 HC.out; clear h1; obtain ⟨g1, rfl, hg10, hg11⟩ := own_some ho1 (by omega); have hsw1 := hbw1.size; (try simp at hsw1); (skip; (try ((have kw1w0 := (bnew hbw1) (w.heap.size) ?pf); (case pf => (first | omega | (simp; done) | (simp; omega))); obtain ⟨kcw1w0, kfw1w0, klw1w0⟩ := kw1w0))); have HO1 := hide ho1; clear ho1)
      have hsq : w.heap.size < w1.heap.size := klw1w0
      have r0 : w1.cell? ⟨w.heap.size, 0, none⟩ = some (.int .i64 0) := by rw [kcw1w0]; simp [go_sem]
      have r1 : w1.cell? ⟨w.heap.size, 1, none⟩ = some (.int .i64 0) := by rw [kcw1w0]; simp [go_sem]
      have rf : ∀ o, w1.frozen? ⟨w.heap.size, o, none⟩ = false := fun o => by rw [kfw1w0]; simp [go_sem]
      have hb0 : Below w.heap.size w (w1.alloc (.cells #[.int .i64 0, .int .i64 1] 31)) := (by repeat (first | with_reducible exact Below.refl _ _ | with_reducible assumption | (with_reducible refine Below.trans ?_ (Below.mono (by assumption) (by first | omega | (simp <;> omega)))) | with_reducible apply Below.drew | with_reducible apply below_drewN | (with_reducible refine Below.alloc ?_ (by first | omega | (simp <;> omega)) _) | (with_reducible refine Below.setCell ?_ (by first | omega | (simp <;> omega)) _)))
      have hbA : Below w1.heap.size w1 (w1.alloc (.cells #[.int .i64 0, .int .i64 1] 31)) := (by repeat (first | with_reducible exact Below.refl _ _ | with_reducible assumption | (with_reducible refine Below.trans ?_ (Below.mono (by assumption) (by first | omega | (simp <;> omega)))) | with_reducible apply Below.drew | with_reducible apply below_drewN | (with_reducible refine Below.alloc ?_ (by first | omega | (simp <;> omega)) _) | (with_reducible refine Below.setCell ?_ (by first | omega | (simp <;> omega)) _)))
      have m0 : (w1.alloc (.cells #[.int .i64 0, .int .i64 1] 31)).cell? ⟨w1.heap.size, 0, none⟩ = some (.int .i64 (0 : Rat).num) := by simp [go_sem]
      have m1 : (w1.alloc (.cells #[.int .i64 0, .int .i64 1] 31)).cell? ⟨w1.heap.size, 1, none⟩ = some (.int .i64 ((0 : Rat).den : Int)) := by simp [go_sem]
      have mf : ∀ o, (w1.alloc (.cells #[.int .i64 0, .int .i64 1] 31)).frozen? ⟨w1.heap.size, o, none⟩ = false := by intro o; simp [go_sem]
      have hMq : w1.heap.size < (w1.alloc (.cells #[.int .i64 0, .int .i64 1] 31)).heap.size := by simp
      have HO := hide (own_below (unhide HO1) hbA)
      replace r0 := (hbA.cell (p := ⟨w.heap.size, 0, none⟩) hsq).trans r0
      replace r1 := (hbA.cell (p := ⟨w.heap.size, 1, none⟩) hsq).trans r1
      replace rf := fun o => (hbA.frozen (p := ⟨w.heap.size, o, none⟩) hsq).trans (rf o)
      have HBQ := hide hb0
      clear hb0 hbA hbw1 HO1 kcw1w0 kfw1w0 klw1w0 hg10 HV HA HB
      generalize w1.alloc (.cells #[.int .i64 0, .int .i64 1] 31) = wq at *
      generalize w1.heap.size = M at *
      have hRq : w.heap.size < wq.heap.size := by omega
      go_loopw [25] (fun i wr => ∃ (k : Nat) (cur : Rat), i = .int .i64 k ∧ k ≤ xs.length ∧ Hid (odK (xs.map (vf fs)) (xs.map (vf gs)) k = some cur) ∧ wr.cell? ⟨M, 0, none⟩ = some (.int .i64 cur.num) ∧ wr.cell? ⟨M, 1, none⟩ = some (.int .i64 cur.den) ∧ (∀ o, wr.frozen? ⟨M, o, none⟩ = false) ∧ wq.grownBy wr (some M)) (fun i _ => xs.length - (intOf i).toNat)
      case atStart => exact ⟨0, 0, rfl, by omega, hide rfl, m0, m1, mf, World.grownBy.refl _ _⟩
      case round =>
        obtain ⟨k, cur, rfl, hk, HP, c0, c1, cf, hgr⟩ := hrel
        have hsr := hgr.size
        have hMr : M < wr.heap.size := by omega
        have hRr : w.heap.size < wr.heap.size := by omega
        have q0 := (World.cell?_of_block (a := ⟨w.heap.size, 0, none⟩) (hgr.block w.heap.size hRq (fun e => by have := Option.some.inj e; omega))).trans r0
        have q1 := (World.cell?_of_block (a := ⟨w.heap.size, 1, none⟩) (hgr.block w.heap.size hRq (fun e => by have := Option.some.inj e; omega))).trans r1
        have qz := fun o => (World.frozen?_of_block (a := ⟨w.heap.size, o, none⟩) (hgr.block w.heap.size hRq (fun e => by have := Option.some.inj e; omega))).trans (rf o)
        have hb := (unhide HBQ).grown hgr (by omega) (fun i e => by have := Option.some.inj e; omega)
        by_cases hlt : k < xs.length
        · obtain ⟨gy, hgy, hgl, _, f0, f1, f2, f3⟩ := pair_cells (unhide HO) hlt
          obtain rfl : g1 = gy := by have := Option.some.inj hgy; injection this
          rw [vpL_at hlt] at f0 f1 f2 f3
          simp only at f0 f1 f2 f3
          have hblk := hgr.block g1 hgl (fun e => by have := Option.some.inj e; omega)
          have y0 := (World.cell?_of_block (a := ⟨g1, k * 4, none⟩) hblk).trans f0
          have y1 := (World.cell?_of_block (a := ⟨g1, k * 4 + 1, none⟩) hblk).trans f1
          have z0 := (World.cell?_of_block (a := ⟨g1, k * 4 + 2, none⟩) hblk).trans f2
          have z1 := (World.cell?_of_block (a := ⟨g1, k * 4 + 3, none⟩) hblk).trans f3
          have hg1r : g1 < wr.heap.size := by omega
          obtain ⟨hfa, hfb⟩ := (unhide HFC) k hlt
          have hcurf := odK_fits (unhide HP)
          have hap := fun W => distanceOf_q (vf fs (xs.getD k 0)) (vf gs (xs.getD k 0)) hfa.fit hfb.fit W
          have HB := hide hb
          have HG := hide hgr
          clear hb hgr m0 m1 mf r0 r1 rf f0 f1 f2 f3 hblk hfa hfb hgy
          rcases hd : apR (vf fs (xs.getD k 0)) (vf gs (xs.getD k 0)) with _ | e
          · have HNO := Lib.hid (gd_none hlt (unhide HP) hd)
            rw [hd] at hap
            simp only [oN_none, oD_none, Option.isSome_none] at hap
            have HAP := hide hap
            clear hap hd hcurf
            generalize (vf fs (xs.getD k 0)).num = a1 at *
            generalize ((vf fs (xs.getD k 0)).den : Int) = a2 at *
            generalize (vf gs (xs.getD k 0)).num = a3 at *
            generalize ((vf gs (xs.getD k 0)).den : Int) = a4 at *
            generalize cur.num = u1 at *
            generalize (cur.den : Int) = u2 at *
            go_wp2_with ((go_at_call 36; (with_reducible refine ((unhide HAP) _).mono ?_); rintro e w5 ⟨rfl, hbw5⟩; obtain ⟨hcw5, hfw5⟩ := bcell hbw5; have hzw5 := hbw5.size; (try simp at hzw5); (try ((have kw5w.heap.sizeX0 := (bnew hbw5) (w.heap.size) ?pf); (case pf => (first | omega | (simp; done) | (simp; omega))); obtain ⟨kcw5w.heap.sizeX0, kfw5w.heap.sizeX0, klw5w.heap.sizeX0⟩ := kw5w.heap.sizeX0)); (try ((have kw5wr0 := (bnew hbw5) (wr.heap.size) ?pf); (case pf => (first | omega | (simp; done) | (simp; omega))); obtain ⟨kcw5wr0, kfw5wr0, klw5wr0⟩ := kw5wr0))))
            have hb := unhide HB
            rw [HNO.out]
            exact bodyPost_ret (v := .tuple #[.agg #[.int .i64 (0), .int .i64 (0)], .bool false]) (by simp [results, Try.results13, go_sem, *]) rfl ⟨rfl, (by repeat (first | with_reducible exact Below.refl _ _ | with_reducible assumption | (with_reducible refine Below.trans ?_ (Below.mono (by assumption) (by first | omega | (simp <;> omega)))) | with_reducible apply Below.drew | with_reducible apply below_drewN | (with_reducible refine Below.alloc ?_ (by first | omega | (simp <;> omega)) _) | (with_reducible refine Below.setCell ?_ (by first | omega | (simp <;> omega)) _)))⟩
          · have hef := apR_fits hd
            have HST := Lib.hid (gd_step hlt (unhide HP) hd)
            rw [hd] at hap
            simp only [oN_some, oD_some, Option.isSome_some] at hap
            have HAP := hide hap
            clear hap hd
            generalize (vf fs (xs.getD k 0)).num = a1 at *
            generalize ((vf fs (xs.getD k 0)).den : Int) = a2 at *
            generalize (vf gs (xs.getD k 0)).num = a3 at *
            generalize ((vf gs (xs.getD k 0)).den : Int) = a4 at *
            obtain ⟨r, hr⟩ : ∃ r, (if cur < e then e else cur) = r := ⟨_, rfl⟩
            have HMX := hide (fun (V : World) (X : Nat) h => max2g V cur e r X h hcurf hef hr)
            rw [hr] at HST
            clear hr hcurf hef
            go_wp2_with (first
              | (go_at_call 36; (with_reducible refine ((unhide HAP) _).mono ?_); rintro e w5 ⟨rfl, hbw5⟩; obtain ⟨hcw5, hfw5⟩ := bcell hbw5; have hzw5 := hbw5.size; (try simp at hzw5); (try ((have kw5w.heap.sizeX0 := (bnew hbw5) (w.heap.size) ?pf); (case pf => (first | omega | (simp; done) | (simp; omega))); obtain ⟨kcw5w.heap.sizeX0, kfw5w.heap.sizeX0, klw5w.heap.sizeX0⟩ := kw5w.heap.sizeX0)); (try ((have kw5wr0 := (bnew hbw5) (wr.heap.size) ?pf); (case pf => (first | omega | (simp; done) | (simp; omega))); obtain ⟨kcw5wr0, kfw5wr0, klw5wr0⟩ := kw5wr0)); (try ((have kw5MX0 := (bnew hbw5) (M) ?pf); (case pf => (first | omega | (simp; done) | (simp; omega))); obtain ⟨kcw5MX0, kfw5MX0, klw5MX0⟩ := kw5MX0)))
              | (go_at_call 37; (with_reducible refine ((unhide HMX) _ _ ?px).mono ?_); (case px => exact lit2g _ _ _ _ (by simp)); rintro e w6 ⟨rfl, hbw6⟩; have hsw6 := hbw6.size; (try simp at hsw6); (skip; (try ((have kw6w.heap.sizeX0 := (bnew hbw6) (w.heap.size) ?pf); (case pf => (first | omega | (simp; done) | (simp; omega))); obtain ⟨kcw6w.heap.sizeX0, kfw6w.heap.sizeX0, klw6w.heap.sizeX0⟩ := kw6w.heap.sizeX0)); (try ((have kw6MX0 := (bnew hbw6) (M) ?pf); (case pf => (first | omega | (simp; done) | (simp; omega))); obtain ⟨kcw6MX0, kfw6MX0, klw6MX0⟩ := kw6MX0)))))
            have HGD := hide (grown_set (grown_set (grown_on (unhide HG) (show Below wr.heap.size wr w6 from (by repeat (first | with_reducible exact Below.refl _ _ | with_reducible assumption | (with_reducible refine Below.trans ?_ (Below.mono (by assumption) (by first | omega | (simp <;> omega)))) | with_reducible apply Below.drew | with_reducible apply below_drewN | (with_reducible refine Below.alloc ?_ (by first | omega | (simp <;> omega)) _) | (with_reducible refine Below.setCell ?_ (by first | omega | (simp <;> omega)) _))))) 0 (.int .i64 r.num)) 1 (.int .i64 r.den))
            have t0 : w6.cell? ⟨M, 0, none⟩ = some (.int .i64 cur.num) := by rw [kcw6MX0]; simp [go_sem, *]
            have t1 : w6.cell? ⟨M, 1, none⟩ = some (.int .i64 cur.den) := by rw [kcw6MX0]; simp [go_sem, *]
            have tz : ∀ o, w6.frozen? ⟨M, o, none⟩ = false := fun o => by rw [kfw6MX0]; simp [go_sem, *]
            have HK := hide (And.intro t0 (And.intro t1 tz))
            clear HB t0 t1 tz
            go_roundw
            case rel => exact ⟨k + 1, r, by go_num, by omega, hide HST.out, by have t := unhide HK; simp [go_sem, t.1], by have t := unhide HK; simp [go_sem, t.2.1], fun o => by have t := unhide HK; simp [go_sem, t.2.2], unhide HGD⟩
            case measure => simp [intOf]; omega
        · obtain rfl : k = xs.length := by omega
          have HB := hide hb
          have hbz := hb.size
          have HPR := Lib.hid (unhide HP)
          clear hb hgr cf m0 m1 r0 r1 rf HP
          generalize hcn : cur.num = u1 at *
          generalize hcd : (cur.den : Int) = u2 at *
          have HCN := Lib.hid (And.intro hcn hcd)
          clear hcn hcd
          go_wp2_with fail
          have hb := unhide HB
          rw [HPR.out]
          simp only [oN_some, oD_some, Option.isSome_some]
          rw [HCN.out.1, HCN.out.2]
          exact bodyPost_ret (v := .tuple #[.agg #[.int .i64 (u1), .int .i64 (u2)], .bool true]) (by simp [results, Try.results13, go_sem, *]) rfl ⟨rfl, (by repeat (first | with_reducible exact Below.refl _ _ | with_reducible assumption | (with_reducible refine Below.trans ?_ (Below.mono (by assumption) (by first | omega | (simp <;> omega)))) | with_reducible apply Below.drew | with_reducible apply below_drewN | (with_reducible refine Below.alloc ?_ (by first | omega | (simp <;> omega)) _) | (with_reducible refine Below.setCell ?_ (by first | omega | (simp <;> omega)) _)))⟩
end Go.Proofs.Ytgkbogcmmedmbaa

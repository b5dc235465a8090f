/-
  Chapter 5: GreatestDistance of the model.
-/
import Derived.Test.YtgkbogcmmedmbaaEm
namespace Go.Proofs.Ytgkbogcmmedmbaa
open Go.RowKit Rm

set_option maxRecDepth 100000 in
set_option maxHeartbeats 6400000 in
theorem sGreatestDistance_any (A : Option Addr) (n c b1 : Nat) (ps : List Pt) (B : Option Addr) (m d b2 : Nat) (qs : List Pt) (w : World) (ha : w.ownsRow b1 43 4 (.slice A n c) n (ptcs ps)) (hn : n ≤ 1048576) (hb : w.ownsRow b2 43 4 (.slice B m d) m (ptcs qs)) (hm : m ≤ 1048576) :
    Calls Try.prog 12 #[.slice A n c, .slice B m d] w fun e w' => e = .returned (.tuple #[.agg #[.int .i64 (oN (gdP ps qs)), .int .i64 (oD (gdP ps qs))], .bool (gdP ps qs).isSome]) ∧ Below w.heap.size w w' := by
  have ht := fun W hW hV => coTwo_any A B n m c d b1 b2 ps qs W hW hV hn hm
  cases hz : (mapB ps && mapB qs) with
  | false =>
    rw [hz] at ht
    have e : gdP ps qs = none := by unfold gdP; rw [hz]; rfl
    rw [e]
    have HA := hide ha; have HB := hide hb; have HT := hide ht; clear ha hb ht hz e
    simp only [oN_none, oD_none, Option.isSome_none]
    go_enter Try.func12, Try.ntmps12
    go_wp2_with (go_at_call 22; (with_reducible refine ((unhide HT) _ (own_below (unhide HA) ?p1) (own_below (unhide HB) ?p2)).mono ?_); (case p1 => exact (by repeat (first | with_reducible exact Below.refl _ _ | with_reducible assumption | (with_reducible refine Below.trans ?_ (Below.mono (by assumption) (by first | omega | (simp <;> omega)))) | with_reducible apply Below.drew | with_reducible apply below_drewN | (with_reducible refine Below.alloc ?_ (by first | omega | (simp <;> omega)) _) | (with_reducible refine Below.setCell ?_ (by first | omega | (simp <;> omega)) _)))); (case p2 => exact (by repeat (first | with_reducible exact Below.refl _ _ | with_reducible assumption | (with_reducible refine Below.trans ?_ (Below.mono (by assumption) (by first | omega | (simp <;> omega)))) | with_reducible apply Below.drew | with_reducible apply below_drewN | (with_reducible refine Below.alloc ?_ (by first | omega | (simp <;> omega)) _) | (with_reducible refine Below.setCell ?_ (by first | omega | (simp <;> omega)) _)))); rintro e w0 ⟨rfl, hbw0⟩; have hs0 := hbw0.size; (try simp at hs0); (skip; (try ((have kw0w0 := (bnew hbw0) (w.heap.size) ?pf); (case pf => (first | omega | (simp; done) | (simp; omega))); obtain ⟨kcw0w0, kfw0w0, klw0w0⟩ := kw0w0))))
    exact bodyPost_ret (v := .tuple #[.agg #[.int .i64 (0), .int .i64 (0)], .bool false]) (by simp [results, Try.results12, go_sem, *]) rfl ⟨rfl, (by repeat (first | with_reducible exact Below.refl _ _ | with_reducible assumption | (with_reducible refine Below.trans ?_ (Below.mono (by assumption) (by first | omega | (simp <;> omega)))) | with_reducible apply Below.drew | with_reducible apply below_drewN | (with_reducible refine Below.alloc ?_ (by first | omega | (simp <;> omega)) _) | (with_reducible refine Below.setCell ?_ (by first | omega | (simp <;> omega)) _)))⟩
  | true =>
    rw [hz] at ht
    rw [Bool.and_eq_true] at hz
    obtain ⟨g, m1, fs, rfl, rfl, rfl, hgx, hlx⟩ := own_form ha hz.1
    obtain ⟨g', m2, gs, rfl, rfl, rfl, hgy, hly⟩ := own_form hb hz.2
    rw [gdP_yes hgx hgy]
    have hv := fun W hW hV => coValues_any g m1 c b1 g' m2 d b2 fs gs W hW hV hgx hgy
    obtain ⟨hpl, hbl⟩ := bothX_pl hgx hgy
    have hxl := hpl.len
    have hfit := fun hc k hk => vf_fit (xs := bothX fs gs) hgx hgy hpl.un hc (k := k) hk
    unfold gdO
    have HV := hide hv; have HFT := hide hfit; have HA := hide ha; have HB := hide hb; have HT := hide ht
    clear hv hfit ha hb ht hz hgx hgy hlx hly hpl
    generalize bothX fs gs = xs at *
    cases hc : cvB fs gs xs with
    | false =>
      have HC := Lib.hid hc; clear hc
      rw [if_neg (by simp)]
      simp only [oN_none, oD_none, Option.isSome_none]
      go_enter Try.func12, Try.ntmps12
      go_wp2_with (first
        | (go_at_call 22; (with_reducible refine ((unhide HT) _ (own_below (unhide HA) ?p1) (own_below (unhide HB) ?p2)).mono ?_); (case p1 => exact (by repeat (first | with_reducible exact Below.refl _ _ | with_reducible assumption | (with_reducible refine Below.trans ?_ (Below.mono (by assumption) (by first | omega | (simp <;> omega)))) | with_reducible apply Below.drew | with_reducible apply below_drewN | (with_reducible refine Below.alloc ?_ (by first | omega | (simp <;> omega)) _) | (with_reducible refine Below.setCell ?_ (by first | omega | (simp <;> omega)) _)))); (case p2 => exact (by repeat (first | with_reducible exact Below.refl _ _ | with_reducible assumption | (with_reducible refine Below.trans ?_ (Below.mono (by assumption) (by first | omega | (simp <;> omega)))) | with_reducible apply Below.drew | with_reducible apply below_drewN | (with_reducible refine Below.alloc ?_ (by first | omega | (simp <;> omega)) _) | (with_reducible refine Below.setCell ?_ (by first | omega | (simp <;> omega)) _)))); rintro e w0 ⟨rfl, hbw0⟩; have hs0 := hbw0.size; (try simp at hs0); (skip; (try ((have kw0w0 := (bnew hbw0) (w.heap.size) ?pf); (case pf => (first | omega | (simp; done) | (simp; omega))); obtain ⟨kcw0w0, kfw0w0, klw0w0⟩ := kw0w0))))
        | (go_at_call 30; (with_reducible refine ((unhide HV) _ (own_below (unhide HA) ?pb) (own_below (unhide HB) ?pc)).mono ?_); (case pb => exact (by repeat (first | with_reducible exact Below.refl _ _ | with_reducible assumption | (with_reducible refine Below.trans ?_ (Below.mono (by assumption) (by first | omega | (simp <;> omega)))) | with_reducible apply Below.drew | with_reducible apply below_drewN | (with_reducible refine Below.alloc ?_ (by first | omega | (simp <;> omega)) _) | (with_reducible refine Below.setCell ?_ (by first | omega | (simp <;> omega)) _)))); (case pc => exact (by repeat (first | with_reducible exact Below.refl _ _ | with_reducible assumption | (with_reducible refine Below.trans ?_ (Below.mono (by assumption) (by first | omega | (simp <;> omega)))) | with_reducible apply Below.drew | with_reducible apply below_drewN | (with_reducible refine Below.alloc ?_ (by first | omega | (simp <;> omega)) _) | (with_reducible refine Below.setCell ?_ (by first | omega | (simp <;> omega)) _)))); rintro e w1 ⟨⟨_, h2⟩, hbw1⟩; obtain rfl := h2 HC.out; clear h2; have hs1 := hbw1.size; (try simp at hs1); (skip; (try ((have kw1w0 := (bnew hbw1) (w.heap.size) ?pf); (case pf => (first | omega | (simp; done) | (simp; omega))); obtain ⟨kcw1w0, kfw1w0, klw1w0⟩ := kw1w0)))))
      exact bodyPost_ret (v := .tuple #[.agg #[.int .i64 (0), .int .i64 (0)], .bool false]) (by simp [results, Try.results12, go_sem, *]) rfl ⟨rfl, (by repeat (first | with_reducible exact Below.refl _ _ | with_reducible assumption | (with_reducible refine Below.trans ?_ (Below.mono (by assumption) (by first | omega | (simp <;> omega)))) | with_reducible apply Below.drew | with_reducible apply below_drewN | (with_reducible refine Below.alloc ?_ (by first | omega | (simp <;> omega)) _) | (with_reducible refine Below.setCell ?_ (by first | omega | (simp <;> omega)) _)))⟩
    | true =>
      rw [if_pos rfl]
      have hfc := (unhide HFT) hc
      have HFC := hide hfc
      have HC := Lib.hid hc; clear hc hfc HFT
      go_enter Try.func12, Try.ntmps12
      go_wp2_with (first
        | (go_at_call 22; (with_reducible refine ((unhide HT) _ (own_below (unhide HA) ?p1) (own_below (unhide HB) ?p2)).mono ?_); (case p1 => exact (by repeat (first | with_reducible exact Below.refl _ _ | with_reducible assumption | (with_reducible refine Below.trans ?_ (Below.mono (by assumption) (by first | omega | (simp <;> omega)))) | with_reducible apply Below.drew | with_reducible apply below_drewN | (with_reducible refine Below.alloc ?_ (by first | omega | (simp <;> omega)) _) | (with_reducible refine Below.setCell ?_ (by first | omega | (simp <;> omega)) _)))); (case p2 => exact (by repeat (first | with_reducible exact Below.refl _ _ | with_reducible assumption | (with_reducible refine Below.trans ?_ (Below.mono (by assumption) (by first | omega | (simp <;> omega)))) | with_reducible apply Below.drew | with_reducible apply below_drewN | (with_reducible refine Below.alloc ?_ (by first | omega | (simp <;> omega)) _) | (with_reducible refine Below.setCell ?_ (by first | omega | (simp <;> omega)) _)))); rintro e w0 ⟨rfl, hbw0⟩; have hs0 := hbw0.size; (try simp at hs0); (skip; (try ((have kw0w0 := (bnew hbw0) (w.heap.size) ?pf); (case pf => (first | omega | (simp; done) | (simp; omega))); obtain ⟨kcw0w0, kfw0w0, klw0w0⟩ := kw0w0))))
        | (go_at_call 30; (with_reducible refine ((unhide HV) _ (own_below (unhide HA) ?pb) (own_below (unhide HB) ?pc)).mono ?_); (case pb => exact (by repeat (first | with_reducible exact Below.refl _ _ | with_reducible assumption | (with_reducible refine Below.trans ?_ (Below.mono (by assumption) (by first | omega | (simp <;> omega)))) | with_reducible apply Below.drew | with_reducible apply below_drewN | (with_reducible refine Below.alloc ?_ (by first | omega | (simp <;> omega)) _) | (with_reducible refine Below.setCell ?_ (by first | omega | (simp <;> omega)) _)))); (case pc => exact (by repeat (first | with_reducible exact Below.refl _ _ | with_reducible assumption | (with_reducible refine Below.trans ?_ (Below.mono (by assumption) (by first | omega | (simp <;> omega)))) | with_reducible apply Below.drew | with_reducible apply below_drewN | (with_reducible refine Below.alloc ?_ (by first | omega | (simp <;> omega)) _) | (with_reducible refine Below.setCell ?_ (by first | omega | (simp <;> omega)) _)))); rintro e w1 ⟨⟨h1, _⟩, hbw1⟩; obtain ⟨A1, d1, A2, d2, rfl, ho1, ho2⟩ := h1 HC.out; clear h1; obtain ⟨ga, rfl, hga0, hga1⟩ := own_some ho1 (by omega); obtain ⟨gb, rfl, hgb0, hgb1⟩ := own_some ho2 (by omega); have hs1 := hbw1.size; (try simp at hs1); (skip; (try ((have kw1w0 := (bnew hbw1) (w.heap.size) ?pf); (case pf => (first | omega | (simp; done) | (simp; omega))); obtain ⟨kcw1w0, kfw1w0, klw1w0⟩ := kw1w0))); have HO1 := hide ho1; have HO2 := hide ho2; clear ho1 ho2)
        | (go_at_call 31; (with_reducible refine (raInt_any 0 _).mono ?_); rintro e w2 ⟨rfl, hbw2⟩; obtain ⟨hcw2, hfw2⟩ := bcell hbw2; have hzw2 := hbw2.size; (try simp at hzw2); (try ((have kw2w0 := (bnew hbw2) (w.heap.size) ?pf); (case pf => (first | omega | (simp; done) | (simp; omega))); obtain ⟨kcw2w0, kfw2w0, klw2w0⟩ := kw2w0))))
      have hsq : w.heap.size < w2.heap.size := klw2w0
      have r0 : w2.cell? ⟨w.heap.size, 0, none⟩ = some (.int .i64 0) := by rw [kcw2w0, kcw1w0, kcw0w0]; simp [go_sem]
      have r1 : w2.cell? ⟨w.heap.size, 1, none⟩ = some (.int .i64 0) := by rw [kcw2w0, kcw1w0, kcw0w0]; simp [go_sem]
      have rf : ∀ o, w2.frozen? ⟨w.heap.size, o, none⟩ = false := fun o => by rw [kfw2w0, kfw1w0, kfw0w0]; simp [go_sem]
      have hb0 : Below w.heap.size w (w2.alloc (.cells #[.int .i64 0, .int .i64 1] 31)) := (by repeat (first | with_reducible exact Below.refl _ _ | with_reducible assumption | (with_reducible refine Below.trans ?_ (Below.mono (by assumption) (by first | omega | (simp <;> omega)))) | with_reducible apply Below.drew | with_reducible apply below_drewN | (with_reducible refine Below.alloc ?_ (by first | omega | (simp <;> omega)) _) | (with_reducible refine Below.setCell ?_ (by first | omega | (simp <;> omega)) _)))
      have hbA : Below w2.heap.size w2 (w2.alloc (.cells #[.int .i64 0, .int .i64 1] 31)) := (by repeat (first | with_reducible exact Below.refl _ _ | with_reducible assumption | (with_reducible refine Below.trans ?_ (Below.mono (by assumption) (by first | omega | (simp <;> omega)))) | with_reducible apply Below.drew | with_reducible apply below_drewN | (with_reducible refine Below.alloc ?_ (by first | omega | (simp <;> omega)) _) | (with_reducible refine Below.setCell ?_ (by first | omega | (simp <;> omega)) _)))
      have m0 : (w2.alloc (.cells #[.int .i64 0, .int .i64 1] 31)).cell? ⟨w2.heap.size, 0, none⟩ = some (.int .i64 (0 : Rat).num) := by simp [go_sem]
      have m1 : (w2.alloc (.cells #[.int .i64 0, .int .i64 1] 31)).cell? ⟨w2.heap.size, 1, none⟩ = some (.int .i64 ((0 : Rat).den : Int)) := by simp [go_sem]
      have mf : ∀ o, (w2.alloc (.cells #[.int .i64 0, .int .i64 1] 31)).frozen? ⟨w2.heap.size, o, none⟩ = false := by intro o; simp [go_sem]
      have hMq : w2.heap.size < (w2.alloc (.cells #[.int .i64 0, .int .i64 1] 31)).heap.size := by simp
      have hsz2 := hbw2.size
      have hga2 : ga < w2.heap.size := by omega
      have hgb2 : gb < w2.heap.size := by omega
      have HFA := hide ((fcells_own (unhide HO1)).below (hbw2.trans (hbA.mono hsz2)))
      have HFB := hide ((fcells_own (unhide HO2)).below (hbw2.trans (hbA.mono hsz2)))
      replace r0 := (hbA.cell (p := ⟨w.heap.size, 0, none⟩) hsq).trans r0
      replace r1 := (hbA.cell (p := ⟨w.heap.size, 1, none⟩) hsq).trans r1
      replace rf := fun o => (hbA.frozen (p := ⟨w.heap.size, o, none⟩) hsq).trans (rf o)
      have HBQ := hide hb0
      clear hb0 hbA hbw0 hbw1 hbw2 HO1 HO2 kcw0w0 kfw0w0 klw0w0 kcw1w0 kfw1w0 klw1w0 kcw2w0 kfw2w0 klw2w0 hcw2 hfw2 hga0 hga1 hgb0 hgb1 HV HT HA HB
      generalize w2.alloc (.cells #[.int .i64 0, .int .i64 1] 31) = wq at *
      generalize w2.heap.size = M at *
      have hRq : w.heap.size < wq.heap.size := by omega
      have hgaq : ga < wq.heap.size := by omega
      have hgbq : gb < wq.heap.size := by omega
      go_loopw [31] (fun i wr => ∃ (k : Nat) (cur : Rat), i = .int .i64 k ∧ k ≤ xs.length ∧ Hid (odK (xs.map (vf fs)) (xs.map (vf gs)) k = some cur) ∧ wr.cell? ⟨M, 0, none⟩ = some (.int .i64 cur.num) ∧ wr.cell? ⟨M, 1, none⟩ = some (.int .i64 cur.den) ∧ (∀ o, wr.frozen? ⟨M, o, none⟩ = false) ∧ wq.grownBy wr (some M)) (fun i _ => xs.length - (intOf i).toNat)
      case atStart => exact ⟨0, 0, rfl, by omega, hide rfl, m0, m1, mf, World.grownBy.refl _ _⟩
      case round =>
        obtain ⟨k, cur, rfl, hk, HP, c0, c1, cf, hgr⟩ := hrel
        have hsr := hgr.size
        have hMr : M < wr.heap.size := by omega
        have hRr : w.heap.size < wr.heap.size := by omega
        have q0 := (World.cell?_of_block (a := ⟨w.heap.size, 0, none⟩) (hgr.block w.heap.size hRq (fun e => by have := Option.some.inj e; omega))).trans r0
        have q1 := (World.cell?_of_block (a := ⟨w.heap.size, 1, none⟩) (hgr.block w.heap.size hRq (fun e => by have := Option.some.inj e; omega))).trans r1
        have qz := fun o => (World.frozen?_of_block (a := ⟨w.heap.size, o, none⟩) (hgr.block w.heap.size hRq (fun e => by have := Option.some.inj e; omega))).trans (rf o)
        have hb := (unhide HBQ).grown hgr (by omega) (fun i e => by have := Option.some.inj e; omega)
        by_cases hlt : k < xs.length
        · have hAA := unhide HFA
          have hBB := unhide HFB
          have hblka := hgr.block ga hgaq (fun e => by have := Option.some.inj e; omega)
          have hblkb := hgr.block gb hgbq (fun e => by have := Option.some.inj e; omega)
          have a0 := (World.cell?_of_block (a := ⟨ga, k * 2, none⟩) hblka).trans (hAA.at0 k hlt)
          have a1 := (World.cell?_of_block (a := ⟨ga, k * 2 + 1, none⟩) hblka).trans (hAA.at1 k hlt)
          have b0 := (World.cell?_of_block (a := ⟨gb, k * 2, none⟩) hblkb).trans (hBB.at0 k hlt)
          have b1 := (World.cell?_of_block (a := ⟨gb, k * 2 + 1, none⟩) hblkb).trans (hBB.at1 k hlt)
          have hgal : ga < wr.heap.size := by omega
          have hgbl : gb < wr.heap.size := by omega
          obtain ⟨hfa, hfb⟩ := (unhide HFC) k hlt
          have hmap : ∀ (f : Rat → Rat), (xs.map f).getD k 0 = f (xs.getD k 0) := fun f => by simp [List.getD_eq_getElem?_getD, hlt]
          rw [qAtR _ k (by rw [List.length_map]; exact hlt), hmap] at a0 a1 b0 b1
          simp only at a0 a1 b0 b1
          have hcurf := odK_fits (unhide HP)
          have hsb := fun W => raSub_o (some (vf fs (xs.getD k 0))) (some (vf gs (xs.getD k 0))) (isR_some hfa.fit) (isR_some hfb.fit) W
          simp only [oN_some, oD_some] at hsb
          have HB := hide hb
          have HG := hide hgr
          clear hAA hBB hblka hblkb hb hgr hmap hfa hfb m0 m1 mf r0 r1 rf
          rcases hd : osub (some (vf fs (xs.getD k 0))) (some (vf gs (xs.getD k 0))) with _ | e
          · have HNO := Lib.hid (gd_none hlt (unhide HP) (apR_none hd))
            rw [hd] at hsb
            simp only [oN_none, oD_none, Option.isSome_none] at hsb
            have HS := hide hsb
            clear hsb hd hcurf
            generalize (vf fs (xs.getD k 0)).num = an at *
            generalize ((vf fs (xs.getD k 0)).den : Int) = ad at *
            generalize (vf gs (xs.getD k 0)).num = bn at *
            generalize ((vf gs (xs.getD k 0)).den : Int) = bd at *
            generalize cur.num = u1 at *
            generalize (cur.den : Int) = u2 at *
            go_upto_region 10 with fail
            go_cut [11, 12] (fun s11 s12 wx => s12 = .bool false ∧ (∃ D : Nat, s11 = .pointer (some ⟨D, 0, none⟩) ∧ Box2 wr wx D 0 0) ∧ Below wr.heap.size wr wx)
            case first =>
              go_region_held3 (fun w' => w'.cell? ⟨ga, k * 2, none⟩ = some (.int .i64 an) ∧ w'.cell? ⟨ga, k * 2 + 1, none⟩ = some (.int .i64 ad) ∧ w'.cell? ⟨gb, k * 2, none⟩ = some (.int .i64 bn) ∧ w'.cell? ⟨gb, k * 2 + 1, none⟩ = some (.int .i64 bd)) (simp [go_sem, World.cell?_alloc_past, *])
                ((go_at_call 32; (with_reducible refine ((unhide HS) _).mono ?_); rintro e w5 ⟨rfl, hbw5⟩; obtain ⟨hcw5, hfw5⟩ := bcell hbw5; have hzw5 := hbw5.size; (try simp at hzw5); (try ((have kw5gaX0 := (bnew hbw5) (ga) ?pf); (case pf => (first | omega | (simp; done) | (simp; omega))); obtain ⟨kcw5gaX0, kfw5gaX0, klw5gaX0⟩ := kw5gaX0)); (try ((have kw5gbX0 := (bnew hbw5) (gb) ?pf); (case pf => (first | omega | (simp; done) | (simp; omega))); obtain ⟨kcw5gbX0, kfw5gbX0, klw5gbX0⟩ := kw5gbX0))))
              all_goals
                go_wp2_with fail
                go_meet
                refine ⟨rfl, ⟨_, rfl, ⟨(by repeat (first | with_reducible exact Below.refl _ _ | with_reducible assumption | (with_reducible refine Below.trans ?_ (Below.mono (by assumption) (by first | omega | (simp <;> omega)))) | with_reducible apply Below.drew | with_reducible apply below_drewN | (with_reducible refine Below.alloc ?_ (by first | omega | (simp <;> omega)) _) | (with_reducible refine Below.setCell ?_ (by first | omega | (simp <;> omega)) _))), ?_, ?_, ?_, ?_, ?_, ?_⟩⟩, (by repeat (first | with_reducible exact Below.refl _ _ | with_reducible assumption | (with_reducible refine Below.trans ?_ (Below.mono (by assumption) (by first | omega | (simp <;> omega)))) | with_reducible apply Below.drew | with_reducible apply below_drewN | (with_reducible refine Below.alloc ?_ (by first | omega | (simp <;> omega)) _) | (with_reducible refine Below.setCell ?_ (by first | omega | (simp <;> omega)) _)))⟩
              all_goals first | (go_simp; done) | (simp [go_sem, *]; done) | omega | (simp; omega)
            case rest =>
              obtain ⟨rfl, ⟨D, rfl, hB2⟩, hbwc⟩ := hcut
              have hzc := hbwc.size
              have p0 := (hbwc.cell (p := ⟨w.heap.size, 0, none⟩) hRr).trans q0
              have p1 := (hbwc.cell (p := ⟨w.heap.size, 1, none⟩) hRr).trans q1
              have pz := fun o => (hbwc.frozen (p := ⟨w.heap.size, o, none⟩) hRr).trans (qz o)
              have hRc : w.heap.size < wc.heap.size := by omega
              have hb := unhide HB
              have hbz := hb.size
              clear hB2 q0 q1 qz c0 c1 cf a0 a1 b0 b1
              go_wp2_with fail
              rw [HNO.out]
              exact bodyPost_ret (v := .tuple #[.agg #[.int .i64 (0), .int .i64 (0)], .bool false]) (by simp [results, Try.results12, go_sem, *]) rfl ⟨rfl, (by repeat (first | with_reducible exact Below.refl _ _ | with_reducible assumption | (with_reducible refine Below.trans ?_ (Below.mono (by assumption) (by first | omega | (simp <;> omega)))) | with_reducible apply Below.drew | with_reducible apply below_drewN | (with_reducible refine Below.alloc ?_ (by first | omega | (simp <;> omega)) _) | (with_reducible refine Below.setCell ?_ (by first | omega | (simp <;> omega)) _)))⟩
          · obtain ⟨r, hap, hrn, hrd, hef⟩ := apR_some hd
            have hrf := apR_fits hap
            have HST := Lib.hid (gd_step hlt (unhide HP) hap)
            rw [hd] at hsb
            simp only [oN_some, oD_some, Option.isSome_some] at hsb
            rw [fits_iff] at hef
            have hlo : -9223372036854775807 ≤ e.num := by omega
            have hhi : e.num ≤ 9223372036854775807 := by omega
            have hl := fun W => l1Abs_any e.num W hlo hhi
            have hcm := fun W => raCmp_q cur r hcurf hrf W
            have hc2 : cq cur r < 0 ↔ cur < r := cq_lt
            rw [hrn, hrd] at hcm
            have HS := hide hsb; have HL := hide hl; have HC := hide hcm
            clear hsb hl hcm hd hap hef hcurf hrf hlo hhi
            generalize (vf fs (xs.getD k 0)).num = an at *
            generalize ((vf fs (xs.getD k 0)).den : Int) = ad at *
            generalize (vf gs (xs.getD k 0)).num = bn at *
            generalize ((vf gs (xs.getD k 0)).den : Int) = bd at *
            rw [← hrd] at HS HC
            have HRN := Lib.hid hrn
            obtain ⟨rn, hrn2⟩ : ∃ x, x = sg e.num e.num := ⟨_, rfl⟩
            rw [← hrn2] at HL HC
            have HR2 := Lib.hid hrn2
            clear hrn hrd hrn2
            generalize e.num = en at *
            obtain ⟨rd, hrd⟩ : ∃ x, x = (r.den : Int) := ⟨_, rfl⟩
            rw [← hrd] at HS HC
            have HRD := Lib.hid hrd
            clear hrd
            go_upto_region 10 with fail
            go_cut [11, 12] (fun s11 s12 wx => s12 = .bool true ∧ (∃ D : Nat, s11 = .pointer (some ⟨D, 0, none⟩) ∧ Box2 wr wx D en rd) ∧ Below wr.heap.size wr wx)
            case first =>
              go_region_held3 (fun w' => w'.cell? ⟨ga, k * 2, none⟩ = some (.int .i64 an) ∧ w'.cell? ⟨ga, k * 2 + 1, none⟩ = some (.int .i64 ad) ∧ w'.cell? ⟨gb, k * 2, none⟩ = some (.int .i64 bn) ∧ w'.cell? ⟨gb, k * 2 + 1, none⟩ = some (.int .i64 bd)) (simp [go_sem, World.cell?_alloc_past, *])
                ((go_at_call 32; (with_reducible refine ((unhide HS) _).mono ?_); rintro e w5 ⟨rfl, hbw5⟩; obtain ⟨hcw5, hfw5⟩ := bcell hbw5; have hzw5 := hbw5.size; (try simp at hzw5); (try ((have kw5gaX0 := (bnew hbw5) (ga) ?pf); (case pf => (first | omega | (simp; done) | (simp; omega))); obtain ⟨kcw5gaX0, kfw5gaX0, klw5gaX0⟩ := kw5gaX0)); (try ((have kw5gbX0 := (bnew hbw5) (gb) ?pf); (case pf => (first | omega | (simp; done) | (simp; omega))); obtain ⟨kcw5gbX0, kfw5gbX0, klw5gbX0⟩ := kw5gbX0))))
              all_goals
                go_wp2_with fail
                go_meet
                refine ⟨rfl, ⟨_, rfl, ⟨(by repeat (first | with_reducible exact Below.refl _ _ | with_reducible assumption | (with_reducible refine Below.trans ?_ (Below.mono (by assumption) (by first | omega | (simp <;> omega)))) | with_reducible apply Below.drew | with_reducible apply below_drewN | (with_reducible refine Below.alloc ?_ (by first | omega | (simp <;> omega)) _) | (with_reducible refine Below.setCell ?_ (by first | omega | (simp <;> omega)) _))), ?_, ?_, ?_, ?_, ?_, ?_⟩⟩, (by repeat (first | with_reducible exact Below.refl _ _ | with_reducible assumption | (with_reducible refine Below.trans ?_ (Below.mono (by assumption) (by first | omega | (simp <;> omega)))) | with_reducible apply Below.drew | with_reducible apply below_drewN | (with_reducible refine Below.alloc ?_ (by first | omega | (simp <;> omega)) _) | (with_reducible refine Below.setCell ?_ (by first | omega | (simp <;> omega)) _)))⟩
              all_goals first | (go_simp; done) | (simp [go_sem, *]; done) | omega | (simp; omega)
            case rest =>
            obtain ⟨rfl, ⟨D, rfl, hB2⟩, hbwc⟩ := hcut
            have hzc := hbwc.size
            have d0 := hB2.c0
            have d1 := hB2.c1
            have df0 := hB2.f0
            have df1 := hB2.f1
            have hDl := hB2.hi
            have hDlo := hB2.lo
            have hne : D ≠ M := by omega
            have hne2 : M ≠ D := by omega
            have n0 := (hbwc.cell (p := ⟨M, 0, none⟩) hMr).trans c0
            have n1 := (hbwc.cell (p := ⟨M, 1, none⟩) hMr).trans c1
            have nf := fun o => (hbwc.frozen (p := ⟨M, o, none⟩) hMr).trans (cf o)
            have hMc : M < wc.heap.size := by omega
            have HBC := hide hbwc
            clear hB2 q0 q1 qz c0 c1 cf a0 a1 b0 b1 hbwc HB
            by_cases hc : cur < r
            · have hcd : decide (cq cur r < 0) = true := decide_eq_true (hc2.2 hc)
              rw [if_pos hc] at HST
              clear hc hc2
              generalize cq cur r = cz at *
              go_wp2_with (first
                | (go_at_call 33; (with_reducible refine ((unhide HL) _).mono ?_); rintro e w6 ⟨rfl, rfl⟩)
                | (go_at_call 34; (with_reducible refine ((unhide HC) _).mono ?_); rintro e w7 ⟨rfl, hbw7⟩; obtain ⟨hcw7, hfw7⟩ := bcell hbw7; have hzw7 := hbw7.size; (try simp at hzw7); (try ((have kw7MX0 := (bnew hbw7) (M) ?pf); (case pf => (first | omega | (simp; done) | (simp; omega))); obtain ⟨kcw7MX0, kfw7MX0, klw7MX0⟩ := kw7MX0)); (try ((have kw7DX0 := (bnew hbw7) (D) ?pf); (case pf => (first | omega | (simp; done) | (simp; omega))); obtain ⟨kcw7DX0, kfw7DX0, klw7DX0⟩ := kw7DX0))))
              have hbc := unhide HBC
              have HGD := hide (grown_set (grown_set (grown_on (unhide HG) (show Below wr.heap.size wr w7 from (by repeat (first | with_reducible exact Below.refl _ _ | with_reducible assumption | (with_reducible refine Below.trans ?_ (Below.mono (by assumption) (by first | omega | (simp <;> omega)))) | with_reducible apply Below.drew | with_reducible apply below_drewN | (with_reducible refine Below.alloc ?_ (by first | omega | (simp <;> omega)) _) | (with_reducible refine Below.setCell ?_ (by first | omega | (simp <;> omega)) _))))) 0 (.int .i64 rn)) 1 (.int .i64 rd))
              clear hbc
              have t0 : w7.cell? ⟨M, 0, none⟩ = some (.int .i64 cur.num) := by rw [kcw7MX0]; simp [go_sem, *]
              have t1 : w7.cell? ⟨M, 1, none⟩ = some (.int .i64 cur.den) := by rw [kcw7MX0]; simp [go_sem, *]
              have tz : ∀ o, w7.frozen? ⟨M, o, none⟩ = false := fun o => by rw [kfw7MX0]; simp [go_sem, *]
              have HK := hide (And.intro t0 (And.intro t1 tz))
              clear t0 t1 tz
              go_roundw
              case rel => exact ⟨k + 1, r, by go_num, by omega, hide HST.out, by rw [HRN.out, ← HR2.out]; have t := unhide HK; simp [go_sem, t.1], by rw [← HRD.out]; have t := unhide HK; simp [go_sem, t.2.1], fun o => by have t := unhide HK; simp [go_sem, t.2.2], unhide HGD⟩
              case measure => simp [intOf]; omega
            · have hcd : decide (cq cur r < 0) = false := decide_eq_false (fun h => hc (hc2.1 h))
              rw [if_neg hc] at HST
              clear hc hc2
              generalize cq cur r = cz at *
              go_wp2_with (first
                | (go_at_call 33; (with_reducible refine ((unhide HL) _).mono ?_); rintro e w6 ⟨rfl, rfl⟩)
                | (go_at_call 34; (with_reducible refine ((unhide HC) _).mono ?_); rintro e w7 ⟨rfl, hbw7⟩; obtain ⟨hcw7, hfw7⟩ := bcell hbw7; have hzw7 := hbw7.size; (try simp at hzw7); (try ((have kw7MX0 := (bnew hbw7) (M) ?pf); (case pf => (first | omega | (simp; done) | (simp; omega))); obtain ⟨kcw7MX0, kfw7MX0, klw7MX0⟩ := kw7MX0)); (try ((have kw7DX0 := (bnew hbw7) (D) ?pf); (case pf => (first | omega | (simp; done) | (simp; omega))); obtain ⟨kcw7DX0, kfw7DX0, klw7DX0⟩ := kw7DX0))))
              have hbc := unhide HBC
              have HGD := hide (grown_on (unhide HG) (show Below wr.heap.size wr w7 from (by repeat (first | with_reducible exact Below.refl _ _ | with_reducible assumption | (with_reducible refine Below.trans ?_ (Below.mono (by assumption) (by first | omega | (simp <;> omega)))) | with_reducible apply Below.drew | with_reducible apply below_drewN | (with_reducible refine Below.alloc ?_ (by first | omega | (simp <;> omega)) _) | (with_reducible refine Below.setCell ?_ (by first | omega | (simp <;> omega)) _)))))
              clear hbc
              have t0 : w7.cell? ⟨M, 0, none⟩ = some (.int .i64 cur.num) := by rw [kcw7MX0]; simp [go_sem, *]
              have t1 : w7.cell? ⟨M, 1, none⟩ = some (.int .i64 cur.den) := by rw [kcw7MX0]; simp [go_sem, *]
              have tz : ∀ o, w7.frozen? ⟨M, o, none⟩ = false := fun o => by rw [kfw7MX0]; simp [go_sem, *]
              have HK := hide (And.intro t0 (And.intro t1 tz))
              clear t0 t1 tz
              go_roundw
              case rel => exact ⟨k + 1, cur, by go_num, by omega, hide HST.out, (unhide HK).1, (unhide HK).2.1, (unhide HK).2.2, unhide HGD⟩
              case measure => simp [intOf]; omega
        · obtain rfl : k = xs.length := by omega
          have HB := hide hb
          have hbz := hb.size
          have HPR := Lib.hid (unhide HP)
          clear hb hgr cf m0 m1 r0 r1 rf HP
          generalize hcn : cur.num = u1 at *
          generalize hcd : (cur.den : Int) = u2 at *
          have HCN := Lib.hid (And.intro hcn hcd)
          clear hcn hcd
          go_wp2_with fail
          have hb := unhide HB
          rw [HPR.out]
          simp only [oN_some, oD_some, Option.isSome_some]
          rw [HCN.out.1, HCN.out.2]
          exact bodyPost_ret (v := .tuple #[.agg #[.int .i64 (u1), .int .i64 (u2)], .bool true]) (by simp [results, Try.results12, go_sem, *]) rfl ⟨rfl, (by repeat (first | with_reducible exact Below.refl _ _ | with_reducible assumption | (with_reducible refine Below.trans ?_ (Below.mono (by assumption) (by first | omega | (simp <;> omega)))) | with_reducible apply Below.drew | with_reducible apply below_drewN | (with_reducible refine Below.alloc ?_ (by first | omega | (simp <;> omega)) _) | (with_reducible refine Below.setCell ?_ (by first | omega | (simp <;> omega)) _)))⟩
end Go.Proofs.Ytgkbogcmmedmbaa

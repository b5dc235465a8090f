/-
  Chapter 5: the places of a joined map.
-/
import Derived.Test.YtgkbogcmmedmbaaEr
namespace Go.Proofs.Ytgkbogcmmedmbaa
open Go.RowKit Rm

theorem flt_yes {p : Rat → Bool} {xs : List Rat} {k : Nat} (hk : k < xs.length) (h : p (xs.getD k 0) = true) : (xs.take (k + 1)).filter p = (xs.take k).filter p ++ [xs.getD k 0] := by
  rw [take_sn hk, List.filter_append, List.filter_cons_of_pos h]; rfl
theorem flt_no {p : Rat → Bool} {xs : List Rat} {k : Nat} (hk : k < xs.length) (h : p (xs.getD k 0) = false) : (xs.take (k + 1)).filter p = (xs.take k).filter p := by
  rw [take_sn hk, List.filter_append, List.filter_cons_of_neg (by rw [h]; simp)]; simp
theorem lit1g (W : World) (a : Rat) (B X : Nat) (hX : X = W.heap.size) (hB : B ≤ W.heap.size) : (W.alloc (.cells #[.int .i64 a.num, .int .i64 a.den] 31)).ownsRow B 31 2 (.slice (some ⟨X, 0, none⟩) 1 1) 1 (frcs ([a].map qf)) := by
  subst hX
  exact World.ownsRow_lit W #[.int .i64 a.num, .int .i64 a.den] 1 hB (by simp [maxLen]) (by simp)

set_option maxRecDepth 100000 in
set_option maxHeartbeats 6400000 in
theorem placesJn_any (gf mf cf bf gg mg cg bg : Nat) (fs gs : List QP) (a : Rat) (w : World) (hf : w.ownsRow bf 43 4 (.slice (some ⟨gf, 0, none⟩) (mf + 1) cf) (mf + 1) (ptcs (fs.map qp))) (hg : w.ownsRow bg 43 4 (.slice (some ⟨gg, 0, none⟩) (mg + 1) cg) (mg + 1) (ptcs (gs.map qp))) (hF : GMap fs) (hG : GMap gs) (ha : Un a) :
    Calls Try.prog 127 #[.agg #[.slice (some ⟨gf, 0, none⟩) (mf + 1) cf, .slice (some ⟨gg, 0, none⟩) (mg + 1) cg, .int .i64 a.num, .int .i64 a.den]] w fun e w' => PlO w.heap.size (some (jnP fs gs a)) e w' ∧ Below w.heap.size w w' := by
  obtain ⟨i0, hi0, hz0, hz1, hz2⟩ := info_parts iRat
  have hlf := own_lenQ hf
  have hlg := own_lenQ hg
  have hhf := hF.hi
  have hhg := hG.hi
  rw [hlf] at hhf
  rw [hlg] at hhg
  have hxl := (xsOf_len fs).trans hlf
  have hyl := (xsOf_len gs).trans hlg
  have hor := fun x (hx : Un x) W => orderOf_q x a hx.fit ha.fit W
  have HXU := hide (xsOf_un hF); have HYU := hide (xsOf_un hG)
  have hjp : jnP fs gs a = (a :: ((xsOf fs).take (mf + 1)).filter fun x => decide (x < a)) ++ ((xsOf gs).take (mg + 1)).filter fun x => decide (a < x) := by
    rw [List.take_of_length_le (by omega), List.take_of_length_le (by omega)]; rfl
  have hlit := fun W B X hX hB => lit1g W a B X hX hB
  have HF := hide hf; have HG := hide hg; have HXL := Lib.hid hxl; have HYL := Lib.hid hyl; have HOR := hide hor; have HJP := Lib.hid hjp; have HLIT := hide hlit
  clear hf hg hlf hlg hxl hyl hor hjp hlit ha
  obtain ⟨an, han⟩ : ∃ r, r = a.num := ⟨_, rfl⟩
  obtain ⟨ad, had⟩ : ∃ r, r = (a.den : Int) := ⟨_, rfl⟩
  rw [← han, ← had] at HOR HLIT
  rw [← han, ← had]
  clear han had
  go_enter Try.func127, Try.ntmps127
  go_wp2_with (go_at_call 76; (with_reducible refine (placesOf_map gf (mf + 1) cf bf fs _ (own_below (unhide HF) ?pb) (by omega)).mono ?_); (case pb => exact (by repeat (first | with_reducible exact Below.refl _ _ | with_reducible assumption | (with_reducible refine Below.trans ?_ (Below.mono (by assumption) (by first | omega | (simp <;> omega)))) | with_reducible apply Below.drew | with_reducible apply below_drewN | (with_reducible refine Below.alloc ?_ (by first | omega | (simp <;> omega)) _) | (with_reducible refine Below.setCell ?_ (by first | omega | (simp <;> omega)) _)))); rintro e w1 ⟨A1, d1, rfl, ho1, hbw1⟩; have hs1 := hbw1.size; (try simp at hs1); (skip; (try ((have kw1w0 := (bnew hbw1) (w.heap.size) ?pf); (case pf => (first | omega | (simp; done) | (simp; omega))); obtain ⟨kcw1w0, kfw1w0, klw1w0⟩ := kw1w0)); (try ((have kw1w1 := (bnew hbw1) (w.heap.size + 1) ?pf); (case pf => (first | omega | (simp; done) | (simp; omega))); obtain ⟨kcw1w1, kfw1w1, klw1w1⟩ := kw1w1))); obtain ⟨gp, rfl, hgp0, hgp1⟩ := own_some ho1 (by omega); have HO1 := hide ho1; clear ho1)
  have s1 : w1.cell? ⟨w.heap.size, 1, none⟩ = some (.slice (some ⟨gg, 0, none⟩) (mg + 1) cg) := by rw [kcw1w0]; simp [go_sem]
  have a0 : w1.cell? ⟨w.heap.size, 2, none⟩ = some (.int .i64 an) := by rw [kcw1w0]; simp [go_sem]
  have a1 : w1.cell? ⟨w.heap.size, 3, none⟩ = some (.int .i64 ad) := by rw [kcw1w0]; simp [go_sem]
  have hsz1 : w.heap.size + 1 < w1.heap.size := klw1w1
  have hgpn : gp ≠ w.heap.size + 1 := by simp at hgp0; omega
  have hbw : Below w.heap.size w w1 := (by repeat (first | with_reducible exact Below.refl _ _ | with_reducible assumption | (with_reducible refine Below.trans ?_ (Below.mono (by assumption) (by first | omega | (simp <;> omega)))) | with_reducible apply Below.drew | with_reducible apply below_drewN | (with_reducible refine Below.alloc ?_ (by first | omega | (simp <;> omega)) _) | (with_reducible refine Below.setCell ?_ (by first | omega | (simp <;> omega)) _)))
  have hoa := own_below ((unhide HLIT) _ (w.heap.size + 1) (w.heap.size + 1) (show w.heap.size + 1 = (w.alloc (.cells #[.slice (some ⟨gf, 0, none⟩) (mf + 1) cf, .slice (some ⟨gg, 0, none⟩) (mg + 1) cg, .int .i64 an, .int .i64 ad] 67)).heap.size by simp) (by simp)) hbw1
  have HBW := hide hbw; have HOA := hide hoa; have HFC := hide (fcells_own (unhide HO1)); have HS1 := hide s1; have HA0 := hide a0; have HA1 := hide a1
  clear hbw hoa hbw1 HO1 hgp0 kcw1w0 kfw1w0 klw1w0 kcw1w1 kfw1w1 klw1w1 s1 a0 a1 hs1
  go_loopw [4, 16] (fun v i wr => ∃ (k nn : Nat) (A' : Option Addr) (cc : Nat) (l : List Rat), i = .int .i64 k ∧ v = .slice A' nn cc ∧ k ≤ (mf + 1) ∧ Hid (l = [a] ++ (((xsOf fs).take k).filter fun x => decide (x < a))) ∧ Hid (nn = l.length) ∧ 1 ≤ nn ∧ nn ≤ 1 + k ∧ wr.ownsRow (w.heap.size + 1) 31 2 (.slice A' nn cc) nn (frcs (l.map qf)) ∧ Hid (∀ j, (Value.slice A' nn cc).ownBlock = some j → (Value.slice (some ⟨w.heap.size + 1, 0, none⟩) 1 1).ownBlock = some j ∨ w1.heap.size ≤ j) ∧ w1.grownBy wr (Value.slice (some ⟨w.heap.size + 1, 0, none⟩) 1 1).ownBlock) (fun _ i _ => (mf + 1) - (intOf i).toNat)
  case atStart => exact ⟨0, 1, _, _, [a], rfl, rfl, by omega, hide (by simp), hide rfl, by omega, by omega, unhide HOA, hide (fun j h => .inl h), World.grownBy.refl _ _⟩
  case round =>
    obtain ⟨k, nn, A', cc, l, rfl, rfl, hk, HL, HN, hn1, hn2, hown, HOB, hgr⟩ := hrel
    have hsr := hgr.size
    by_cases hlt : k < (mf + 1)
    · have hC := (unhide HFC).kept hgr (fun e => by have e2 : gp = w.heap.size + 1 := Option.some.inj e; omega)
      have f0 := hC.at0 k hlt
      have f1 := hC.at1 k hlt
      have hgx := hC.lt
      rw [qAtR (xsOf fs) k (by rw [HXL.out]; exact hlt)] at f0 f1
      simp only at f0 f1
      have hxu := (unhide HXU) _ (mem_iff_getD.2 ⟨k, by rw [HXL.out]; exact hlt, rfl⟩)
      have hor := fun W => (unhide HOR) ((xsOf fs).getD k 0) hxu W
      have hblk := hgr.block w.heap.size (by omega) (fun e => by have e2 : w.heap.size = w.heap.size + 1 := Option.some.inj e; omega)
      have b2 := (World.cell?_of_block (a := ⟨w.heap.size, 2, none⟩) hblk).trans (unhide HA0)
      have b3 := (World.cell?_of_block (a := ⟨w.heap.size, 3, none⟩) hblk).trans (unhide HA1)
      have hwr : w.heap.size < wr.heap.size := by omega
      have HO := hide hown; have HGR := hide hgr; have HO2 := hide hor
      clear hown hgr hor hC hblk hxu
      by_cases hz : ((xsOf fs).getD k 0) < a
      · have hcd : decide (cq ((xsOf fs).getD k 0) a < 0) = true := decide_eq_true (cq_lt.2 hz)
        have hfl := flt_yes (p := fun x => decide (x < a)) (xs := (xsOf fs)) (k := k) (by rw [HXL.out]; exact hlt) (decide_eq_true hz)
        have HL2 := Lib.hid (show l ++ [((xsOf fs).getD k 0)] = [a] ++ (((xsOf fs).take (k + 1)).filter fun x => decide (x < a)) by rw [hfl, HL.out, List.append_assoc])
        have HPT := Lib.hid (frq_sn' l ((xsOf fs).getD k 0))
        clear hz hfl
        generalize cq ((xsOf fs).getD k 0) a = cz at *
        generalize ((xsOf fs).getD k 0) = x at *
        obtain ⟨xn, hxn⟩ : ∃ r, r = x.num := ⟨_, rfl⟩
        obtain ⟨xd, hxd⟩ : ∃ r, r = (x.den : Int) := ⟨_, rfl⟩
        rw [← hxn] at f0 HO2 HPT
        rw [← hxd] at f1 HO2 HPT
        clear hxn hxd
        go_wp2_with (first
          | (go_at_call 38; (with_reducible refine ((unhide HO2) _).mono ?_); rintro e w5 ⟨rfl, hbw5⟩; obtain ⟨hcw5, hfw5⟩ := bcell hbw5; have hzw5 := hbw5.size; (try simp at hzw5); (try ((have kw5wr0 := (bnew hbw5) (wr.heap.size) ?pf); (case pf => (first | omega | (simp; done) | (simp; omega))); obtain ⟨kcw5wr0, kfw5wr0, klw5wr0⟩ := kw5wr0)); (try ((have kw5w.heap.sizeX0 := (bnew hbw5) (w.heap.size) ?pf); (case pf => (first | omega | (simp; done) | (simp; omega))); obtain ⟨kcw5w.heap.sizeX0, kfw5w.heap.sizeX0, klw5w.heap.sizeX0⟩ := kw5w.heap.sizeX0)))
          | (at_builtin; refine wpl_append2 rfl _ _ _ rfl (w.heap.size + 1) 31 i0 _ 2 16 Try.underlying49 hi0 hz0 hz1 hz2 rfl (by omega) (.slice A' nn cc) nn _ rfl (own_below (unhide HO) (show Below wr.heap.size wr _ from (by repeat (first | with_reducible exact Below.refl _ _ | with_reducible assumption | (with_reducible refine Below.trans ?_ (Below.mono (by assumption) (by first | omega | (simp <;> omega)))) | with_reducible apply Below.drew | with_reducible apply below_drewN | (with_reducible refine Below.alloc ?_ (by first | omega | (simp <;> omega)) _) | (with_reducible refine Below.setCell ?_ (by first | omega | (simp <;> omega)) _))))) _ 1 [.int .i64 xn, .int .i64 xd] rfl (lies2 (by simp [go_sem, *]) (by simp [go_sem, *])) rfl (by simp [Value.oneCell']) (Nat.le_trans (by omega) maxLen_ge) (by omega) (by first | omega | (simp <;> omega)) (nn + 1) rfl ?_; intro A4 c4 w4 hown4 hgrow4 hat4))
        rw [HPT.out] at hown4
        have hob := unhide HOB
        have hbx : Below wr.heap.size wr (w5.alloc (.cells #[.int .i64 xn, .int .i64 xd] 31)) := (by repeat (first | with_reducible exact Below.refl _ _ | with_reducible assumption | (with_reducible refine Below.trans ?_ (Below.mono (by assumption) (by first | omega | (simp <;> omega)))) | with_reducible apply Below.drew | with_reducible apply below_drewN | (with_reducible refine Below.alloc ?_ (by first | omega | (simp <;> omega)) _) | (with_reducible refine Below.setCell ?_ (by first | omega | (simp <;> omega)) _)))
        have hbs := hbx.size
        have hg4 := grown_trans (grown_trans (unhide HGR) (below_grown hbx none) (fun i h => by cases h)) hgrow4 hob
        have hob4 : ∀ j, (Value.slice A4 (nn + 1) c4).ownBlock = some j → (Value.slice (some ⟨w.heap.size + 1, 0, none⟩) 1 1).ownBlock = some j ∨ w1.heap.size ≤ j := fun j hj => by
          rcases hat4 with h | h
          · exact hob j (h.symm.trans hj)
          · right
            have := Option.some.inj (h.symm.trans hj)
            omega
        have HO4 := hide hown4; have HG4 := hide hg4; have HB4 := hide hob4
        have HN4 := hide (show nn + 1 = (l ++ [x]).length by rw [List.length_append]; have := HN.out; simp; omega)
        clear hown4 hgrow4 hat4 hob hg4 hob4 hbx hbs
        go_wp2_with fail
        go_roundw
        case rel => exact ⟨k + 1, nn + 1, A4, c4, l ++ [x], by go_num, rfl, by omega, hide HL2.out, HN4, by omega, by omega, unhide HO4, HB4, unhide HG4⟩
        case measure => simp [intOf]; omega
      · have hcd : decide (cq ((xsOf fs).getD k 0) a < 0) = false := decide_eq_false (fun h => hz (cq_lt.1 h))
        have hfl := flt_no (p := fun x => decide (x < a)) (xs := (xsOf fs)) (k := k) (by rw [HXL.out]; exact hlt) (decide_eq_false hz)
        have HL2 := Lib.hid (show l = [a] ++ (((xsOf fs).take (k + 1)).filter fun x => decide (x < a)) by rw [hfl]; exact HL.out)
        clear hz hfl
        generalize cq ((xsOf fs).getD k 0) a = cz at *
        generalize ((xsOf fs).getD k 0).num = xn at *
        generalize (((xsOf fs).getD k 0).den : Int) = xd at *
        go_wp2_with ((go_at_call 38; (with_reducible refine ((unhide HO2) _).mono ?_); rintro e w5 ⟨rfl, hbw5⟩; obtain ⟨hcw5, hfw5⟩ := bcell hbw5; have hzw5 := hbw5.size; (try simp at hzw5); (try ((have kw5wr0 := (bnew hbw5) (wr.heap.size) ?pf); (case pf => (first | omega | (simp; done) | (simp; omega))); obtain ⟨kcw5wr0, kfw5wr0, klw5wr0⟩ := kw5wr0)); (try ((have kw5w.heap.sizeX0 := (bnew hbw5) (w.heap.size) ?pf); (case pf => (first | omega | (simp; done) | (simp; omega))); obtain ⟨kcw5w.heap.sizeX0, kfw5w.heap.sizeX0, klw5w.heap.sizeX0⟩ := kw5w.heap.sizeX0))))
        have hbx : Below wr.heap.size wr w5 := (by repeat (first | with_reducible exact Below.refl _ _ | with_reducible assumption | (with_reducible refine Below.trans ?_ (Below.mono (by assumption) (by first | omega | (simp <;> omega)))) | with_reducible apply Below.drew | with_reducible apply below_drewN | (with_reducible refine Below.alloc ?_ (by first | omega | (simp <;> omega)) _) | (with_reducible refine Below.setCell ?_ (by first | omega | (simp <;> omega)) _)))
        have hg4 := grown_trans (unhide HGR) (below_grown hbx none) (fun i h => by cases h)
        have HO4 := hide (own_below (unhide HO) hbx); have HG4 := hide hg4
        clear hg4 hbx
        go_roundw
        case rel => exact ⟨k + 1, nn, A', cc, l, by go_num, rfl, by omega, hide HL2.out, HN, by omega, by omega, unhide HO4, HOB, unhide HG4⟩
        case measure => simp [intOf]; omega
    · have hke : k = mf + 1 := by omega
      obtain ⟨n1, rfl⟩ : ∃ x, x = nn := ⟨nn, rfl⟩
      obtain ⟨AA, rfl⟩ : ∃ x, x = A' := ⟨A', rfl⟩
      obtain ⟨c1, rfl⟩ : ∃ x, x = cc := ⟨cc, rfl⟩
      obtain ⟨l1, rfl⟩ : ∃ x, x = l := ⟨l, rfl⟩
      obtain ⟨wl, rfl⟩ : ∃ x, x = wr := ⟨wr, rfl⟩
      have hlk := HL.out
      rw [hke] at hlk
      have hn13 : n1 ≤ 13 := by omega
      have hbz := grown_below hgr (B := w.heap.size + 1) (by omega) (fun j e => by have e2 : w.heap.size + 1 = j := Option.some.inj e; omega)
      have hblk := hgr.block w.heap.size (by omega) (fun e => by have e2 : w.heap.size = w.heap.size + 1 := Option.some.inj e; omega)
      have b1 := (World.cell?_of_block (a := ⟨w.heap.size, 1, none⟩) hblk).trans (unhide HS1)
      have b2 := (World.cell?_of_block (a := ⟨w.heap.size, 2, none⟩) hblk).trans (unhide HA0)
      have b3 := (World.cell?_of_block (a := ⟨w.heap.size, 3, none⟩) hblk).trans (unhide HA1)
      have hbq := (unhide HBW).trans (hbz.mono (by omega))
      have hwr : w.heap.size + 1 < wl.heap.size := by omega
      have HO := hide hown; have HLK := Lib.hid hlk; have HBQ := hide hbq
      have HN1 := HN
      clear hown hgr hlk hbz hblk hbq hke HL HN HOB HBW HOA HS1 HA0 HA1
      go_wp2_with (go_at_call 76; (with_reducible refine (placesOf_map gg (mg + 1) cg bg gs _ (own_below (unhide HG) ?pb) (by omega)).mono ?_); (case pb => have hbq := unhide HBQ; exact (by repeat (first | with_reducible exact Below.refl _ _ | with_reducible assumption | (with_reducible refine Below.trans ?_ (Below.mono (by assumption) (by first | omega | (simp <;> omega)))) | with_reducible apply Below.drew | with_reducible apply below_drewN | (with_reducible refine Below.alloc ?_ (by first | omega | (simp <;> omega)) _) | (with_reducible refine Below.setCell ?_ (by first | omega | (simp <;> omega)) _)))); rintro e w2 ⟨A2, d2, rfl, ho2, hbw2⟩; have hs2 := hbw2.size; (try simp at hs2); obtain ⟨gq, rfl, hgq0, hgq1⟩ := own_some ho2 (by omega); have HO2 := hide ho2; clear ho2)
      have HA0 := hide ((hbw2.cell (p := ⟨w.heap.size, 2, none⟩) (by (try simp only); omega)).trans b2)
      have HA1 := hide ((hbw2.cell (p := ⟨w.heap.size, 3, none⟩) (by (try simp only); omega)).trans b3)
      have HOA := hide (own_below (unhide HO) hbw2)
      have HBW := hide ((unhide HBQ).trans (hbw2.mono (unhide HBQ).size))
      have hsz2 : w.heap.size + 1 < w2.heap.size := by omega
      have HFC := hide (fcells_own (unhide HO2))
      have HOL := hide (fun j e => (unhide HO).lt j e)
      clear hbw2 HO2 HO HBQ b1 b2 b3
      go_loopw [4, 34] (fun v i wr => ∃ (k nn : Nat) (A' : Option Addr) (cc : Nat) (l : List Rat), i = .int .i64 k ∧ v = .slice A' nn cc ∧ k ≤ (mg + 1) ∧ Hid (l = l1 ++ (((xsOf gs).take k).filter fun x => decide (a < x))) ∧ Hid (nn = l.length) ∧ 1 ≤ nn ∧ nn ≤ n1 + k ∧ wr.ownsRow (w.heap.size + 1) 31 2 (.slice A' nn cc) nn (frcs (l.map qf)) ∧ Hid (∀ j, (Value.slice A' nn cc).ownBlock = some j → (Value.slice AA n1 c1).ownBlock = some j ∨ w2.heap.size ≤ j) ∧ w2.grownBy wr (Value.slice AA n1 c1).ownBlock) (fun _ i _ => (mg + 1) - (intOf i).toNat)
      case atStart => exact ⟨0, n1, AA, c1, l1, rfl, rfl, by omega, hide (by simp), HN1, by omega, by omega, unhide HOA, hide (fun j h => .inl h), World.grownBy.refl _ _⟩
      case round =>
        obtain ⟨k, nn, A', cc, l, rfl, rfl, hk, HL, HN, hn1, hn2, hown, HOB, hgr⟩ := hrel
        have hsr := hgr.size
        by_cases hlt : k < (mg + 1)
        · have hC := (unhide HFC).kept hgr (fun e => by have := ((unhide HOL) gq e.symm).2; omega)
          have f0 := hC.at0 k hlt
          have f1 := hC.at1 k hlt
          have hgx := hC.lt
          rw [qAtR (xsOf gs) k (by rw [HYL.out]; exact hlt)] at f0 f1
          simp only at f0 f1
          have hxu := (unhide HYU) _ (mem_iff_getD.2 ⟨k, by rw [HYL.out]; exact hlt, rfl⟩)
          have hor := fun W => (unhide HOR) ((xsOf gs).getD k 0) hxu W
          have hblk := hgr.block w.heap.size (by omega) (fun e => by have := ((unhide HOL) w.heap.size e.symm).1; omega)
          have b2 := (World.cell?_of_block (a := ⟨w.heap.size, 2, none⟩) hblk).trans (unhide HA0)
          have b3 := (World.cell?_of_block (a := ⟨w.heap.size, 3, none⟩) hblk).trans (unhide HA1)
          have hwr : w.heap.size < wr.heap.size := by omega
          have HO := hide hown; have HGR := hide hgr; have HO2 := hide hor
          clear hown hgr hor hC hblk hxu
          by_cases hz : a < ((xsOf gs).getD k 0)
          · have hcd : decide (0 < cq ((xsOf gs).getD k 0) a) = true := decide_eq_true (cq_gt.2 hz)
            have hfl := flt_yes (p := fun x => decide (a < x)) (xs := (xsOf gs)) (k := k) (by rw [HYL.out]; exact hlt) (decide_eq_true hz)
            have HL2 := Lib.hid (show l ++ [((xsOf gs).getD k 0)] = l1 ++ (((xsOf gs).take (k + 1)).filter fun x => decide (a < x)) by rw [hfl, HL.out, List.append_assoc])
            have HPT := Lib.hid (frq_sn' l ((xsOf gs).getD k 0))
            clear hz hfl
            generalize cq ((xsOf gs).getD k 0) a = cz at *
            generalize ((xsOf gs).getD k 0) = x at *
            obtain ⟨xn, hxn⟩ : ∃ r, r = x.num := ⟨_, rfl⟩
            obtain ⟨xd, hxd⟩ : ∃ r, r = (x.den : Int) := ⟨_, rfl⟩
            rw [← hxn] at f0 HO2 HPT
            rw [← hxd] at f1 HO2 HPT
            clear hxn hxd
            go_wp2_with (first
              | (go_at_call 38; (with_reducible refine ((unhide HO2) _).mono ?_); rintro e w5 ⟨rfl, hbw5⟩; obtain ⟨hcw5, hfw5⟩ := bcell hbw5; have hzw5 := hbw5.size; (try simp at hzw5); (try ((have kw5wr0 := (bnew hbw5) (wr.heap.size) ?pf); (case pf => (first | omega | (simp; done) | (simp; omega))); obtain ⟨kcw5wr0, kfw5wr0, klw5wr0⟩ := kw5wr0)); (try ((have kw5w.heap.sizeX0 := (bnew hbw5) (w.heap.size) ?pf); (case pf => (first | omega | (simp; done) | (simp; omega))); obtain ⟨kcw5w.heap.sizeX0, kfw5w.heap.sizeX0, klw5w.heap.sizeX0⟩ := kw5w.heap.sizeX0)))
              | (at_builtin; refine wpl_append2 rfl _ _ _ rfl (w.heap.size + 1) 31 i0 _ 2 16 Try.underlying49 hi0 hz0 hz1 hz2 rfl (by omega) (.slice A' nn cc) nn _ rfl (own_below (unhide HO) (show Below wr.heap.size wr _ from (by repeat (first | with_reducible exact Below.refl _ _ | with_reducible assumption | (with_reducible refine Below.trans ?_ (Below.mono (by assumption) (by first | omega | (simp <;> omega)))) | with_reducible apply Below.drew | with_reducible apply below_drewN | (with_reducible refine Below.alloc ?_ (by first | omega | (simp <;> omega)) _) | (with_reducible refine Below.setCell ?_ (by first | omega | (simp <;> omega)) _))))) _ 1 [.int .i64 xn, .int .i64 xd] rfl (lies2 (by simp [go_sem, *]) (by simp [go_sem, *])) rfl (by simp [Value.oneCell']) (Nat.le_trans (by omega) maxLen_ge) (by omega) (by first | omega | (simp <;> omega)) (nn + 1) rfl ?_; intro A4 c4 w4 hown4 hgrow4 hat4))
            rw [HPT.out] at hown4
            have hob := unhide HOB
            have hbx : Below wr.heap.size wr (w5.alloc (.cells #[.int .i64 xn, .int .i64 xd] 31)) := (by repeat (first | with_reducible exact Below.refl _ _ | with_reducible assumption | (with_reducible refine Below.trans ?_ (Below.mono (by assumption) (by first | omega | (simp <;> omega)))) | with_reducible apply Below.drew | with_reducible apply below_drewN | (with_reducible refine Below.alloc ?_ (by first | omega | (simp <;> omega)) _) | (with_reducible refine Below.setCell ?_ (by first | omega | (simp <;> omega)) _)))
            have hbs := hbx.size
            have hg4 := grown_trans (grown_trans (unhide HGR) (below_grown hbx none) (fun i h => by cases h)) hgrow4 hob
            have hob4 : ∀ j, (Value.slice A4 (nn + 1) c4).ownBlock = some j → (Value.slice AA n1 c1).ownBlock = some j ∨ w2.heap.size ≤ j := fun j hj => by
              rcases hat4 with h | h
              · exact hob j (h.symm.trans hj)
              · right
                have := Option.some.inj (h.symm.trans hj)
                omega
            have HO4 := hide hown4; have HG4 := hide hg4; have HB4 := hide hob4
            have HN4 := hide (show nn + 1 = (l ++ [x]).length by rw [List.length_append]; have := HN.out; simp; omega)
            clear hown4 hgrow4 hat4 hob hg4 hob4 hbx hbs
            go_wp2_with fail
            go_roundw
            case rel => exact ⟨k + 1, nn + 1, A4, c4, l ++ [x], by go_num, rfl, by omega, hide HL2.out, HN4, by omega, by omega, unhide HO4, HB4, unhide HG4⟩
            case measure => simp [intOf]; omega
          · have hcd : decide (0 < cq ((xsOf gs).getD k 0) a) = false := decide_eq_false (fun h => hz (cq_gt.1 h))
            have hfl := flt_no (p := fun x => decide (a < x)) (xs := (xsOf gs)) (k := k) (by rw [HYL.out]; exact hlt) (decide_eq_false hz)
            have HL2 := Lib.hid (show l = l1 ++ (((xsOf gs).take (k + 1)).filter fun x => decide (a < x)) by rw [hfl]; exact HL.out)
            clear hz hfl
            generalize cq ((xsOf gs).getD k 0) a = cz at *
            generalize ((xsOf gs).getD k 0).num = xn at *
            generalize (((xsOf gs).getD k 0).den : Int) = xd at *
            go_wp2_with ((go_at_call 38; (with_reducible refine ((unhide HO2) _).mono ?_); rintro e w5 ⟨rfl, hbw5⟩; obtain ⟨hcw5, hfw5⟩ := bcell hbw5; have hzw5 := hbw5.size; (try simp at hzw5); (try ((have kw5wr0 := (bnew hbw5) (wr.heap.size) ?pf); (case pf => (first | omega | (simp; done) | (simp; omega))); obtain ⟨kcw5wr0, kfw5wr0, klw5wr0⟩ := kw5wr0)); (try ((have kw5w.heap.sizeX0 := (bnew hbw5) (w.heap.size) ?pf); (case pf => (first | omega | (simp; done) | (simp; omega))); obtain ⟨kcw5w.heap.sizeX0, kfw5w.heap.sizeX0, klw5w.heap.sizeX0⟩ := kw5w.heap.sizeX0))))
            have hbx : Below wr.heap.size wr w5 := (by repeat (first | with_reducible exact Below.refl _ _ | with_reducible assumption | (with_reducible refine Below.trans ?_ (Below.mono (by assumption) (by first | omega | (simp <;> omega)))) | with_reducible apply Below.drew | with_reducible apply below_drewN | (with_reducible refine Below.alloc ?_ (by first | omega | (simp <;> omega)) _) | (with_reducible refine Below.setCell ?_ (by first | omega | (simp <;> omega)) _)))
            have hg4 := grown_trans (unhide HGR) (below_grown hbx none) (fun i h => by cases h)
            have HO4 := hide (own_below (unhide HO) hbx); have HG4 := hide hg4
            clear hg4 hbx
            go_roundw
            case rel => exact ⟨k + 1, nn, A', cc, l, by go_num, rfl, by omega, hide HL2.out, HN, by omega, by omega, unhide HO4, HOB, unhide HG4⟩
            case measure => simp [intOf]; omega
        · have hke : k = mg + 1 := by omega
          have hlj : l = jnP fs gs a := by rw [HJP.out, HL.out, HLK.out, hke]; rfl
          have hnl := HN.out
          have hbz := (unhide HBW).trans (grown_below hgr (B := w.heap.size) (by omega) (fun j e => by have := ((unhide HOL) j e).1; omega))
          have HLJ := Lib.hid hlj; have HO := hide (hown.mono (show w.heap.size ≤ w.heap.size + 1 by omega)); have HZ := hide hbz; have HNL := Lib.hid hnl
          clear hown hgr hke hlj hbz hnl HL HN HOB
          go_wp2_with fail
          go_ret2
          refine ⟨⟨fun l' h => ?_, fun h => (by cases h)⟩, unhide HZ⟩
          injection h with h
          subst h
          rw [← HLJ.out]
          exact ⟨A', cc, by rw [HNL.out] <;> rfl, by rw [← HNL.out]; exact unhide HO⟩
end Go.Proofs.Ytgkbogcmmedmbaa

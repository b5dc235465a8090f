/-
  Chapter 4: orbits of the program: a label and gotos.
-/
import Derived.Test.YthccdooacbablabOr
namespace Go.Proofs.Ythccdooacbablab
open Go.RowKit Rm

set_option maxRecDepth 1000000 in
set_option maxHeartbeats 6400000 in
theorem orbit_map (g n c base : Nat) (qs : List QP) (x : Rat) (m : Nat) (w : World) (ha : w.ownsRow base 45 4 (.slice (some ⟨g, 0, none⟩) n c) n (ptcs (qs.map qp))) (hg : GMap qs) (hx : Un x) (hm : m ≤ 60) (hn : n ≤ 1048576) :
    Calls Try.prog 47 #[.slice (some ⟨g, 0, none⟩) n c, .agg #[.int .i64 (x.num), .int .i64 (x.den)], .int .i64 m] w fun e w' => GivesR w.heap.size ((run qs m x).map qf) true e w' ∧ Below w.heap.size w w' := by
  obtain ⟨i0, hi0, hz0, hz1, hz2⟩ := info_parts iRat
  have hlen : qs.length = n := by have := own_len ha; rw [List.length_map] at this; exact this
  have hlo := hg.lo
  rw [hlen] at hlo
  have hgl := (ha.lt g rfl).2
  have hmap := fun W hW => isMap_any (some ⟨g, 0, none⟩) n c base (qs.map qp) W hW hn
  rw [hg.mapB] at hmap
  have hun := fun W => isUnit_any x.num x.den W
  rw [uB_un hx] at hun
  have hva : ∀ (y : Rat), Un y → ∀ W, W.ownsRow base 45 4 (.slice (some ⟨g, 0, none⟩) n c) n (ptcs (qs.map qp)) →
      Calls Try.prog 56 #[.slice (some ⟨g, 0, none⟩) n c, .agg #[.int .i64 (y.num), .int .i64 (y.den)]] W fun e w' => e = .returned (.tuple #[.agg #[.int .i64 (oN (vAt qs y)), .int .i64 (oD (vAt qs y))], .bool (vAt qs y).isSome]) ∧ Below W.heap.size W w' := by
    intro y hy W hW
    have := iValueAt_any (some ⟨g, 0, none⟩) n c base (qs.map qp) y.num y.den W hW hn
    rwa [valO_eq hg (uB_un hy)] at this
  have HVA := hide hva; clear hva
  have HM := hide hmap; clear hmap
  have HA := hide ha; clear ha
  have HST := hide (Runs.start qs hx m)
  have HL := Lib.hid hlen; clear hlen
  obtain ⟨xn, hxn⟩ : ∃ r, r = x.num := ⟨_, rfl⟩
  obtain ⟨xd, hxd⟩ : ∃ r, r = (x.den : Int) := ⟨_, rfl⟩
  rw [← hxn, ← hxd] at hun ⊢
  have HU := hide hun; clear hun
  have HX := Lib.hid (And.intro hxn hxd); clear hxn hxd
  go_enter Try.func47, Try.ntmps47
  go_wp2
  refine wp_scope_many (fun l a' w' => (l = 1 ∧ ∃ (gs j c' : Nat) (init : List Rat) (y : Rat) (r : Nat) (u9 u10 u11 u12 u13 u14 u15 u16 u17 u18 u19 u20 u21 u22 u23 u24 u25 u26 u27 u28 u29 u30 u31 u32 u33 u34 u35 u36 u37 u38 u39 u40 u41 u42 u43 u44 u45 u46 u47 u48 : Value), a' = ({ tmps := #[.slice (some ⟨g, 0, none⟩) n c, .agg #[.int .i64 (xn), .int .i64 (xd)], .int .i64 m, undef, .pointer (some ⟨w.heap.size, 0, none⟩), undef, .slice none 0 0, .bool false, .slice (some ⟨gs, 0, none⟩) (j + 1) c', u9, u10, u11, u12, u13, u14, u15, u16, u17, u18, u19, u20, u21, u22, u23, u24, u25, u26, u27, u28, u29, u30, u31, u32, u33, u34, u35, u36, u37, u38, u39, u40, u41, u42, u43, u44, u45, u46, u47, u48, undef], defers := [] } : Act) ∧ Hid (Runs qs x m init y r) ∧ w'.ownsRow w.heap.size 31 2 (.slice (some ⟨gs, 0, none⟩) (j + 1) c') (j + 1) (frcs ((init ++ [y]).map qf)) ∧ Below w.heap.size w w') ∨
    (l = 0 ∧ ∃ (gs j c' : Nat) (u9 u10 u11 u12 u13 u14 u15 u16 u17 u18 u19 u20 u21 u22 u23 u24 u25 u26 u27 u28 u29 u30 u31 u32 u33 u34 u35 u36 u37 u38 u39 u40 u41 u42 u43 u44 u45 u46 u47 u48 : Value), a' = ({ tmps := #[.slice (some ⟨g, 0, none⟩) n c, .agg #[.int .i64 (xn), .int .i64 (xd)], .int .i64 m, undef, .pointer (some ⟨w.heap.size, 0, none⟩), undef, .slice none 0 0, .bool false, .slice (some ⟨gs, 0, none⟩) (j + 1) c', u9, u10, u11, u12, u13, u14, u15, u16, u17, u18, u19, u20, u21, u22, u23, u24, u25, u26, u27, u28, u29, u30, u31, u32, u33, u34, u35, u36, u37, u38, u39, u40, u41, u42, u43, u44, u45, u46, u47, u48, undef], defers := [] } : Act) ∧ Hid ((run qs m x).length = j + 1) ∧ w'.ownsRow w.heap.size 31 2 (.slice (some ⟨gs, 0, none⟩) (j + 1) c') (j + 1) (frcs ((run qs m x).map qf)) ∧ Below w.heap.size w w')) (fun l a' _ => if l = 0 then 0 else 1 + (m + 1 - lenOf (a'.tmps.getD 8 undef))) ?_ ?_
  · go_wp2_with (first | (go_at_call 46; (with_reducible refine ((unhide HM) _ (own_below (unhide HA) ?pb)).mono ?_); (case pb => exact (by repeat (first | with_reducible exact Below.refl _ _ | with_reducible assumption | (with_reducible refine Below.trans ?_ (Below.mono (by assumption) (by first | omega | (simp <;> omega)))) | with_reducible apply Below.drew | with_reducible apply below_drewN | (with_reducible refine Below.alloc ?_ (by first | omega | (simp <;> omega)) _) | (with_reducible refine Below.setCell ?_ (by first | omega | (simp <;> omega)) _)))); rintro e w1 ⟨rfl, hbw1⟩; have hs1 := hbw1.size; (skip; (try ((have kw1w0 := (bnew hbw1) (w.heap.size) ?pf); (case pf => (first | omega | (simp; done) | (simp; omega))); obtain ⟨kcw1w0, kfw1w0, klw1w0⟩ := kw1w0)))) | (go_at_call 55; (with_reducible refine ((unhide HU) _).mono ?_); rintro e w2 ⟨rfl, hbw2⟩; obtain ⟨hcw2, hfw2⟩ := bcell hbw2; have hzw2 := hbw2.size; (try simp at hzw2); (try ((have kw2w0 := (bnew hbw2) (w.heap.size) ?pf); (case pf => (first | omega | (simp; done) | (simp; omega))); obtain ⟨kcw2w0, kfw2w0, klw2w0⟩ := kw2w0))))
    go_step3
    have hsz2 : w.heap.size ≤ w2.heap.size := by have := hbw2.size; (try simp at *); omega
    have hb : Below w.heap.size w (w2.alloc (.cells #[.int .i64 xn, .int .i64 xd] 31)) := (by repeat (first | with_reducible exact Below.refl _ _ | with_reducible assumption | (with_reducible refine Below.trans ?_ (Below.mono (by assumption) (by first | omega | (simp <;> omega)))) | with_reducible apply Below.drew | with_reducible apply below_drewN | (with_reducible refine Below.alloc ?_ (by first | omega | (simp <;> omega)) _) | (with_reducible refine Below.setCell ?_ (by first | omega | (simp <;> omega)) _)))
    obtain ⟨init, hinit⟩ : ∃ l : List Rat, l = [] := ⟨_, rfl⟩
    obtain ⟨y, hy⟩ : ∃ y, y = x := ⟨_, rfl⟩
    obtain ⟨r, hr⟩ : ∃ r, r = m := ⟨_, rfl⟩
    have hown : (w2.alloc (.cells #[.int .i64 xn, .int .i64 xd] 31)).ownsRow w.heap.size 31 2 (.slice (some ⟨w2.heap.size, 0, none⟩) (0 + 1) 1) (0 + 1) (frcs ((init ++ [y]).map qf)) := by rw [hinit, hy]; exact one_own _ _ _ _ rfl hsz2 HX.out.1 HX.out.2
    have HRU : Hid (Runs qs x m init y r) := by rw [hinit, hy, hr]; exact HST
    obtain ⟨c', hc'⟩ : ∃ c' : Nat, c' = 1 := ⟨_, rfl⟩
    replace hown : (w2.alloc (.cells #[.int .i64 xn, .int .i64 xd] 31)).ownsRow w.heap.size 31 2 (.slice (some ⟨w2.heap.size, 0, none⟩) (0 + 1) c') (0 + 1) (frcs ((init ++ [y]).map qf)) := by rw [hc']; exact hown
    rw [show Value.slice (some ⟨w2.heap.size, 0, none⟩) 1 1 = .slice (some ⟨w2.heap.size, 0, none⟩) 1 c' by rw [hc']]
    clear hinit hy hr hc'
    clear hbw1 hbw2 hcw2 hfw2 hzw2 kcw1w0 kfw1w0 klw1w0 kcw2w0 kfw2w0 klw2w0 hsz2
    generalize w2.alloc (.cells #[.int .i64 xn, .int .i64 xd] 31) = wl at *
    generalize w2.heap.size = gs at *

    have hzl := hb.size
    obtain ⟨hj, hgsl, f0, f1⟩ := own_last hown
    simp only [Nat.zero_mul, Nat.zero_add] at f0 f1
    have hrl : 0 + r = m := by rw [hj]; exact (unhide HRU).len
    have HJ := Lib.hid hj
    clear hj
    by_cases hkm : 0 < m
    · obtain ⟨r, rfl⟩ : ∃ q, r = q + 1 := ⟨r - 1, by omega⟩
      have t1 : IntKind.i64.wrap ((0 : Nat) : Int) = ((0 : Nat) : Int) := IntWalk.i64_in _ (by omega)
      have hval := (unhide HVA) y (unhide HRU).un
      have hvB : ∀ i, (Value.slice (some ⟨gs, 0, none⟩) (0 + 1) c').ownBlock = some i → w.heap.size ≤ i := fun i e => (hown.lt i e).1
      rcases hv : vAt qs y with _ | z
      · rw [hv] at hval
        simp only [oN_none, oD_none, Option.isSome_none] at hval
        have hrun := (unhide HRU).stop hv
        have hrl2 : (run qs m x).length = 0 + 1 := by rw [hrun, List.length_append, ← HJ.out]; rfl
        rw [← hrun] at hown
        have HRL := hide hrl2
        have HV := hide hval
        have HO := hide hown
        have HB := hide hb
        clear hval hv hown hb hrun hrl2 hvB
        generalize y.num = yn at *
        generalize (y.den : Int) = yd at *
        go_wp2_with (go_at_call 56; (with_reducible refine ((unhide HV) _ (own_below (unhide HA) ?pb)).mono ?_); (case pb => exact (unhide HB)); rintro e w5 ⟨rfl, hbw5⟩; have hz5 := hbw5.size; (skip; (try ((have kw5gsX0 := (bnew hbw5) (gs) ?pf); (case pf => (first | omega | (simp; done) | (simp; omega))); obtain ⟨kcw5gsX0, kfw5gsX0, klw5gsX0⟩ := kw5gsX0))))
        go_step3
        go_wp2_with fail
        have hb := unhide HB
        simp only [Exit.jumps]
        go_ret2
        exact ⟨⟨some ⟨gs, 0, none⟩, c', by simp only [List.length_map, (unhide HRL)]; rfl, by rw [List.length_map, (unhide HRL)]; exact own_below (unhide HO) (by repeat (first | with_reducible exact Below.refl _ _ | with_reducible assumption | (with_reducible refine Below.trans ?_ (Below.mono (by assumption) (by first | omega | (simp <;> omega)))) | with_reducible apply Below.drew | with_reducible apply below_drewN | (with_reducible refine Below.alloc ?_ (by first | omega | (simp <;> omega)) _) | (with_reducible refine Below.setCell ?_ (by first | omega | (simp <;> omega)) _)))⟩, (by repeat (first | with_reducible exact Below.refl _ _ | with_reducible assumption | (with_reducible refine Below.trans ?_ (Below.mono (by assumption) (by first | omega | (simp <;> omega)))) | with_reducible apply Below.drew | with_reducible apply below_drewN | (with_reducible refine Below.alloc ?_ (by first | omega | (simp <;> omega)) _) | (with_reducible refine Below.setCell ?_ (by first | omega | (simp <;> omega)) _)))⟩
      · rw [hv] at hval
        simp only [oN_some, oD_some, Option.isSome_some] at hval
        have hru := (unhide HRU).step hg hv
        have HRU2 := hide hru
        have hsn := frq_sn (init ++ [y]) z
        have HSN := Lib.hid hsn
        have HV := hide hval
        have HO := hide hown
        have HB := hide hb
        have HVB := hide hvB
        clear hval hv hown hb hru hsn hvB
        generalize y.num = yn at *
        generalize (y.den : Int) = yd at *
        generalize z.num = zn at *
        generalize (z.den : Int) = zd at *
        go_wp2_with (first
          | (go_at_call 56; (with_reducible refine ((unhide HV) _ (own_below (unhide HA) ?pb)).mono ?_); (case pb => exact (unhide HB)); rintro e w5 ⟨rfl, hbw5⟩; have hz5 := hbw5.size; (skip; (try ((have kw5gsX0 := (bnew hbw5) (gs) ?pf); (case pf => (first | omega | (simp; done) | (simp; omega))); obtain ⟨kcw5gsX0, kfw5gsX0, klw5gsX0⟩ := kw5gsX0))))
          | (at_builtin; refine wpList_append_any rfl _ _ _ rfl w.heap.size 31 i0 _ 2 16 Try.underlying41 hi0 hz0 hz1 hz2 rfl (by omega) (.slice (some ⟨gs, 0, none⟩) (0 + 1) c') (0 + 1) _ rfl (own_below (unhide HO) (show Below wl.heap.size wl _ from (by repeat (first | with_reducible exact Below.refl _ _ | with_reducible assumption | (with_reducible refine Below.trans ?_ (Below.mono (by assumption) (by first | omega | (simp <;> omega)))) | with_reducible apply Below.drew | with_reducible apply below_drewN | (with_reducible refine Below.alloc ?_ (by first | omega | (simp <;> omega)) _) | (with_reducible refine Below.setCell ?_ (by first | omega | (simp <;> omega)) _))))) _ 1 [.int .i64 zn, .int .i64 zd] rfl (lies2 (by simp [go_sem, *]) (by simp [go_sem, *])) rfl (by simp [Value.oneCell']) (Nat.le_trans (by omega) maxLen_ge) (by omega) (by first | omega | (simp <;> omega)) (0 + 1 + 1) rfl ?_; intro A4 c4 w4 hown4 hgrow4))
        have hb := unhide HB
        have hbz : Below w.heap.size w w4 := Below.grown (show Below w.heap.size w _ from (by repeat (first | with_reducible exact Below.refl _ _ | with_reducible assumption | (with_reducible refine Below.trans ?_ (Below.mono (by assumption) (by first | omega | (simp <;> omega)))) | with_reducible apply Below.drew | with_reducible apply below_drewN | (with_reducible refine Below.alloc ?_ (by first | omega | (simp <;> omega)) _) | (with_reducible refine Below.setCell ?_ (by first | omega | (simp <;> omega)) _)))) hgrow4 (by first | omega | (simp <;> omega)) (unhide HVB)
        obtain ⟨g4, rfl⟩ := own_form0 hown4 (by omega)
        rw [HSN.out] at hown4
        have HO4 := hide hown4
        have HBZ := hide hbz
        clear hown4 hgrow4 hbz hbw5 hb
        go_wp2_with fail
        go_step3
        refine (.inl ⟨rfl, g4, 0 + 1, c4, init ++ [y], z, r, _, _, _, _, _, _, _, _, _, _, _, _, _, _, _, _, _, _, _, _, _, _, _, _, _, _, _, _, _, _, _, _, _, _, _, _, _, _, _, _, rfl, HRU2, unhide HO4, unhide HBZ⟩)
    · obtain rfl : r = 0 := by omega
      have hrun := (unhide HRU).full
      have hrl2 : (run qs m x).length = 0 + 1 := by rw [hrun, List.length_append, ← HJ.out]; rfl
      rw [← hrun] at hown
      have HRL := hide hrl2
      have HO := hide hown
      have HB := hide hb
      clear hown hb hrun hrl2
      go_wp2_with fail
      go_step3
      refine (.inr ⟨rfl, gs, 0, c', _, _, _, _, _, _, _, _, _, _, _, _, _, _, _, _, _, _, _, _, _, _, _, _, _, _, _, _, _, _, _, _, _, _, _, _, _, _, _, _, rfl, HRL, unhide HO, unhide HB⟩)

  · rintro l a' wl (⟨rfl, gs, j, c', init, y, r, u9, u10, u11, u12, u13, u14, u15, u16, u17, u18, u19, u20, u21, u22, u23, u24, u25, u26, u27, u28, u29, u30, u31, u32, u33, u34, u35, u36, u37, u38, u39, u40, u41, u42, u43, u44, u45, u46, u47, u48, rfl, HRU, hown, hb⟩ | ⟨rfl, gs, j, c', u9, u10, u11, u12, u13, u14, u15, u16, u17, u18, u19, u20, u21, u22, u23, u24, u25, u26, u27, u28, u29, u30, u31, u32, u33, u34, u35, u36, u37, u38, u39, u40, u41, u42, u43, u44, u45, u46, u47, u48, rfl, HRL, hown, hb⟩)
    · refine ⟨_, rfl, ?_⟩

      have hzl := hb.size
      obtain ⟨hj, hgsl, f0, f1⟩ := own_last hown
      skip
      have hrl : j + r = m := by rw [hj]; exact (unhide HRU).len
      have HJ := Lib.hid hj
      clear hj
      by_cases hkm : j < m
      · obtain ⟨r, rfl⟩ : ∃ q, r = q + 1 := ⟨r - 1, by omega⟩
        have t1 : IntKind.i64.wrap ((j : Nat) : Int) = ((j : Nat) : Int) := IntWalk.i64_in _ (by omega)
        have hval := (unhide HVA) y (unhide HRU).un
        have hvB : ∀ i, (Value.slice (some ⟨gs, 0, none⟩) (j + 1) c').ownBlock = some i → w.heap.size ≤ i := fun i e => (hown.lt i e).1
        rcases hv : vAt qs y with _ | z
        · rw [hv] at hval
          simp only [oN_none, oD_none, Option.isSome_none] at hval
          have hrun := (unhide HRU).stop hv
          have hrl2 : (run qs m x).length = j + 1 := by rw [hrun, List.length_append, ← HJ.out]; rfl
          rw [← hrun] at hown
          have HRL := hide hrl2
          have HV := hide hval
          have HO := hide hown
          have HB := hide hb
          clear hval hv hown hb hrun hrl2 hvB
          generalize y.num = yn at *
          generalize (y.den : Int) = yd at *
          go_wp2_with (go_at_call 56; (with_reducible refine ((unhide HV) _ (own_below (unhide HA) ?pb)).mono ?_); (case pb => exact (unhide HB)); rintro e w5 ⟨rfl, hbw5⟩; have hz5 := hbw5.size; (skip; (try ((have kw5gsX0 := (bnew hbw5) (gs) ?pf); (case pf => (first | omega | (simp; done) | (simp; omega))); obtain ⟨kcw5gsX0, kfw5gsX0, klw5gsX0⟩ := kw5gsX0))))
          go_step3
          go_wp2_with fail
          have hb := unhide HB
          simp only [Exit.jumps]
          go_ret2
          exact ⟨⟨some ⟨gs, 0, none⟩, c', by simp only [List.length_map, (unhide HRL)]; rfl, by rw [List.length_map, (unhide HRL)]; exact own_below (unhide HO) (by repeat (first | with_reducible exact Below.refl _ _ | with_reducible assumption | (with_reducible refine Below.trans ?_ (Below.mono (by assumption) (by first | omega | (simp <;> omega)))) | with_reducible apply Below.drew | with_reducible apply below_drewN | (with_reducible refine Below.alloc ?_ (by first | omega | (simp <;> omega)) _) | (with_reducible refine Below.setCell ?_ (by first | omega | (simp <;> omega)) _)))⟩, (by repeat (first | with_reducible exact Below.refl _ _ | with_reducible assumption | (with_reducible refine Below.trans ?_ (Below.mono (by assumption) (by first | omega | (simp <;> omega)))) | with_reducible apply Below.drew | with_reducible apply below_drewN | (with_reducible refine Below.alloc ?_ (by first | omega | (simp <;> omega)) _) | (with_reducible refine Below.setCell ?_ (by first | omega | (simp <;> omega)) _)))⟩
        · rw [hv] at hval
          simp only [oN_some, oD_some, Option.isSome_some] at hval
          have hru := (unhide HRU).step hg hv
          have HRU2 := hide hru
          have hsn := frq_sn (init ++ [y]) z
          have HSN := Lib.hid hsn
          have HV := hide hval
          have HO := hide hown
          have HB := hide hb
          have HVB := hide hvB
          clear hval hv hown hb hru hsn hvB
          generalize y.num = yn at *
          generalize (y.den : Int) = yd at *
          generalize z.num = zn at *
          generalize (z.den : Int) = zd at *
          go_wp2_with (first
            | (go_at_call 56; (with_reducible refine ((unhide HV) _ (own_below (unhide HA) ?pb)).mono ?_); (case pb => exact (unhide HB)); rintro e w5 ⟨rfl, hbw5⟩; have hz5 := hbw5.size; (skip; (try ((have kw5gsX0 := (bnew hbw5) (gs) ?pf); (case pf => (first | omega | (simp; done) | (simp; omega))); obtain ⟨kcw5gsX0, kfw5gsX0, klw5gsX0⟩ := kw5gsX0))))
            | (at_builtin; refine wpList_append_any rfl _ _ _ rfl w.heap.size 31 i0 _ 2 16 Try.underlying41 hi0 hz0 hz1 hz2 rfl (by omega) (.slice (some ⟨gs, 0, none⟩) (j + 1) c') (j + 1) _ rfl (own_below (unhide HO) (show Below wl.heap.size wl _ from (by repeat (first | with_reducible exact Below.refl _ _ | with_reducible assumption | (with_reducible refine Below.trans ?_ (Below.mono (by assumption) (by first | omega | (simp <;> omega)))) | with_reducible apply Below.drew | with_reducible apply below_drewN | (with_reducible refine Below.alloc ?_ (by first | omega | (simp <;> omega)) _) | (with_reducible refine Below.setCell ?_ (by first | omega | (simp <;> omega)) _))))) _ 1 [.int .i64 zn, .int .i64 zd] rfl (lies2 (by simp [go_sem, *]) (by simp [go_sem, *])) rfl (by simp [Value.oneCell']) (Nat.le_trans (by omega) maxLen_ge) (by omega) (by first | omega | (simp <;> omega)) (j + 1 + 1) rfl ?_; intro A4 c4 w4 hown4 hgrow4))
          have hb := unhide HB
          have hbz : Below w.heap.size w w4 := Below.grown (show Below w.heap.size w _ from (by repeat (first | with_reducible exact Below.refl _ _ | with_reducible assumption | (with_reducible refine Below.trans ?_ (Below.mono (by assumption) (by first | omega | (simp <;> omega)))) | with_reducible apply Below.drew | with_reducible apply below_drewN | (with_reducible refine Below.alloc ?_ (by first | omega | (simp <;> omega)) _) | (with_reducible refine Below.setCell ?_ (by first | omega | (simp <;> omega)) _)))) hgrow4 (by first | omega | (simp <;> omega)) (unhide HVB)
          obtain ⟨g4, rfl⟩ := own_form0 hown4 (by omega)
          rw [HSN.out] at hown4
          have HO4 := hide hown4
          have HBZ := hide hbz
          clear hown4 hgrow4 hbz hbw5 hb
          go_wp2_with fail
          go_step3
          refine And.intro (.inl ⟨rfl, g4, j + 1, c4, init ++ [y], z, r, _, _, _, _, _, _, _, _, _, _, _, _, _, _, _, _, _, _, _, _, _, _, _, _, _, _, _, _, _, _, _, _, _, _, _, _, _, _, _, _, rfl, HRU2, unhide HO4, unhide HBZ⟩) ?_
          simp [lenOf]
          try omega
      · obtain rfl : r = 0 := by omega
        have hrun := (unhide HRU).full
        have hrl2 : (run qs m x).length = j + 1 := by rw [hrun, List.length_append, ← HJ.out]; rfl
        rw [← hrun] at hown
        have HRL := hide hrl2
        have HO := hide hown
        have HB := hide hb
        clear hown hb hrun hrl2
        go_wp2_with fail
        go_step3
        refine And.intro (.inr ⟨rfl, gs, j, c', _, _, _, _, _, _, _, _, _, _, _, _, _, _, _, _, _, _, _, _, _, _, _, _, _, _, _, _, _, _, _, _, _, _, _, _, _, _, _, _, rfl, HRL, unhide HO, unhide HB⟩) ?_
        simp [lenOf]
        try omega

    · refine ⟨_, rfl, ?_⟩
      have HO := hide hown
      have HB := hide hb
      clear hown hb
      go_wp2_with fail
      simp only [Exit.jumps]
      go_ret2
      exact ⟨⟨some ⟨gs, 0, none⟩, c', by simp only [List.length_map, (unhide HRL)]; rfl, by rw [List.length_map, (unhide HRL)]; exact (unhide HO)⟩, (unhide HB)⟩
end Go.Proofs.Ythccdooacbablab

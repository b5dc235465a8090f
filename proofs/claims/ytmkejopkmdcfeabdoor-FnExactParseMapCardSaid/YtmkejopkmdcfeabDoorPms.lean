/-
  Chapter 2: ParseMap of the model: imParse.
-/
import Derived.Test.YtmkejopkmdcfeabDoorPmi
namespace Go.Proofs.YtmkejopkmdcfeabDoor
open Go.RowKit Rm

theorem sp_part (b : UInt8) : ∀ (l cur : List UInt8), ∀ p ∈ sp b cur l, p.length ≤ cur.length + l.length
  | [], cur, p, hp => by
    have : p = cur := by simpa [sp] using hp
    rw [this]; simp
  | c :: r, cur, p, hp => by
    unfold sp at hp
    split at hp
    · rcases List.mem_cons.1 hp with rfl | hp
      · omega
      · have := sp_part b r [] p hp
        simp at this ⊢; omega
    · have := sp_part b r (cur ++ [c]) p hp
      simp at this ⊢; omega
/-- The cells of a slice of strings. -/
structure SCells (w : World) (g n : Nat) (L : List (List UInt8)) : Prop where
  lt : g < w.heap.size
  at0 : ∀ i, i < n → w.cell? ⟨g, i, none⟩ = some (strV (L.getD i []))
theorem SCells.below {w w' : World} {g n : Nat} {L : List (List UInt8)} (h : SCells w g n L) (hb : Below w.heap.size w w') : SCells w' g n L :=
  ⟨Nat.lt_of_lt_of_le h.lt hb.size, fun i hi => (hb.cell (p := ⟨g, i, none⟩) h.lt).trans (h.at0 i hi)⟩
theorem SCells.grown {w w' : World} {g n B : Nat} {row : Option Nat} {L : List (List UInt8)} (h : SCells w g n L) (hg : w.grownBy w' row) (hB : g < B) (hr : ∀ M, row = some M → B ≤ M) : SCells w' g n L := by
  have hne : some g ≠ row := fun e => by have := hr g e.symm; omega
  exact ⟨Nat.lt_of_lt_of_le h.lt hg.size, fun i hi => (World.cell?_of_block (a := ⟨g, i, none⟩) (hg.block g h.lt hne)).trans (h.at0 i hi)⟩
theorem scells_own {w : World} {base : Nat} {v : Value} {L : List (List UInt8)} (h : w.ownsRow base 9 1 v L.length (L.map strV)) (hL : 1 ≤ L.length) : ∃ (g c : Nat), v = .slice (some ⟨g, 0, none⟩) L.length c ∧ L.length ≤ c ∧ base ≤ g ∧ SCells w g L.length L := by
  obtain ⟨g, cap, hv, hb, hgl⟩ := h.form (by omega)
  subst hv
  have hcap : L.length ≤ cap := by
    rcases h.2 with ⟨h0, _⟩ | ⟨g', cap', cur, hv, _, _, hn, _⟩
    · cases h0
    · cases hv; exact hn
  refine ⟨g, cap, rfl, hcap, hb, hgl, fun i hi => ?_⟩
  have hc := h.cellAt i (by omega)
  rw [hc]
  simp [List.getD_eq_getElem?_getD, hi]
/-- The model's split: where its parts lie. -/
theorem split_parts (s : ByteArray) (b : UInt8) (w : World) (hs : s.size ≤ 1048576) :
    Calls Tryd.prog 13 #[.string s, .int .u8 b.toNat] w fun e w' => ∃ (g c : Nat), e = .returned (.slice (some ⟨g, 0, none⟩) (sp b [] s.data.toList).length c) ∧ (sp b [] s.data.toList).length ≤ c ∧ w.heap.size ≤ g ∧ SCells w' g (sp b [] s.data.toList).length (sp b [] s.data.toList) ∧ Below w.heap.size w w' := by
  refine (l1Split_any s b w hs).mono ?_
  rintro e w' ⟨v, rfl, ho, hb⟩
  obtain ⟨g, c, rfl, h1, h2, h3⟩ := scells_own ho (sp_pos _ _ _)
  exact ⟨g, c, rfl, h1, h2, h3, hb⟩
theorem split59 (s : ByteArray) (w : World) (hs : s.size ≤ 1048576) :
    Calls Tryd.prog 13 #[.string s, .int .u8 59] w fun e w' => ∃ (g c : Nat), e = .returned (.slice (some ⟨g, 0, none⟩) (sp 59 [] s.data.toList).length c) ∧ (sp 59 [] s.data.toList).length ≤ c ∧ w.heap.size ≤ g ∧ SCells w' g (sp 59 [] s.data.toList).length (sp 59 [] s.data.toList) ∧ Below w.heap.size w w' := split_parts s 59 w hs
theorem split32 (l : List UInt8) (w : World) (hs : (ByteArray.mk l.toArray).size ≤ 1048576) :
    Calls Tryd.prog 13 #[.string ⟨l.toArray⟩, .int .u8 32] w fun e w' => ∃ (g c : Nat), e = .returned (.slice (some ⟨g, 0, none⟩) (sp 32 [] l).length c) ∧ (sp 32 [] l).length ≤ c ∧ w.heap.size ≤ g ∧ SCells w' g (sp 32 [] l).length (sp 32 [] l) ∧ Below w.heap.size w w' := by
  have := split_parts ⟨l.toArray⟩ 32 w hs
  rw [show (ByteArray.mk l.toArray).data.toList = l from rfl] at this
  exact this
/-- What is read of the lines from j on, behind what has been read. -/
def rdFrom (Ls : List (List UInt8)) (j : Nat) (acc : List Pt) : Option (List Pt) := (rdL (Ls.drop j)).map (acc ++ ·)
theorem rdFrom_end {Ls : List (List UInt8)} {j : Nat} {acc : List Pt} (h : Ls.length ≤ j) : rdFrom Ls j acc = some acc := by
  unfold rdFrom
  rw [List.drop_eq_nil_of_le h]
  simp [rdL]
theorem rdFrom_step {Ls : List (List UInt8)} {j : Nat} {acc : List Pt} (h : j < Ls.length) : rdFrom Ls j acc = (rdP (Ls.getD j [])).bind fun p => rdFrom Ls (j + 1) (acc ++ [p]) := by
  unfold rdFrom
  rw [List.drop_eq_getElem_cons h, rdL]
  have e : Ls.getD j [] = Ls[j] := by simp [List.getD_eq_getElem?_getD, h]
  rw [e]
  cases rdP Ls[j] with
  | none => rfl
  | some p =>
    simp only [Option.bind_some]
    cases rdL (Ls.drop (j + 1)) with
    | none => rfl
    | some r => simp
theorem strV_list (l : List UInt8) : (ByteArray.mk l.toArray).data.toList = l := by simp
theorem getD_part (b : UInt8) (s : ByteArray) (j : Nat) : (ByteArray.mk ((sp b [] s.data.toList).getD j []).toArray).size ≤ s.size := by
  by_cases h : j < (sp b [] s.data.toList).length
  · have := sp_part b s.data.toList [] _ (List.getElem_mem h)
    have e : s.data.toList.length = s.size := by simp
    have e2 : (sp b [] s.data.toList).getD j [] = (sp b [] s.data.toList)[j] := by simp [List.getD_eq_getElem?_getD, h]
    rw [e2]
    show ((sp b [] s.data.toList)[j]).toArray.size ≤ _
    simp at this ⊢
    omega
  · have e2 : (sp b [] s.data.toList).getD j [] = [] := by simp [List.getD_eq_getElem?_getD]; rw [List.getElem?_eq_none (by omega)]; rfl
    rw [e2]
    exact Nat.zero_le _
theorem rdP_no {l : List UInt8} (h : (sp 32 [] l).length ≠ 2) : rdP l = none := by
  unfold rdP
  split
  · rename_i e
    rw [e] at h
    exact absurd rfl h
  · rfl
theorem rdP_two {l x y : List UInt8} (h : sp 32 [] l = [x, y]) : rdP l = (specP x).bind fun a => (specP y).map fun b => (a, b) := by unfold rdP; rw [h]
theorem two_parts {L : List (List UInt8)} (h : L.length = 2) : ∃ x y, L = [x, y] := by
  match L, h with
  | [x, y], _ => exact ⟨x, y, rfl⟩
/-- The model's reading of a part of a line. -/
theorem raParse_part (l : List UInt8) (w : World) (hs : (ByteArray.mk l.toArray).size ≤ 1048576) :
    Calls Tryd.prog 14 #[.string ⟨l.toArray⟩] w fun e w' => e = .returned (.tuple #[.agg #[.int .i64 (prF l).1, .int .i64 (prF l).2], .bool (specP l).isSome]) ∧ Below w.heap.size w w' := by
  have := raParse_any ⟨l.toArray⟩ w hs
  rw [strV_list, (prF_parts _).1, (prF_parts _).2] at this
  exact this

set_option maxRecDepth 100000 in
set_option maxHeartbeats 3200000 in
theorem imParse_any (s : ByteArray) (w : World) (hs : s.size ≤ 1048576) :
    Calls Tryd.prog 9 #[.string s] w fun e w' => GivesM w.heap.size (finM s.data.toList (rdS s.data.toList)).1 (finM s.data.toList (rdS s.data.toList)).2 e w' ∧ Below w.heap.size w w' := by
  obtain ⟨i0, hi0, hz0, hz1', hz2⟩ := info_parts iPoint
  have hsp := split59 s w hs
  have hpl := fun j => getD_part 59 s j
  have hn1 := sp_pos 59 s.data.toList []
  obtain ⟨T, hT⟩ : ∃ T, T = rdS s.data.toList := ⟨_, rfl⟩
  rw [← hT]
  unfold rdS at hT
  generalize sp 59 [] s.data.toList = L at *
  have HSP := hide hsp
  clear hsp
  by_cases h13 : 13 < L.length
  · rw [if_pos h13] at hT
    have HT := Lib.hid hT
    have h13' : decide ((L.length : Int) > 13) = true := decide_eq_true (by omega)
    clear hT hpl hn1
    go_enter Tryd.func9, Tryd.ntmps9
    go_wp2_with (go_at_call 13; (with_reducible refine (unhide HSP).mono ?_); rintro e w1 ⟨g1, c1, rfl, hc1, hlo1, hsc1, hbw1⟩)
    go_ret2
    rw [HT.out]
    exact ⟨givesM_none _ _, hbw1⟩
  · rw [if_neg h13] at hT
    obtain ⟨n, hn⟩ : ∃ n, L.length = n + 1 := ⟨L.length - 1, by omega⟩
    have hdl : L.dropLast.length = n := by simp [hn]
    have hgd : ∀ j, j < n → L.dropLast.getD j [] = L.getD j [] := fun j hj => by simp [List.getD_eq_getElem?_getD, hn, hj, show j < n + 1 by omega]
    have hst : rdFrom L.dropLast 0 [] = T := by rw [hT]; unfold rdFrom; simp
    have h13' : decide ((L.length : Int) > 13) = false := decide_eq_false (by omega)
    rw [hn] at HSP h13'
    have hn12 : n ≤ 12 := by omega
    have HST := hide hst; have HDL := Lib.hid hdl; have HGD := hide hgd
    clear hT hst hdl hgd hn hn1 h13
    go_enter Tryd.func9, Tryd.ntmps9
    go_wp2_with (go_at_call 13; (with_reducible refine (unhide HSP).mono ?_); rintro e w1 ⟨g1, c1, rfl, hc1, hlo1, hsc1, hbw1⟩)
    have hz1 : w.heap.size ≤ w1.heap.size := hbw1.size
    have hg1 := hsc1.lt
    have HSC := hide hsc1; have HB1 := hide hbw1
    clear hsc1 hbw1 HSP
    go_loopw [5, 24] (fun v i wr => ∃ (j c : Nat) (A : Option Addr) (acc : List Pt), i = .int .i64 j ∧ v = .slice A j c ∧ j ≤ n ∧ Hid (wr.ownsRow w1.heap.size 31 4 (.slice A j c) j (ptcs acc)) ∧ Hid (SCells wr g1 (n + 1) L) ∧ Below w.heap.size w wr ∧ w1.heap.size ≤ wr.heap.size ∧ Hid (rdFrom L.dropLast j acc = T)) (fun _ i _ => n - (intOf i).toNat)
    case atStart => exact ⟨0, 0, none, [], rfl, rfl, by omega, hide ⟨rfl, .inl ⟨rfl, rfl⟩⟩, HSC, unhide HB1, Nat.le_refl _, HST⟩
    case round =>
      obtain ⟨j, c, A, acc, rfl, rfl, hj, HO, HC, hbwr, h1r, HRD⟩ := hrel
      clear HSC HB1 HST
      have hzwr := hbwr.size
      have HB := hide hbwr
      clear hbwr
      by_cases hlt : j < n
      · have f0 := (unhide HC).at0 j (by omega)
        have hls := Nat.le_trans (hpl j) hs
        have hrd := rdFrom_step (acc := acc) (show j < L.dropLast.length by rw [HDL.out]; exact hlt)
        rw [unhide HRD, (unhide HGD) j hlt] at hrd
        have hg1r := (unhide HC).lt
        clear HRD
        generalize L.getD j [] = l at *
        have hs2 := fun W => split32 l W hls
        change wr.cell? _ = some (.string ⟨l.toArray⟩) at f0
        by_cases h2 : (sp 32 [] l).length = 2
        · obtain ⟨x, y, hxy⟩ := two_parts h2
          rw [rdP_two hxy] at hrd
          have hxs : (ByteArray.mk x.toArray).size ≤ 1048576 := by
            have := sp_part 32 l [] x (by rw [hxy]; simp)
            have h3 : l.toArray.size ≤ 1048576 := hls
            show x.toArray.size ≤ _
            simp at this h3 ⊢; omega
          have hys : (ByteArray.mk y.toArray).size ≤ 1048576 := by
            have := sp_part 32 l [] y (by rw [hxy]; simp)
            have h3 : l.toArray.size ≤ 1048576 := hls
            show y.toArray.size ≤ _
            simp at this h3 ⊢; omega
          rw [hxy] at hs2
          simp only [List.length_cons, List.length_nil, Nat.zero_add, Nat.reduceAdd] at hs2
          have hpx := fun W => raParse_part x W hxs
          have hpy := fun W => raParse_part y W hys
          cases hx : specP x with
          | none =>
            rw [hx] at hpx hrd
            have hy : True := trivial
            have HT := Lib.hid (show T = none from hrd)
            have HX := hide hpx; have HY := hide hpy; have HS2 := hide hs2
            clear hrd hpx hpy hs2 hx hy h2 hxy
            generalize prF x = vx at *
            generalize prF y = vy at *
            go_wp2_with (first
                | (go_at_call 13; (with_reducible refine ((unhide HS2) _).mono ?_); rintro e w3 ⟨g3, c3, rfl, hc3, hlo3, hsc3, hbw3⟩; have hs3 := hbw3.size; have q0 : w3.cell? ⟨g3, 0, none⟩ = some (.string ⟨x.toArray⟩) := hsc3.at0 0 (by omega); have q1 : w3.cell? ⟨g3, 1, none⟩ = some (.string ⟨y.toArray⟩) := hsc3.at0 1 (by omega); have hl3 := hsc3.lt; clear hsc3)
                | (go_at_call 14; first
                    | (have _t := hbw4; clear _t; (with_reducible refine ((unhide HY) _).mono ?_); rintro e w5 ⟨rfl, hbw5⟩; have hs5 := hbw5.size; (try simp at hs5); have b0 := (hbw5.cell (p := ⟨w4.heap.size, 0, none⟩) (by simp)).trans (show _ = some (.int .i64 vx.1) by simp [go_sem]); have b1 := (hbw5.cell (p := ⟨w4.heap.size, 1, none⟩) (by simp)).trans (show _ = some (.int .i64 vx.2) by simp [go_sem]); have hl4 : w4.heap.size < w5.heap.size := (by omega))
                    | ((with_reducible refine ((unhide HX) _).mono ?_); rintro e w4 ⟨rfl, hbw4⟩; have hs4 := hbw4.size; have q2 := (hbw4.cell (p := ⟨g3, 1, none⟩) hl3).trans q1; have hl34 : g3 < w4.heap.size := (by omega))))
            have hb : Below wr.heap.size wr w5 := (by repeat (first | with_reducible exact Below.refl _ _ | with_reducible assumption | (with_reducible refine Below.trans ?_ (Below.mono (by assumption) (by first | omega | (simp <;> omega)))) | with_reducible apply Below.drew | with_reducible apply below_drewN | (with_reducible refine Below.alloc ?_ (by first | omega | (simp <;> omega)) _) | (with_reducible refine Below.setCell ?_ (by first | omega | (simp <;> omega)) _)))
            have hb2 := (unhide HB).trans (hb.mono hzwr)
            have HB2 := hide hb2
            have hb3 : Below w.heap.size w (w5.alloc (.cells #[.int .i64 vy.1, .int .i64 vy.2] 29)) := (unhide HB2).alloc (unhide HB2).size _
            go_ret2
            rw [HT.out]
            exact ⟨givesM_none _ _, hb3⟩
          | some a =>
            rw [hx] at hpx hrd
            have ea : prF x = a := by unfold prF; rw [hx]; rfl
            cases hy : specP y with
            | none =>
              rw [hy] at hpy hrd
              clear ea
              have HT := Lib.hid (show T = none from hrd)
              have HX := hide hpx; have HY := hide hpy; have HS2 := hide hs2
              clear hrd hpx hpy hs2 hx hy h2 hxy
              generalize prF x = vx at *
              generalize prF y = vy at *
              go_wp2_with (first
                  | (go_at_call 13; (with_reducible refine ((unhide HS2) _).mono ?_); rintro e w3 ⟨g3, c3, rfl, hc3, hlo3, hsc3, hbw3⟩; have hs3 := hbw3.size; have q0 : w3.cell? ⟨g3, 0, none⟩ = some (.string ⟨x.toArray⟩) := hsc3.at0 0 (by omega); have q1 : w3.cell? ⟨g3, 1, none⟩ = some (.string ⟨y.toArray⟩) := hsc3.at0 1 (by omega); have hl3 := hsc3.lt; clear hsc3)
                  | (go_at_call 14; first
                      | (have _t := hbw4; clear _t; (with_reducible refine ((unhide HY) _).mono ?_); rintro e w5 ⟨rfl, hbw5⟩; have hs5 := hbw5.size; (try simp at hs5); have b0 := (hbw5.cell (p := ⟨w4.heap.size, 0, none⟩) (by simp)).trans (show _ = some (.int .i64 vx.1) by simp [go_sem]); have b1 := (hbw5.cell (p := ⟨w4.heap.size, 1, none⟩) (by simp)).trans (show _ = some (.int .i64 vx.2) by simp [go_sem]); have hl4 : w4.heap.size < w5.heap.size := (by omega))
                      | ((with_reducible refine ((unhide HX) _).mono ?_); rintro e w4 ⟨rfl, hbw4⟩; have hs4 := hbw4.size; have q2 := (hbw4.cell (p := ⟨g3, 1, none⟩) hl3).trans q1; have hl34 : g3 < w4.heap.size := (by omega))))
              have hb : Below wr.heap.size wr w5 := (by repeat (first | with_reducible exact Below.refl _ _ | with_reducible assumption | (with_reducible refine Below.trans ?_ (Below.mono (by assumption) (by first | omega | (simp <;> omega)))) | with_reducible apply Below.drew | with_reducible apply below_drewN | (with_reducible refine Below.alloc ?_ (by first | omega | (simp <;> omega)) _) | (with_reducible refine Below.setCell ?_ (by first | omega | (simp <;> omega)) _)))
              have hb2 := (unhide HB).trans (hb.mono hzwr)
              have HB2 := hide hb2
              have hb3 : Below w.heap.size w (w5.alloc (.cells #[.int .i64 vy.1, .int .i64 vy.2] 29)) := (unhide HB2).alloc (unhide HB2).size _
              go_ret2
              rw [HT.out]
              exact ⟨givesM_none _ _, hb3⟩
            | some b =>
              rw [hy] at hpy hrd
              have eb : prF y = b := by unfold prF; rw [hy]; rfl
              have hrd2 : rdFrom L.dropLast (j + 1) (acc ++ [(prF x, prF y)]) = T := by rw [hrd, ea, eb]; rfl
              have HRD2 := hide hrd2
              have HX := hide hpx; have HY := hide hpy; have HS2 := hide hs2
              have hvB : ∀ i, (Value.slice A j c).ownBlock = some i → w1.heap.size ≤ i := fun i e => ((unhide HO).lt i e).1
              have HVB := hide hvB
              clear hrd hrd2 hpx hpy hs2 hx hy h2 hxy ea eb hvB
              generalize prF x = vx at *
              generalize prF y = vy at *
              go_wp2_with (first
                | (go_at_call 13; (with_reducible refine ((unhide HS2) _).mono ?_); rintro e w3 ⟨g3, c3, rfl, hc3, hlo3, hsc3, hbw3⟩; have hs3 := hbw3.size; have q0 : w3.cell? ⟨g3, 0, none⟩ = some (.string ⟨x.toArray⟩) := hsc3.at0 0 (by omega); have q1 : w3.cell? ⟨g3, 1, none⟩ = some (.string ⟨y.toArray⟩) := hsc3.at0 1 (by omega); have hl3 := hsc3.lt; clear hsc3)
                | (go_at_call 14; first
                    | (have _t := hbw4; clear _t; (with_reducible refine ((unhide HY) _).mono ?_); rintro e w5 ⟨rfl, hbw5⟩; have hs5 := hbw5.size; (try simp at hs5); have b0 := (hbw5.cell (p := ⟨w4.heap.size, 0, none⟩) (by simp)).trans (show _ = some (.int .i64 vx.1) by simp [go_sem]); have b1 := (hbw5.cell (p := ⟨w4.heap.size, 1, none⟩) (by simp)).trans (show _ = some (.int .i64 vx.2) by simp [go_sem]); have hl4 : w4.heap.size < w5.heap.size := (by omega))
                    | ((with_reducible refine ((unhide HX) _).mono ?_); rintro e w4 ⟨rfl, hbw4⟩; have hs4 := hbw4.size; have q2 := (hbw4.cell (p := ⟨g3, 1, none⟩) hl3).trans q1; have hl34 : g3 < w4.heap.size := (by omega)))
                | (at_builtin; refine wpList_append_any rfl _ _ _ rfl w1.heap.size 31 i0 _ 4 32 Tryd.underlying22 hi0 hz0 hz1' hz2 rfl (by omega) (.slice A j c) j _ rfl (World.ownsRow.alloc (World.ownsRow.alloc (own_below (unhide HO) (show Below wr.heap.size wr w5 from (by repeat (first | with_reducible exact Below.refl _ _ | with_reducible assumption | (with_reducible refine Below.trans ?_ (Below.mono (by assumption) (by first | omega | (simp <;> omega)))) | with_reducible apply Below.drew | with_reducible apply below_drewN | (with_reducible refine Below.alloc ?_ (by first | omega | (simp <;> omega)) _) | (with_reducible refine Below.setCell ?_ (by first | omega | (simp <;> omega)) _))))) _) _) _ 1 [.int .i64 vx.1, .int .i64 vx.2, .int .i64 vy.1, .int .i64 vy.2] rfl (lies4 (by simp [go_sem, *]) (by simp [go_sem, *]) (by simp [go_sem, *]) (by simp [go_sem, *])) rfl (by simp [Value.oneCell']) (Nat.le_trans (by omega) maxLen_ge) (by omega) (by first | omega | (simp <;> omega)) (j + 1) rfl ?_; intro A7 c7 w7 hown7 hgrow7))
              rw [ptcs_sn acc (vx, vy)] at hown7
              have hb5 : Below wr.heap.size wr w5 := (by repeat (first | with_reducible exact Below.refl _ _ | with_reducible assumption | (with_reducible refine Below.trans ?_ (Below.mono (by assumption) (by first | omega | (simp <;> omega)))) | with_reducible apply Below.drew | with_reducible apply below_drewN | (with_reducible refine Below.alloc ?_ (by first | omega | (simp <;> omega)) _) | (with_reducible refine Below.setCell ?_ (by first | omega | (simp <;> omega)) _)))
              have hb6 := (hb5.alloc (show wr.heap.size ≤ w5.heap.size by omega) (.cells #[.int .i64 vy.1, .int .i64 vy.2] 29)).alloc (by simp; omega) (.cells #[.int .i64 vx.1, .int .i64 vx.2, .int .i64 vy.1, .int .i64 vy.2] 31)
              have hc7 := ((unhide HC).below hb6).grown hgrow7 hg1 (unhide HVB)
              have hb7 : Below w.heap.size w w7 := Below.grown ((unhide HB).trans (hb6.mono hzwr)) hgrow7 (by simp; omega) (fun i e => Nat.le_trans hz1 (unhide HVB i e))
              have hz7 := hgrow7.size
              simp at hz7
              have HO7 := hide hown7; have HC7 := hide hc7; have HB7 := hide hb7
              clear hown7 hc7 hb7 hgrow7 hb5 hb6
              go_wp2_with fail
              go_roundw
              case rel => exact ⟨j + 1, c7, A7, _, by go_num, rfl, by omega, HO7, HC7, unhide HB7, by omega, HRD2⟩
              case measure => simp [intOf]; omega
        · rw [rdP_no h2] at hrd
          have HT := Lib.hid hrd
          have HS2 := hide hs2
          have h2' : ¬ ((sp 32 [] l).length : Int) = 2 := by omega
          clear hrd hs2
          generalize (sp 32 [] l).length = n2 at *
          go_wp2_with (go_at_call 13; (with_reducible refine ((unhide HS2) _).mono ?_); rintro e w3 ⟨g3, c3, rfl, hc3, hlo3, hsc3, hbw3⟩)
          have hb := (unhide HB).trans (hbw3.mono hzwr)
          go_ret2
          rw [HT.out]
          exact ⟨givesM_none _ _, hb⟩
      · obtain rfl : j = n := by omega
        have hT := (rdFrom_end (acc := acc) (show L.dropLast.length ≤ j by rw [HDL.out]; exact Nat.le_refl _)).symm.trans (unhide HRD)
        have HT := Lib.hid hT
        have hal : acc.length = j := own_len (unhide HO)
        have hown := (unhide HO).mono hz1
        have hgd := fun W hW => imGood_any A j c w1.heap.size acc W hW (by omega)
        have HG := hide hgd; have HAL := Lib.hid hal; have HOWN := hide hown
        clear hT hgd hown HRD HC
        cases hmb : mapB acc with
        | false =>
          have hfin : finM s.data.toList (some acc) = ([], false) := if_neg (fun h => by rw [hmb] at h; exact absurd h.1 (by decide))
          have HF := Lib.hid hfin
          rw [hmb] at HG
          clear hfin hmb hal
          go_wp2_with (go_at_call 15; (with_reducible refine ((unhide HG) _ (unhide HO)).mono ?_); rintro e w5 ⟨rfl, hbw5⟩)
          have hb := (unhide HB).trans (hbw5.mono hzwr)
          go_ret2
          rw [← HT.out, HF.out]
          exact ⟨givesM_none _ _, hb⟩
        | true =>
          obtain ⟨hgs, h12, h2⟩ := goods_map hmb
          rw [hal] at hgs
          obtain ⟨g6, cap, hv, _, _⟩ := (unhide HO).form (by omega)
          have hA : A = some ⟨g6, 0, none⟩ := by injection hv with h1 _ h2
          subst hA
          have htx := fun W hW => imText_map g6 j c w1.heap.size acc W hW hgs hn12
          have HTX := hide htx
          rw [hmb] at HG
          by_cases hE : (⟨(mpT acc j).toArray⟩ : ByteArray) = s
          · have hfin : finM s.data.toList (some acc) = (acc, true) := if_pos ⟨hmb, by rw [hal, ← hE]⟩
            have HF := Lib.hid hfin
            rw [hE] at HTX
            clear hfin hmb hal hgs h12 h2 hv htx hE
            go_wp2_with (first
              | (go_at_call 15; (with_reducible refine ((unhide HG) _ (unhide HO)).mono ?_); rintro e w5 ⟨rfl, hbw5⟩; have hs5 := hbw5.size)
              | (go_at_call 16; (with_reducible refine ((unhide HTX) _ (own_below (unhide HO) hbw5)).mono ?_); rintro e w6 ⟨rfl, hbw6⟩))
            have hb5 : Below wr.heap.size wr w6 := hbw5.trans (hbw6.mono hs5)
            have hb := (unhide HB).trans (hb5.mono hzwr)
            have HO6 := hide (own_below (unhide HOWN) hb5)
            go_ret2
            rw [← HT.out, HF.out]
            exact ⟨⟨some ⟨g6, 0, none⟩, c, by rw [HAL.out]; rfl, by rw [HAL.out]; exact unhide HO6⟩, hb⟩
          · have hfin : finM s.data.toList (some acc) = ([], false) := if_neg (fun h => hE (by rw [← hal, h.2]))
            have HF := Lib.hid hfin
            generalize (⟨(mpT acc j).toArray⟩ : ByteArray) = tx at *
            have hne2 : (tx.toList == s.toList) = false := text_ne hE
            clear hfin hmb hal hgs h12 h2 hv htx
            go_wp2_with (first
              | (go_at_call 15; (with_reducible refine ((unhide HG) _ (unhide HO)).mono ?_); rintro e w5 ⟨rfl, hbw5⟩; have hs5 := hbw5.size)
              | (go_at_call 16; (with_reducible refine ((unhide HTX) _ (own_below (unhide HO) hbw5)).mono ?_); rintro e w6 ⟨rfl, hbw6⟩))
            have hb5 : Below wr.heap.size wr w6 := hbw5.trans (hbw6.mono hs5)
            have hb := (unhide HB).trans (hb5.mono hzwr)
            go_ret2
            rw [← HT.out, HF.out]
            exact ⟨givesM_none _ _, hb⟩
end Go.Proofs.YtmkejopkmdcfeabDoor

/-
  Chapter 8: the numbers that belong to the fractions of an orbit, of the program.
-/
import Derived.Test.YthccdooacbablabOa
import Derived.Test.YthccdooacbablabGi
namespace Go.Proofs.Ythccdooacbablab
open Go.RowKit Rm

/-- The numbers of the first j fractions. -/
def nbK (fn : Rat → Nat) (l : List Rat) (j : Nat) : List Int := (l.take j).map fun y => (fn y : Int)
theorem nbK_len {fn : Rat → Nat} {l : List Rat} {j : Nat} (h : j ≤ l.length) : (nbK fn l j).length = j := by unfold nbK; rw [List.length_map, List.length_take]; omega
theorem nbK_sn {fn : Rat → Nat} {l : List Rat} {j : Nat} (h : j < l.length) : ints (nbK fn l (j + 1)) = ints (nbK fn l j) ++ [.int .i64 (fn (l.getD j 0) : Int)] := by
  unfold nbK ints
  rw [List.take_succ_eq_append_getElem h, List.map_append, List.map_append]
  simp [h]
theorem nbK_all {fn : Rat → Nat} {l : List Rat} : nbK fn l l.length = l.map fun y => (fn y : Int) := by unfold nbK; rw [List.take_length]
theorem zfAt_q (l : List Rat) {k : Nat} (h : k < l.length) : fAt (l.map qf) k = ((l.getD k 0).num, ((l.getD k 0).den : Int)) := by simp [fAt, h, qf]
theorem zlies_one {W : World} {Y c : Nat} {a : Value} (h0 : W.cell? ⟨Y, 0, none⟩ = some a) : Lies W (.slice (some ⟨Y, 0, none⟩) 1 c) 1 [a] := by
  refine .inr ⟨_, _, rfl, fun j u hu => ?_⟩
  rw [add_at]
  match j, hu with
  | 0, hu => simp only [List.getElem?_cons_zero, Option.some.injEq] at hu; subst hu; exact h0
  | j + 1, hu => simp at hu
theorem zone_cell {a : Value} (h : a.oneCell' = true) : ∀ u ∈ ([a] : List Value), u.oneCell' = true := fun u hu => by rw [List.mem_singleton.1 hu]; exact h
/-- The facts on the orbit that is told. -/
theorem orbO_un {ps : List Pt} {a b m : Int} {l : List Rat} (h : orbO ps a b m = some l) : l.length ≤ 61 ∧ (∀ i, i < l.length → Un (l.getD i 0)) ∧ ∃ qs : List QP, ps = qs.map qp ∧ GMap qs := by
  rcases orb_cases ps a b m with ⟨_, _, h2⟩ | ⟨qs2, x, k, e, hg, rfl, rfl, hx, hmk, hk, hr', _, ⟨_, _, h2⟩ | ⟨hO, h2⟩⟩
  · rw [h] at h2; cases h2
  · rw [h] at h2; cases h2
  · rw [h] at h2
    injection h2 with h2
    rw [h2]
    have := hO.len
    exact ⟨by omega, fun i hi => hO.all i (by omega), qs2, e, hg⟩

set_option maxRecDepth 100000 in
set_option maxHeartbeats 1600000 in
theorem numbersI_any (fn : Rat → Nat) (A : Option Addr) (n c base : Nat) (ps : List Pt) (a b m : Int) (fb : Nat) (w : World) (ha : w.ownsRow base 45 4 (.slice A n c) n (ptcs ps)) (hn : n ≤ 1048576)
    (h1 : 1 ≤ m) (h2 : m ≤ 60) (hcl : mapB ps = true → ∀ (y : Rat) (W : World), Un y → Below w.heap.size w W → Calls Try.prog 22 #[.agg #[.int .i64 (y.num), .int .i64 (y.den)], .pointer (some ⟨fb, 0, none⟩)] W fun e w' => e = .returned (.int .i64 (fn y : Int)) ∧ Below W.heap.size W w') :
    Calls Try.prog 21 #[.slice A n c, .agg #[.int .i64 (a), .int .i64 (b)], .int .i64 m, .func (.func 22) #[] #[.pointer (some ⟨fb, 0, none⟩)]] w fun e w' =>
      GivesI w.heap.size (((orbO ps a b (m - 1)).getD []).map fun y => (fn y : Int)) (orbO ps a b (m - 1)).isSome e w' ∧ Below w.heap.size w w' := by
  obtain ⟨i0, hi0, iz0, iz1, iz2⟩ := info_parts iInt
  have hor := fun W hW => iOrbitOf_any A n c base ps a b (m - 1) W hW hn
  have e1 : IntKind.i64.wrap (m - 1) = m - 1 := IntWalk.i64_in _ (by omega)
  have HA := hide ha
  clear ha
  rcases ho : orbO ps a b (m - 1) with _ | l
  · rw [ho] at hor
    have HO := hide hor
    clear hor ho hcl
    simp only [Option.getD_none, List.map_nil, Option.isSome_none] at HO ⊢
    go_enter Try.func21, Try.ntmps21
    go_wp2_with (go_at_call 32; (with_reducible refine ((unhide HO) _ (own_below (unhide HA) ?pb)).mono ?_); (case pb => exact (by repeat (first | with_reducible exact Below.refl _ _ | with_reducible assumption | (with_reducible refine Below.trans ?_ (Below.mono (by assumption) (by first | omega | (simp <;> omega)))) | with_reducible apply Below.drew | with_reducible apply below_drewN | (with_reducible refine Below.alloc ?_ (by first | omega | (simp <;> omega)) _) | (with_reducible refine Below.setCell ?_ (by first | omega | (simp <;> omega)) _)))); rintro e w2 ⟨⟨A2, d2, rfl, ho2⟩, hbw2⟩; have hz2' := hbw2.size; (try simp at hz2'); (skip; (try ((have kw2w0 := (bnew hbw2) (w.heap.size) ?pf); (case pf => (first | omega | (simp; done) | (simp; omega))); obtain ⟨kcw2w0, kfw2w0, klw2w0⟩ := kw2w0))))
    go_ret2
    exact ⟨givesI_none _ _, (by repeat (first | with_reducible exact Below.refl _ _ | with_reducible assumption | (with_reducible refine Below.trans ?_ (Below.mono (by assumption) (by first | omega | (simp <;> omega)))) | with_reducible apply Below.drew | with_reducible apply below_drewN | (with_reducible refine Below.alloc ?_ (by first | omega | (simp <;> omega)) _) | (with_reducible refine Below.setCell ?_ (by first | omega | (simp <;> omega)) _)))⟩
  · obtain ⟨hln, hun, qs0, hq0, hg0⟩ := orbO_un ho
    replace hcl := hcl (by rw [hq0]; exact hg0.mapB)
    clear hq0 hg0 qs0
    have hall := nbK_all (fn := fn) (l := l)
    simp only [Option.getD_some, Option.isSome_some]
    rw [← hall]
    rw [ho] at hor
    unfold GivesR at hor
    simp only [Option.getD_some, Option.isSome_some, List.length_map] at hor
    have HO := hide hor; have HU := hide hun; have HCL := hide hcl
    clear hor ho hall hun hcl
    have hlk := nbK_len (fn := fn) (l := l) (Nat.le_refl l.length)
    obtain ⟨N, hN⟩ : ∃ N, N = l.length := ⟨_, rfl⟩
    rw [← hN] at HO hlk hln ⊢
    have HLK := Lib.hid hlk
    have HN := Lib.hid hN; clear hN hlk
    go_enter Try.func21, Try.ntmps21
    go_wp2_with (go_at_call 32; (with_reducible refine ((unhide HO) _ (own_below (unhide HA) ?pb)).mono ?_); (case pb => exact (by repeat (first | with_reducible exact Below.refl _ _ | with_reducible assumption | (with_reducible refine Below.trans ?_ (Below.mono (by assumption) (by first | omega | (simp <;> omega)))) | with_reducible apply Below.drew | with_reducible apply below_drewN | (with_reducible refine Below.alloc ?_ (by first | omega | (simp <;> omega)) _) | (with_reducible refine Below.setCell ?_ (by first | omega | (simp <;> omega)) _)))); rintro e w2 ⟨⟨A2, d2, rfl, ho2⟩, hbw2⟩; have hz2' := hbw2.size; (try simp at hz2'); (skip; (try ((have kw2w0 := (bnew hbw2) (w.heap.size) ?pf); (case pf => (first | omega | (simp; done) | (simp; omega))); obtain ⟨kcw2w0, kfw2w0, klw2w0⟩ := kw2w0))))
    have hbA : Below w.heap.size w w2 := (by repeat (first | with_reducible exact Below.refl _ _ | with_reducible assumption | (with_reducible refine Below.trans ?_ (Below.mono (by assumption) (by first | omega | (simp <;> omega)))) | with_reducible apply Below.drew | with_reducible apply below_drewN | (with_reducible refine Below.alloc ?_ (by first | omega | (simp <;> omega)) _) | (with_reducible refine Below.setCell ?_ (by first | omega | (simp <;> omega)) _)))
    have HBA := hide hbA
    have HO2 := hide ho2
    have hzA := hbA.size
    clear ho2 hbA hbw2 kcw2w0 kfw2w0 klw2w0
    go_loopw [12, 27] (fun v i wr => ∃ (j : Nat) (A4 : Option Addr) (c4 : Nat), i = .int .i64 (j : Int) ∧ v = .slice A4 j c4 ∧ j ≤ N ∧ wr.ownsRow w2.heap.size 3 1 (.slice A4 j c4) j (ints (nbK fn l j)) ∧ Below w2.heap.size w2 wr) (fun _ i _ => N - (intOf i).toNat)
    case atStart => exact ⟨0, none, 0, rfl, rfl, by omega, World.ownsRow_nil _ _ _ _, Below.refl _ _⟩
    case round =>
      obtain ⟨j, A4, c4, rfl, rfl, hj, hown, hbwr⟩ := hrel
      have hzwr := hbwr.size
      by_cases hlt : j < N
      · have hjl : j < l.length := by rw [← HN.out]; exact hlt
        obtain ⟨g1, rfl, hg1, _, f0, f1⟩ := frs_cells (own_below (unhide HO2) hbwr) hlt (zfAt_q l hjl)
        have hu := (unhide HU) j hjl
        have hbw := (unhide HBA).trans (hbwr.mono hzA)
        have hfl := fun W hV => (unhide HCL) (l.getD j 0) W hu (hbw.trans (Below.mono hV hbw.size))
        have hsn := nbK_sn (fn := fn) hjl
        have hvB : ∀ k, (Value.slice A4 j c4).ownBlock = some k → w2.heap.size ≤ k := fun k e => (hown.lt k e).1
        have HFL := hide hfl; have HSN := Lib.hid hsn; have HVB := hide hvB; have HO := hide hown; have HB := hide hbwr
        clear hu hfl hsn hvB hown hbwr hbw
        generalize fn (l.getD j 0) = z at *
        generalize (l.getD j 0).num = yn at *
        generalize ((l.getD j 0).den : Int) = yd at *
        go_wp2_with (first
          | (go_at_call 22; (with_reducible refine ((unhide HFL) _ ?pb).mono ?_); (case pb => exact (by repeat (first | with_reducible exact Below.refl _ _ | with_reducible assumption | (with_reducible refine Below.trans ?_ (Below.mono (by assumption) (by first | omega | (simp <;> omega)))) | with_reducible apply Below.drew | with_reducible apply below_drewN | (with_reducible refine Below.alloc ?_ (by first | omega | (simp <;> omega)) _) | (with_reducible refine Below.setCell ?_ (by first | omega | (simp <;> omega)) _)))); rintro e w3 ⟨rfl, hbw3⟩; have hz3 := hbw3.size; (try simp at hz3))
          | (at_builtin; refine wpList_append_any rfl _ _ _ rfl w2.heap.size 3 i0 _ 1 8 Try.underlying26 hi0 iz0 iz1 iz2 rfl (by omega) (.slice A4 j c4) j _ rfl (own_below (unhide HO) (show Below wr.heap.size wr _ from (by repeat (first | with_reducible exact Below.refl _ _ | with_reducible assumption | (with_reducible refine Below.trans ?_ (Below.mono (by assumption) (by first | omega | (simp <;> omega)))) | with_reducible apply Below.drew | with_reducible apply below_drewN | (with_reducible refine Below.alloc ?_ (by first | omega | (simp <;> omega)) _) | (with_reducible refine Below.setCell ?_ (by first | omega | (simp <;> omega)) _))))) _ 1 [.int .i64 (z : Int)] rfl (zlies_one (by simp [go_sem, *])) rfl (zone_cell rfl) (Nat.le_trans (by omega) maxLen_ge) (by omega) (by first | omega | (simp <;> omega)) (j + 1) rfl ?_; intro A5 c5 w5 hown5 hgrow5))
        rw [← HSN.out] at hown5
        have hb := unhide HB
        have hbz : Below w2.heap.size w2 w5 := Below.grown (hb.trans ((show Below wr.heap.size wr _ from (by repeat (first | with_reducible exact Below.refl _ _ | with_reducible assumption | (with_reducible refine Below.trans ?_ (Below.mono (by assumption) (by first | omega | (simp <;> omega)))) | with_reducible apply Below.drew | with_reducible apply below_drewN | (with_reducible refine Below.alloc ?_ (by first | omega | (simp <;> omega)) _) | (with_reducible refine Below.setCell ?_ (by first | omega | (simp <;> omega)) _)))).mono hb.size)) hgrow5 (by first | omega | (simp <;> omega)) (unhide HVB)
        have HO5 := hide hown5; have HBZ := hide hbz
        clear hown5 hbz hgrow5 hb
        go_wp2_with fail
        go_roundw
        case rel => exact ⟨j + 1, A5, c5, by go_num, rfl, by omega, unhide HO5, unhide HBZ⟩
        case measure => (simp [intOf] <;> omega)
      · obtain rfl : j = N := by omega
        have HO := hide hown
        have HB := hide hbwr
        clear hown hbwr
        go_wp2
        go_ret2
        exact ⟨⟨A4, c4, by rw [HLK.out] <;> rfl, by rw [HLK.out]; exact (unhide HO).mono hzA⟩, (unhide HBA).trans ((unhide HB).mono hzA)⟩
end Go.Proofs.Ythccdooacbablab

/-
  Chapter 2: ValueAt of the program and of the model.
-/
import Derived.Test.YthccdooacbablabVq
import Derived.Test.YthccdooacbablabOm
import Derived.Deep.DeepCutAuto
namespace Go.Proofs.Ythccdooacbablab
open Go.RowKit Rm

/-- The value of a map at a fraction, if both are valid. -/
def valO (ps : List Pt) (a b : Int) : Option Rat :=
  match uB a b, mapB ps with
  | true, true => vAt (ps.map fun p => (Rat.divInt p.1.1 p.1.2, Rat.divInt p.2.1 p.2.2)) (Rat.divInt a b)
  | _, _ => none
theorem valO_eq {qs : List QP} (hg : GMap qs) {x : Rat} (h : uB x.num x.den = true) : valO (qs.map qp) x.num x.den = vAt qs x := by
  have e : (qs.map qp).map (fun p => (Rat.divInt p.1.1 p.1.2, Rat.divInt p.2.1 p.2.2)) = qs := by
    rw [List.map_map]
    conv => rhs; rw [← List.map_id qs]
    refine List.map_congr_left fun q _ => ?_
    show (Rat.divInt q.1.num q.1.den, Rat.divInt q.2.num q.2.den) = q
    rw [Rat.num_divInt_den, Rat.num_divInt_den]
  unfold valO
  simp only [h, hg.mapB, e, Rat.num_divInt_den]
theorem valO_no {ps : List Pt} {a b : Int} (h : uB a b = false ∨ mapB ps = false) : valO ps a b = none := by
  unfold valO
  rcases h with h | h
  · simp [h]
  · simp [h]
/-- The first piece that has a fraction. -/
def Piece (qs : List QP) (x : Rat) (i : Nat) : Prop := i + 1 < qs.length ∧ (∀ j, j < i → (qAt qs (j + 1)).1 < x) ∧ (i + 2 < qs.length → ¬ (qAt qs (i + 1)).1 < x)
theorem Piece.val {qs : List QP} {x : Rat} {i : Nat} (h : Piece qs x i) : vAt qs x = onR (qAt qs i) (qAt qs (i + 1)) x := vAt_eq h.1 h.2.1 h.2.2
theorem upto_step {qs : List QP} {x : Rat} {k : Nat} (h : ∀ j, j < k → (qAt qs (j + 1)).1 < x) (hk : (qAt qs (k + 1)).1 < x) : ∀ j, j < k + 1 → (qAt qs (j + 1)).1 < x := by
  intro j hj
  rcases Nat.lt_or_eq_of_le (Nat.le_of_lt_succ hj) with h1 | rfl
  · exact h j h1
  · exact hk

set_option maxRecDepth 100000 in
set_option maxHeartbeats 1600000 in
theorem firstPiece_any (g n c base : Nat) (qs : List QP) (x : Rat) (w : World) (ha : w.ownsRow base 45 4 (.slice (some ⟨g, 0, none⟩) n c) n (ptcs (qs.map qp))) (hg : GMap qs) (hxf : fits x = true) (hx1 : x ≤ 1) :
    Calls Try.prog 60 #[.slice (some ⟨g, 0, none⟩) n c, .agg #[.int .i64 (x.num), .int .i64 (x.den)]] w fun e w' => ∃ i : Nat, e = .returned (.int .i64 i) ∧ PieceS qs x i ∧ Below w.heap.size w w' := by
  have hlen : qs.length = n := by have := own_len ha; rw [List.length_map] at this; exact this
  have hlo := hg.lo
  have hhi := hg.hi
  rw [hlen] at hlo hhi
  obtain ⟨g', cap, hv, _, hgl⟩ := ha.form (by omega)
  obtain rfl : g = g' := by injection hv with h1; exact (Addr.mk.inj (Option.some.inj h1)).1
  obtain ⟨xn, hxn⟩ : ∃ r, r = x.num := ⟨_, rfl⟩
  obtain ⟨xd, hxd⟩ : ∃ r, r = (x.den : Int) := ⟨_, rfl⟩
  rw [← hxn, ← hxd]
  have HX := Lib.hid (And.intro hxn hxd); clear hxn hxd
  have HX1 := Lib.hid hx1; clear hx1
  have HA := hide ha; clear ha hv
  have HL := Lib.hid hlen; clear hlen
  go_enter Try.func60, Try.ntmps60
  go_wp2_with fail
  have cx0 : (w.alloc (.cells #[.int .i64 xn, .int .i64 xd] 31)).cell? ⟨w.heap.size, 0, none⟩ = some (.int .i64 xn) := by simp [go_sem]
  have cx1 : (w.alloc (.cells #[.int .i64 xn, .int .i64 xd] 31)).cell? ⟨w.heap.size, 1, none⟩ = some (.int .i64 xd) := by simp [go_sem]
  have hgA : g < (w.alloc (.cells #[.int .i64 xn, .int .i64 xd] 31)).heap.size := by simp; omega
  have hwA : w.heap.size < (w.alloc (.cells #[.int .i64 xn, .int .i64 xd] 31)).heap.size := by simp
  have hbA : Below w.heap.size w (w.alloc (.cells #[.int .i64 xn, .int .i64 xd] 31)) := (by repeat (first | with_reducible exact Below.refl _ _ | with_reducible assumption | (with_reducible refine Below.trans ?_ (Below.mono (by assumption) (by first | omega | (simp <;> omega)))) | with_reducible apply Below.drew | with_reducible apply below_drewN | (with_reducible refine Below.alloc ?_ (by first | omega | (simp <;> omega)) _) | (with_reducible refine Below.setCell ?_ (by first | omega | (simp <;> omega)) _)))
  generalize w.alloc (.cells #[.int .i64 xn, .int .i64 xd] 31) = w2 at *
  have HA2 := hide (own_below (unhide HA) hbA)
  have hzA := hbA.size
  have HBA := hide hbA
  clear hbA
  go_loopw [5] (fun i wr => ∃ k : Nat, i = .int .i64 k ∧ k + 1 < n ∧ Hid (∀ j, j < k → (qAt qs (j + 1)).1 < x) ∧ Below w2.heap.size w2 wr) (fun i _ => n - (intOf i).toNat)
  case atStart => exact ⟨0, rfl, by omega, hide (fun j hj => absurd hj (by omega)), Below.refl _ _⟩
  case round =>
    obtain ⟨k, rfl, hk, hup, hbwr⟩ := hrel
    (skip; (try ((have kwrgX0 := (bnew hbwr) (g) ?pf); (case pf => (first | omega | (simp; done) | (simp; omega))); obtain ⟨kcwrgX0, kfwrgX0, klwrgX0⟩ := kwrgX0)); (try ((have kwrw0 := (bnew hbwr) (w.heap.size) ?pf); (case pf => (first | omega | (simp; done) | (simp; omega))); obtain ⟨kcwrw0, kfwrw0, klwrw0⟩ := kwrw0)))
    have hk1 : k + 1 < qs.length := by rw [HL.out]; exact hk
    have hzwr := hbwr.size
    obtain ⟨j0, j1, j2, j3⟩ := q_cells (own_below (unhide HA2) hbwr) (k := k + 1) hk
    have cxr0 := (kcwrw0 0).trans cx0
    have cxr1 := (kcwrw0 1).trans cx1
    have hord := fun W => orderOf_q (qAt qs (k + 1)).1 x (co_fits (hg.cx _ hk1)) hxf W
    rw [← HX.out.1, ← HX.out.2] at hord
    have s1 : IntKind.i64.wrap ((k : Int) + 1) = (k : Int) + 1 := IntWalk.i64_in _ (by omega)
    have s2 : (0 : Int) ≤ (k : Int) + 1 := by omega
    have s3 : (k : Int) + 1 < (n : Int) := by omega
    have s5 : ((k : Int) + 1).toNat = k + 1 := by omega
    have HBW := hide hbwr
    clear hbwr kcwrgX0 kfwrgX0 kcwrw0 kfwrw0 cx0 cx1
    by_cases hc : (qAt qs (k + 1)).1 < x
    · have h2 : k + 1 + 1 < n := by
        have hlast := hg.last
        have hx1 := HX1.out
        rcases Nat.lt_or_ge (k + 1 + 1) n with h | h
        · exact h
        · rw [HL.out, show n - 1 = k + 1 by omega] at hlast
          rw [hlast] at hc
          grind
      have hup' := hide (upto_step (unhide hup) hc)
      rw [show cq (qAt qs (k + 1)).1 x = -1 from if_pos hc] at hord
      have HO := hide hord
      clear hord hc hup
      generalize (qAt qs (k + 1)).1.num = e1 at *
      generalize ((qAt qs (k + 1)).1.den : Int) = e2 at *
      go_upto_region 2 with fail
      go_cut [14] (fun s14 wx => s14 = .bool true ∧ Below wr.heap.size wr wx)
      case first =>
        go_region_held3 (fun w' => w'.cell? ⟨g, (k + 1) * 4, none⟩ = some (.int .i64 e1) ∧ w'.cell? ⟨g, (k + 1) * 4 + 1, none⟩ = some (.int .i64 e2) ∧ w'.cell? ⟨w.heap.size, 0, none⟩ = some (.int .i64 xn) ∧ w'.cell? ⟨w.heap.size, 1, none⟩ = some (.int .i64 xd)) (simp [go_sem, *])
          ((go_at_call 35; (with_reducible refine ((unhide HO) _).mono ?_); rintro e w3 ⟨rfl, hbw3⟩; obtain ⟨hcw3, hfw3⟩ := bcell hbw3; have hzw3 := hbw3.size; (try simp at hzw3); (try ((have kw3gX0 := (bnew hbw3) (g) ?pf); (case pf => (first | omega | (simp; done) | (simp; omega))); obtain ⟨kcw3gX0, kfw3gX0, klw3gX0⟩ := kw3gX0)); (try ((have kw3w0 := (bnew hbw3) (w.heap.size) ?pf); (case pf => (first | omega | (simp; done) | (simp; omega))); obtain ⟨kcw3w0, kfw3w0, klw3w0⟩ := kw3w0))))
        all_goals
          go_wp2_with fail
          go_meet
          exact ⟨rfl, (by repeat (first | with_reducible exact Below.refl _ _ | with_reducible assumption | (with_reducible refine Below.trans ?_ (Below.mono (by assumption) (by first | omega | (simp <;> omega)))) | with_reducible apply Below.drew | with_reducible apply below_drewN | (with_reducible refine Below.alloc ?_ (by first | omega | (simp <;> omega)) _) | (with_reducible refine Below.setCell ?_ (by first | omega | (simp <;> omega)) _)))⟩
      case rest =>
        obtain ⟨rfl, hbx⟩ := hcut
        have hb := unhide HBW
        go_wp2_with fail
        go_roundw
        case rel => exact ⟨k + 1, by go_num, h2, hup', (by repeat (first | with_reducible exact Below.refl _ _ | with_reducible assumption | (with_reducible refine Below.trans ?_ (Below.mono (by assumption) (by first | omega | (simp <;> omega)))) | with_reducible apply Below.drew | with_reducible apply below_drewN | (with_reducible refine Below.alloc ?_ (by first | omega | (simp <;> omega)) _) | (with_reducible refine Below.setCell ?_ (by first | omega | (simp <;> omega)) _)))⟩
        case measure => simp [intOf]; omega
    · have hpc : PieceS qs x k := ⟨hk1, unhide hup, hc⟩
      have hge : ¬ cq (qAt qs (k + 1)).1 x < 0 := fun h => hc (cq_lt.1 h)
      obtain ⟨z, hz⟩ : ∃ z, z = cq (qAt qs (k + 1)).1 x := ⟨_, rfl⟩
      rw [← hz] at hge hord
      have hz0 : decide (z < 0) = false := decide_eq_false hge
      have HO := hide hord
      have HP := hide hpc
      clear hord hc hup hz hge hpc
      generalize (qAt qs (k + 1)).1.num = e1 at *
      generalize ((qAt qs (k + 1)).1.den : Int) = e2 at *
      go_upto_region 2 with fail
      go_cut [14] (fun s14 wx => s14 = .bool false ∧ Below wr.heap.size wr wx)
      case first =>
        go_region_held3 (fun w' => w'.cell? ⟨g, (k + 1) * 4, none⟩ = some (.int .i64 e1) ∧ w'.cell? ⟨g, (k + 1) * 4 + 1, none⟩ = some (.int .i64 e2) ∧ w'.cell? ⟨w.heap.size, 0, none⟩ = some (.int .i64 xn) ∧ w'.cell? ⟨w.heap.size, 1, none⟩ = some (.int .i64 xd)) (simp [go_sem, *])
          ((go_at_call 35; (with_reducible refine ((unhide HO) _).mono ?_); rintro e w3 ⟨rfl, hbw3⟩; obtain ⟨hcw3, hfw3⟩ := bcell hbw3; have hzw3 := hbw3.size; (try simp at hzw3); (try ((have kw3gX0 := (bnew hbw3) (g) ?pf); (case pf => (first | omega | (simp; done) | (simp; omega))); obtain ⟨kcw3gX0, kfw3gX0, klw3gX0⟩ := kw3gX0)); (try ((have kw3w0 := (bnew hbw3) (w.heap.size) ?pf); (case pf => (first | omega | (simp; done) | (simp; omega))); obtain ⟨kcw3w0, kfw3w0, klw3w0⟩ := kw3w0))))
        all_goals
          go_wp2_with fail
          go_meet
          exact ⟨rfl, (by repeat (first | with_reducible exact Below.refl _ _ | with_reducible assumption | (with_reducible refine Below.trans ?_ (Below.mono (by assumption) (by first | omega | (simp <;> omega)))) | with_reducible apply Below.drew | with_reducible apply below_drewN | (with_reducible refine Below.alloc ?_ (by first | omega | (simp <;> omega)) _) | (with_reducible refine Below.setCell ?_ (by first | omega | (simp <;> omega)) _)))⟩
      case rest =>
        obtain ⟨rfl, hbx⟩ := hcut
        have hb := unhide HBW
        have hbA := unhide HBA
        go_wp2_with fail
        go_ret
        exact ⟨k, rfl, unhide HP, (by repeat (first | with_reducible exact Below.refl _ _ | with_reducible assumption | (with_reducible refine Below.trans ?_ (Below.mono (by assumption) (by first | omega | (simp <;> omega)))) | with_reducible apply Below.drew | with_reducible apply below_drewN | (with_reducible refine Below.alloc ?_ (by first | omega | (simp <;> omega)) _) | (with_reducible refine Below.setCell ?_ (by first | omega | (simp <;> omega)) _)))⟩

set_option maxRecDepth 100000 in
set_option maxHeartbeats 1600000 in
theorem iValueAt_any (A : Option Addr) (n c base : Nat) (ps : List Pt) (a b : Int) (w : World) (ha : w.ownsRow base 45 4 (.slice A n c) n (ptcs ps)) (hn : n ≤ 1048576) :
    Calls Try.prog 56 #[.slice A n c, .agg #[.int .i64 (a), .int .i64 (b)]] w fun e w' => e = .returned (.tuple #[.agg #[.int .i64 (oN (valO ps a b)), .int .i64 (oD (valO ps a b))], .bool (valO ps a b).isSome]) ∧ Below w.heap.size w w' := by
  have hmap := fun W hW => isMap_any A n c base ps W hW hn
  rcases hm : mapB ps with _ | _
  · rw [valO_no (.inr hm)]
    simp only [oN_none, oD_none, Option.isSome_none]
    rw [hm] at hmap
    have HM := hide hmap; clear hmap hm
    have HA := hide ha; clear ha
    go_enter Try.func56, Try.ntmps56
    go_wp2_with (go_at_call 46; (with_reducible refine ((unhide HM) _ (own_below (unhide HA) ?pb)).mono ?_); (case pb => exact (by repeat (first | with_reducible exact Below.refl _ _ | with_reducible assumption | (with_reducible refine Below.trans ?_ (Below.mono (by assumption) (by first | omega | (simp <;> omega)))) | with_reducible apply Below.drew | with_reducible apply below_drewN | (with_reducible refine Below.alloc ?_ (by first | omega | (simp <;> omega)) _) | (with_reducible refine Below.setCell ?_ (by first | omega | (simp <;> omega)) _)))); rintro e w1 ⟨rfl, hbw1⟩; (skip; (try ((have kw1w0 := (bnew hbw1) (w.heap.size) ?pf); (case pf => (first | omega | (simp; done) | (simp; omega))); obtain ⟨kcw1w0, kfw1w0, klw1w0⟩ := kw1w0)); (try ((have kw1w1 := (bnew hbw1) (w.heap.size + 1) ?pf); (case pf => (first | omega | (simp; done) | (simp; omega))); obtain ⟨kcw1w1, kfw1w1, klw1w1⟩ := kw1w1))))
    exact bodyPost_ret (v := .tuple #[.agg #[.int .i64 (0), .int .i64 (0)], .bool false]) (by simp [results, Try.results56, go_sem, *]) rfl ⟨rfl, (by repeat (first | with_reducible exact Below.refl _ _ | with_reducible assumption | (with_reducible refine Below.trans ?_ (Below.mono (by assumption) (by first | omega | (simp <;> omega)))) | with_reducible apply Below.drew | with_reducible apply below_drewN | (with_reducible refine Below.alloc ?_ (by first | omega | (simp <;> omega)) _) | (with_reducible refine Below.setCell ?_ (by first | omega | (simp <;> omega)) _)))⟩
  · rcases hu : uB a b with _ | _
    · rw [valO_no (.inl hu)]
      simp only [oN_none, oD_none, Option.isSome_none]
      rw [hm] at hmap
      have hun := fun W => isUnit_any a b W
      rw [hu] at hun
      have HU := hide hun; clear hun
      have HM := hide hmap; clear hmap hm hu
      have HA := hide ha; clear ha
      go_enter Try.func56, Try.ntmps56
      go_wp2_with (first | (go_at_call 46; (with_reducible refine ((unhide HM) _ (own_below (unhide HA) ?pb)).mono ?_); (case pb => exact (by repeat (first | with_reducible exact Below.refl _ _ | with_reducible assumption | (with_reducible refine Below.trans ?_ (Below.mono (by assumption) (by first | omega | (simp <;> omega)))) | with_reducible apply Below.drew | with_reducible apply below_drewN | (with_reducible refine Below.alloc ?_ (by first | omega | (simp <;> omega)) _) | (with_reducible refine Below.setCell ?_ (by first | omega | (simp <;> omega)) _)))); rintro e w1 ⟨rfl, hbw1⟩; (skip; (try ((have kw1w0 := (bnew hbw1) (w.heap.size) ?pf); (case pf => (first | omega | (simp; done) | (simp; omega))); obtain ⟨kcw1w0, kfw1w0, klw1w0⟩ := kw1w0)); (try ((have kw1w1 := (bnew hbw1) (w.heap.size + 1) ?pf); (case pf => (first | omega | (simp; done) | (simp; omega))); obtain ⟨kcw1w1, kfw1w1, klw1w1⟩ := kw1w1)))) | (go_at_call 55; (with_reducible refine ((unhide HU) _).mono ?_); rintro e w2 ⟨rfl, hbw2⟩; obtain ⟨hcw2, hfw2⟩ := bcell hbw2; have hzw2 := hbw2.size; (try simp at hzw2); (try ((have kw2w0 := (bnew hbw2) (w.heap.size) ?pf); (case pf => (first | omega | (simp; done) | (simp; omega))); obtain ⟨kcw2w0, kfw2w0, klw2w0⟩ := kw2w0)); (try ((have kw2w1 := (bnew hbw2) (w.heap.size + 1) ?pf); (case pf => (first | omega | (simp; done) | (simp; omega))); obtain ⟨kcw2w1, kfw2w1, klw2w1⟩ := kw2w1))))
      exact bodyPost_ret (v := .tuple #[.agg #[.int .i64 (0), .int .i64 (0)], .bool false]) (by simp [results, Try.results56, go_sem, *]) rfl ⟨rfl, (by repeat (first | with_reducible exact Below.refl _ _ | with_reducible assumption | (with_reducible refine Below.trans ?_ (Below.mono (by assumption) (by first | omega | (simp <;> omega)))) | with_reducible apply Below.drew | with_reducible apply below_drewN | (with_reducible refine Below.alloc ?_ (by first | omega | (simp <;> omega)) _) | (with_reducible refine Below.setCell ?_ (by first | omega | (simp <;> omega)) _)))⟩
    · obtain ⟨qs, rfl, hg⟩ := gmap_of hm
      obtain ⟨x, rfl, rfl, hxf, hx0, hx1⟩ := uB_rat hu
      rw [valO_eq hg hu]
      rw [hm] at hmap
      have hun := fun W => isUnit_any x.num x.den W
      rw [hu] at hun
      have hlen : qs.length = n := by have := own_len ha; rw [List.length_map] at this; exact this
      obtain ⟨g, cap, hv, _, hgl⟩ := ha.form (by have := hg.lo; omega)
      have hA : A = some ⟨g, 0, none⟩ ∧ c = cap := by injection hv with h1 _ h2; exact ⟨h1, h2⟩
      obtain ⟨rfl, rfl⟩ := hA
      have hpc := fun W hW => firstPiece_any g n c base qs x W hW hg hxf hx1
      obtain ⟨res, hres⟩ : ∃ r, r = vAt qs x := ⟨_, rfl⟩
      rw [← hres]
      obtain ⟨xn, hxn⟩ : ∃ r, r = x.num := ⟨_, rfl⟩
      obtain ⟨xd, hxd⟩ : ∃ r, r = (x.den : Int) := ⟨_, rfl⟩
      rw [← hxn, ← hxd] at hun hpc ⊢
      have HX := Lib.hid (And.intro hxn hxd); clear hxn hxd
      have HR := Lib.hid hres; clear hres
      have HU := hide hun; clear hun
      have HM := hide hmap; clear hmap hm hu
      have HPC := hide hpc; clear hpc
      have HA := hide ha; clear ha hv
      have HL := Lib.hid hlen; clear hlen
      have hlo := hg.lo
      rw [HL.out] at hlo
      go_enter Try.func56, Try.ntmps56
      go_wp2_with (first | (go_at_call 46; (with_reducible refine ((unhide HM) _ (own_below (unhide HA) ?pb)).mono ?_); (case pb => exact (by repeat (first | with_reducible exact Below.refl _ _ | with_reducible assumption | (with_reducible refine Below.trans ?_ (Below.mono (by assumption) (by first | omega | (simp <;> omega)))) | with_reducible apply Below.drew | with_reducible apply below_drewN | (with_reducible refine Below.alloc ?_ (by first | omega | (simp <;> omega)) _) | (with_reducible refine Below.setCell ?_ (by first | omega | (simp <;> omega)) _)))); rintro e w1 ⟨rfl, hbw1⟩; (skip; (try ((have kw1w0 := (bnew hbw1) (w.heap.size) ?pf); (case pf => (first | omega | (simp; done) | (simp; omega))); obtain ⟨kcw1w0, kfw1w0, klw1w0⟩ := kw1w0)); (try ((have kw1w1 := (bnew hbw1) (w.heap.size + 1) ?pf); (case pf => (first | omega | (simp; done) | (simp; omega))); obtain ⟨kcw1w1, kfw1w1, klw1w1⟩ := kw1w1)))) | (go_at_call 55; (with_reducible refine ((unhide HU) _).mono ?_); rintro e w2 ⟨rfl, hbw2⟩; obtain ⟨hcw2, hfw2⟩ := bcell hbw2; have hzw2 := hbw2.size; (try simp at hzw2); (try ((have kw2w0 := (bnew hbw2) (w.heap.size) ?pf); (case pf => (first | omega | (simp; done) | (simp; omega))); obtain ⟨kcw2w0, kfw2w0, klw2w0⟩ := kw2w0)); (try ((have kw2w1 := (bnew hbw2) (w.heap.size + 1) ?pf); (case pf => (first | omega | (simp; done) | (simp; omega))); obtain ⟨kcw2w1, kfw2w1, klw2w1⟩ := kw2w1)); (try ((have kw2gX0 := (bnew hbw2) (g) ?pf); (case pf => (first | omega | (simp; done) | (simp; omega))); obtain ⟨kcw2gX0, kfw2gX0, klw2gX0⟩ := kw2gX0))))
      have cx0 : w2.cell? ⟨w.heap.size, 0, none⟩ = some (.int .i64 xn) := by rw [kcw2w0, kcw1w0]; simp [go_sem]
      have cx1 : w2.cell? ⟨w.heap.size, 1, none⟩ = some (.int .i64 xd) := by rw [kcw2w0, kcw1w0]; simp [go_sem]
      have cr0 : w2.cell? ⟨w.heap.size + 1, 0, none⟩ = some (.int .i64 0) := by rw [kcw2w1, kcw1w1]; simp [go_sem]
      have cr1 : w2.cell? ⟨w.heap.size + 1, 1, none⟩ = some (.int .i64 0) := by rw [kcw2w1, kcw1w1]; simp [go_sem]
      have fr0 : ∀ o, w2.frozen? ⟨w.heap.size + 1, o, none⟩ = false := fun o => by rw [kfw2w1, kfw1w1]; simp [go_sem]
      have hbA : Below w.heap.size w w2 := (by repeat (first | with_reducible exact Below.refl _ _ | with_reducible assumption | (with_reducible refine Below.trans ?_ (Below.mono (by assumption) (by first | omega | (simp <;> omega)))) | with_reducible apply Below.drew | with_reducible apply below_drewN | (with_reducible refine Below.alloc ?_ (by first | omega | (simp <;> omega)) _) | (with_reducible refine Below.setCell ?_ (by first | omega | (simp <;> omega)) _)))
      have hzA := hbA.size
      clear hbw1 hcw2 hfw2 hzw2 kcw1w0 kfw1w0 klw1w0 kcw1w1 kfw1w1 klw1w1 kcw2w0 kfw2w0 kcw2w1 kfw2w1 kcw2gX0 kfw2gX0
      refine ((unhide HPC) _ (own_below (unhide HA) hbA)).mono ?_
      rintro e w3 ⟨k, rfl, hp, hbw3⟩
      (skip; (try ((have kw3w0 := (bnew hbw3) (w.heap.size) ?pf); (case pf => (first | omega | (simp; done) | (simp; omega))); obtain ⟨kcw3w0, kfw3w0, klw3w0⟩ := kw3w0)); (try ((have kw3w1 := (bnew hbw3) (w.heap.size + 1) ?pf); (case pf => (first | omega | (simp; done) | (simp; omega))); obtain ⟨kcw3w1, kfw3w1, klw3w1⟩ := kw3w1)))
      have cxr0 := (kcw3w0 0).trans cx0
      have cxr1 := (kcw3w0 1).trans cx1
      have crr0 := (kcw3w1 0).trans cr0
      have crr1 := (kcw3w1 1).trans cr1
      have frr := fun o => (kfw3w1 o).trans (fr0 o)
      have hbB := hbA.trans (hbw3.mono hbA.size)
      have hgr : g < w3.heap.size := Nat.lt_of_lt_of_le hgl hbB.size
      have hzw3 := hbB.size
      have hk1 := hp.len
      have hk : k + 1 < n := by rw [HL.out] at hk1; exact hk1
      obtain ⟨k0, k1, k2, k3⟩ := q_cells (own_below (unhide HA) hbB) (k := k) (by omega)
      obtain ⟨j0, j1, j2, j3⟩ := q_cells (own_below (unhide HA) hbB) (k := k + 1) hk
      have hval := fun W => valueOnPiece_q (qAt qs k) (qAt qs (k + 1)) x hxf (hg.cx _ (by omega)) (hg.cy _ (by omega)) (hg.cx _ hk1) (hg.cy _ hk1) (hg.inc k hk1) W
      rw [← HX.out.1, ← HX.out.2, ← hp.val, ← HR.out] at hval
      have HV := hide hval
      have s1 : IntKind.i64.wrap ((k : Int) + 1) = (k : Int) + 1 := IntWalk.i64_in _ (by omega)
      have s2 : (0 : Int) ≤ (k : Int) + 1 := by omega
      have s3 : (k : Int) + 1 < (n : Int) := by omega
      have s4 : (k : Int) < (n : Int) := by omega
      have s5 : ((k : Int) + 1).toNat = k + 1 := by omega
      have HB := hide hbB
      clear hval hp hbw3 hbA hbB kcw3w0 kfw3w0 kcw3w1 kfw3w1 cx0 cx1 cr0 cr1 fr0
      generalize (qAt qs (k + 1)).1.num = e1 at *
      generalize ((qAt qs (k + 1)).1.den : Int) = e2 at *
      generalize (qAt qs (k + 1)).2.num = e3 at *
      generalize ((qAt qs (k + 1)).2.den : Int) = e4 at *
      generalize (qAt qs k).1.num = f1 at *
      generalize ((qAt qs k).1.den : Int) = f2 at *
      generalize (qAt qs k).2.num = f3 at *
      generalize ((qAt qs k).2.den : Int) = f4 at *
      go_upto_region 4 with fail
      go_region_held3 (fun w' => (w'.cell? ⟨g, (k + 1) * 4, none⟩ = some (.int .i64 e1) ∧ w'.cell? ⟨g, (k + 1) * 4 + 1, none⟩ = some (.int .i64 e2) ∧ w'.cell? ⟨g, (k + 1) * 4 + 2, none⟩ = some (.int .i64 e3) ∧ w'.cell? ⟨g, (k + 1) * 4 + 3, none⟩ = some (.int .i64 e4)) ∧
          (w'.cell? ⟨g, k * 4, none⟩ = some (.int .i64 f1) ∧ w'.cell? ⟨g, k * 4 + 1, none⟩ = some (.int .i64 f2) ∧ w'.cell? ⟨g, k * 4 + 2, none⟩ = some (.int .i64 f3) ∧ w'.cell? ⟨g, k * 4 + 3, none⟩ = some (.int .i64 f4)) ∧
          w'.cell? ⟨w.heap.size, 0, none⟩ = some (.int .i64 xn) ∧ w'.cell? ⟨w.heap.size, 1, none⟩ = some (.int .i64 xd)) (simp [go_sem, *])
        ((go_at_call 61; (with_reducible refine ((unhide HV) _).mono ?_); rintro e w4 ⟨rfl, hbw4⟩; obtain ⟨hcw4, hfw4⟩ := bcell hbw4; have hzw4 := hbw4.size; (try simp at hzw4); (try ((have kw4gX0 := (bnew hbw4) (g) ?pf); (case pf => (first | omega | (simp; done) | (simp; omega))); obtain ⟨kcw4gX0, kfw4gX0, klw4gX0⟩ := kw4gX0)); (try ((have kw4w0 := (bnew hbw4) (w.heap.size) ?pf); (case pf => (first | omega | (simp; done) | (simp; omega))); obtain ⟨kcw4w0, kfw4w0, klw4w0⟩ := kw4w0)); (try ((have kw4w1 := (bnew hbw4) (w.heap.size + 1) ?pf); (case pf => (first | omega | (simp; done) | (simp; omega))); obtain ⟨kcw4w1, kfw4w1, klw4w1⟩ := kw4w1))))
      all_goals
        go_wp2_with fail
        have hb' := unhide HB
        exact bodyPost_ret (v := .tuple #[.agg #[.int .i64 (oN res), .int .i64 (oD res)], .bool res.isSome]) (by simp [results, Try.results56, go_sem, *]) rfl ⟨rfl, (by repeat (first | with_reducible exact Below.refl _ _ | with_reducible assumption | (with_reducible refine Below.trans ?_ (Below.mono (by assumption) (by first | omega | (simp <;> omega)))) | with_reducible apply Below.drew | with_reducible apply below_drewN | (with_reducible refine Below.alloc ?_ (by first | omega | (simp <;> omega)) _) | (with_reducible refine Below.setCell ?_ (by first | omega | (simp <;> omega)) _)))⟩

set_option maxRecDepth 100000 in
set_option maxHeartbeats 1600000 in
theorem imPiece_any (g n c base : Nat) (qs : List QP) (x : Rat) (w : World) (ha : w.ownsRow base 45 4 (.slice (some ⟨g, 0, none⟩) n c) n (ptcs (qs.map qp))) (hg : GMap qs) (hxf : fits x = true) :
    Calls Try.prog 43 #[.slice (some ⟨g, 0, none⟩) n c, .agg #[.int .i64 (x.num), .int .i64 (x.den)]] w fun e w' => ∃ i : Nat, e = .returned (.int .i64 i) ∧ Piece qs x i ∧ Below w.heap.size w w' := by
  have hlen : qs.length = n := by have := own_len ha; rw [List.length_map] at this; exact this
  have hlo := hg.lo
  have hhi := hg.hi
  rw [hlen] at hlo hhi
  obtain ⟨g', cap, hv, _, hgl⟩ := ha.form (by omega)
  obtain rfl : g = g' := by injection hv with h1; exact (Addr.mk.inj (Option.some.inj h1)).1
  obtain ⟨xn, hxn⟩ : ∃ r, r = x.num := ⟨_, rfl⟩
  obtain ⟨xd, hxd⟩ : ∃ r, r = (x.den : Int) := ⟨_, rfl⟩
  rw [← hxn, ← hxd]
  have HX := Lib.hid (And.intro hxn hxd); clear hxn hxd
  have HA := hide ha; clear ha hv
  have HL := Lib.hid hlen; clear hlen
  go_enter Try.func43, Try.ntmps43
  go_wp2_with fail
  have cx0 : (w.alloc (.cells #[.int .i64 xn, .int .i64 xd] 31)).cell? ⟨w.heap.size, 0, none⟩ = some (.int .i64 xn) := by simp [go_sem]
  have cx1 : (w.alloc (.cells #[.int .i64 xn, .int .i64 xd] 31)).cell? ⟨w.heap.size, 1, none⟩ = some (.int .i64 xd) := by simp [go_sem]
  have hgA : g < (w.alloc (.cells #[.int .i64 xn, .int .i64 xd] 31)).heap.size := by simp; omega
  have hwA : w.heap.size < (w.alloc (.cells #[.int .i64 xn, .int .i64 xd] 31)).heap.size := by simp
  have hbA : Below w.heap.size w (w.alloc (.cells #[.int .i64 xn, .int .i64 xd] 31)) := (by repeat (first | with_reducible exact Below.refl _ _ | with_reducible assumption | (with_reducible refine Below.trans ?_ (Below.mono (by assumption) (by first | omega | (simp <;> omega)))) | with_reducible apply Below.drew | with_reducible apply below_drewN | (with_reducible refine Below.alloc ?_ (by first | omega | (simp <;> omega)) _) | (with_reducible refine Below.setCell ?_ (by first | omega | (simp <;> omega)) _)))
  generalize w.alloc (.cells #[.int .i64 xn, .int .i64 xd] 31) = w2 at *
  have HA2 := hide (own_below (unhide HA) hbA)
  have hzA := hbA.size
  have HBA := hide hbA
  clear hbA
  go_loopw [5] (fun i wr => ∃ k : Nat, i = .int .i64 k ∧ k + 1 < n ∧ Hid (∀ j, j < k → (qAt qs (j + 1)).1 < x) ∧ Below w2.heap.size w2 wr) (fun i _ => n - (intOf i).toNat)
  case atStart => exact ⟨0, rfl, by omega, hide (fun j hj => absurd hj (by omega)), Below.refl _ _⟩
  case round =>
    obtain ⟨k, rfl, hk, hup, hbwr⟩ := hrel
    (skip; (try ((have kwrgX0 := (bnew hbwr) (g) ?pf); (case pf => (first | omega | (simp; done) | (simp; omega))); obtain ⟨kcwrgX0, kfwrgX0, klwrgX0⟩ := kwrgX0)); (try ((have kwrw0 := (bnew hbwr) (w.heap.size) ?pf); (case pf => (first | omega | (simp; done) | (simp; omega))); obtain ⟨kcwrw0, kfwrw0, klwrw0⟩ := kwrw0)))
    have hk1 : k + 1 < qs.length := by rw [HL.out]; exact hk
    have hzwr := hbwr.size
    by_cases h2 : k + 2 < n
    · obtain ⟨j0, j1, j2, j3⟩ := q_cells (own_below (unhide HA2) hbwr) (k := k + 1) hk
      have cxr0 := (kcwrw0 0).trans cx0
      have cxr1 := (kcwrw0 1).trans cx1
      have hord := fun W => raCmp_q (qAt qs (k + 1)).1 x (co_fits (hg.cx _ hk1)) hxf W
      rw [← HX.out.1, ← HX.out.2] at hord
      have s1 : IntKind.i64.wrap ((k : Int) + 1) = (k : Int) + 1 := IntWalk.i64_in _ (by omega)
      have s1' : IntKind.i64.wrap ((k : Int) + 2) = (k : Int) + 2 := IntWalk.i64_in _ (by omega)
      have s2 : (0 : Int) ≤ (k : Int) + 1 := by omega
      have s3 : (k : Int) + 1 < (n : Int) := by omega
      have s4 : decide ((k : Int) + 2 < (n : Int)) = true := decide_eq_true (by omega)
      have s5 : ((k : Int) + 1).toNat = k + 1 := by omega
      have HBW := hide hbwr
      clear hbwr kcwrgX0 kfwrgX0 kcwrw0 kfwrw0 cx0 cx1
      by_cases hc : (qAt qs (k + 1)).1 < x
      · have hup' := hide (upto_step (unhide hup) hc)
        rw [show cq (qAt qs (k + 1)).1 x = -1 from if_pos hc] at hord
        have HO := hide hord
        clear hord hc hup
        generalize (qAt qs (k + 1)).1.num = e1 at *
        generalize ((qAt qs (k + 1)).1.den : Int) = e2 at *
        go_upto_region 2 with fail
        go_cut [21] (fun s21 wx => s21 = .bool true ∧ Below wr.heap.size wr wx)
        case first =>
          go_region_held3 (fun w' => w'.cell? ⟨g, (k + 1) * 4, none⟩ = some (.int .i64 e1) ∧ w'.cell? ⟨g, (k + 1) * 4 + 1, none⟩ = some (.int .i64 e2) ∧ w'.cell? ⟨w.heap.size, 0, none⟩ = some (.int .i64 xn) ∧ w'.cell? ⟨w.heap.size, 1, none⟩ = some (.int .i64 xd)) (simp [go_sem, *])
            ((go_at_call 30; (with_reducible refine ((unhide HO) _).mono ?_); rintro e w3 ⟨rfl, hbw3⟩; obtain ⟨hcw3, hfw3⟩ := bcell hbw3; have hzw3 := hbw3.size; (try simp at hzw3); (try ((have kw3gX0 := (bnew hbw3) (g) ?pf); (case pf => (first | omega | (simp; done) | (simp; omega))); obtain ⟨kcw3gX0, kfw3gX0, klw3gX0⟩ := kw3gX0)); (try ((have kw3w0 := (bnew hbw3) (w.heap.size) ?pf); (case pf => (first | omega | (simp; done) | (simp; omega))); obtain ⟨kcw3w0, kfw3w0, klw3w0⟩ := kw3w0))))
          all_goals
            go_wp2_with fail
            go_meet
            exact ⟨rfl, (by repeat (first | with_reducible exact Below.refl _ _ | with_reducible assumption | (with_reducible refine Below.trans ?_ (Below.mono (by assumption) (by first | omega | (simp <;> omega)))) | with_reducible apply Below.drew | with_reducible apply below_drewN | (with_reducible refine Below.alloc ?_ (by first | omega | (simp <;> omega)) _) | (with_reducible refine Below.setCell ?_ (by first | omega | (simp <;> omega)) _)))⟩
        case rest =>
          obtain ⟨rfl, hbx⟩ := hcut
          have hb := unhide HBW
          go_wp2_with fail
          go_roundw
          case rel => exact ⟨k + 1, by go_num, h2, hup', (by repeat (first | with_reducible exact Below.refl _ _ | with_reducible assumption | (with_reducible refine Below.trans ?_ (Below.mono (by assumption) (by first | omega | (simp <;> omega)))) | with_reducible apply Below.drew | with_reducible apply below_drewN | (with_reducible refine Below.alloc ?_ (by first | omega | (simp <;> omega)) _) | (with_reducible refine Below.setCell ?_ (by first | omega | (simp <;> omega)) _)))⟩
          case measure => simp [intOf]; omega
      · have hpc : Piece qs x k := ⟨hk1, unhide hup, fun _ => hc⟩
        have hge : ¬ cq (qAt qs (k + 1)).1 x < 0 := fun h => hc (cq_lt.1 h)
        obtain ⟨z, hz⟩ : ∃ z, z = cq (qAt qs (k + 1)).1 x := ⟨_, rfl⟩
        rw [← hz] at hge hord
        have hz0 : decide (z < 0) = false := decide_eq_false hge
        have HO := hide hord
        have HP := hide hpc
        clear hord hc hup hz hge hpc
        generalize (qAt qs (k + 1)).1.num = e1 at *
        generalize ((qAt qs (k + 1)).1.den : Int) = e2 at *
        go_upto_region 2 with fail
        go_cut [21] (fun s21 wx => s21 = .bool false ∧ Below wr.heap.size wr wx)
        case first =>
          go_region_held3 (fun w' => w'.cell? ⟨g, (k + 1) * 4, none⟩ = some (.int .i64 e1) ∧ w'.cell? ⟨g, (k + 1) * 4 + 1, none⟩ = some (.int .i64 e2) ∧ w'.cell? ⟨w.heap.size, 0, none⟩ = some (.int .i64 xn) ∧ w'.cell? ⟨w.heap.size, 1, none⟩ = some (.int .i64 xd)) (simp [go_sem, *])
            ((go_at_call 30; (with_reducible refine ((unhide HO) _).mono ?_); rintro e w3 ⟨rfl, hbw3⟩; obtain ⟨hcw3, hfw3⟩ := bcell hbw3; have hzw3 := hbw3.size; (try simp at hzw3); (try ((have kw3gX0 := (bnew hbw3) (g) ?pf); (case pf => (first | omega | (simp; done) | (simp; omega))); obtain ⟨kcw3gX0, kfw3gX0, klw3gX0⟩ := kw3gX0)); (try ((have kw3w0 := (bnew hbw3) (w.heap.size) ?pf); (case pf => (first | omega | (simp; done) | (simp; omega))); obtain ⟨kcw3w0, kfw3w0, klw3w0⟩ := kw3w0))))
          all_goals
            go_wp2_with fail
            go_meet
            exact ⟨rfl, (by repeat (first | with_reducible exact Below.refl _ _ | with_reducible assumption | (with_reducible refine Below.trans ?_ (Below.mono (by assumption) (by first | omega | (simp <;> omega)))) | with_reducible apply Below.drew | with_reducible apply below_drewN | (with_reducible refine Below.alloc ?_ (by first | omega | (simp <;> omega)) _) | (with_reducible refine Below.setCell ?_ (by first | omega | (simp <;> omega)) _)))⟩
        case rest =>
          obtain ⟨rfl, hbx⟩ := hcut
          have hb := unhide HBW
          have hbA := unhide HBA
          go_wp2_with fail
          go_ret
          exact ⟨k, rfl, unhide HP, (by repeat (first | with_reducible exact Below.refl _ _ | with_reducible assumption | (with_reducible refine Below.trans ?_ (Below.mono (by assumption) (by first | omega | (simp <;> omega)))) | with_reducible apply Below.drew | with_reducible apply below_drewN | (with_reducible refine Below.alloc ?_ (by first | omega | (simp <;> omega)) _) | (with_reducible refine Below.setCell ?_ (by first | omega | (simp <;> omega)) _)))⟩
    · have hpc : Piece qs x k := ⟨hk1, unhide hup, fun h => absurd h (by rw [HL.out]; omega)⟩
      have HP := hide hpc
      have s1' : IntKind.i64.wrap ((k : Int) + 2) = (k : Int) + 2 := IntWalk.i64_in _ (by omega)
      have s4 : decide ((k : Int) + 2 < (n : Int)) = false := decide_eq_false (by omega)
      have HBW := hide hbwr
      clear hbwr kcwrgX0 kfwrgX0 kcwrw0 kfwrw0 cx0 cx1 hup hpc
      go_upto_region 2 with fail
      go_quiet (fail)
      go_wp2_with fail
      go_ret
      have hb := unhide HBW
      have hbA := unhide HBA
      exact ⟨k, rfl, unhide HP, (by repeat (first | with_reducible exact Below.refl _ _ | with_reducible assumption | (with_reducible refine Below.trans ?_ (Below.mono (by assumption) (by first | omega | (simp <;> omega)))) | with_reducible apply Below.drew | with_reducible apply below_drewN | (with_reducible refine Below.alloc ?_ (by first | omega | (simp <;> omega)) _) | (with_reducible refine Below.setCell ?_ (by first | omega | (simp <;> omega)) _)))⟩

set_option maxRecDepth 100000 in
set_option maxHeartbeats 1600000 in
theorem imAt_any (g n c base : Nat) (qs : List QP) (x : Rat) (w : World) (ha : w.ownsRow base 45 4 (.slice (some ⟨g, 0, none⟩) n c) n (ptcs (qs.map qp))) (hg : GMap qs) (hxf : fits x = true) :
    Calls Try.prog 28 #[.slice (some ⟨g, 0, none⟩) n c, .agg #[.int .i64 (x.num), .int .i64 (x.den)]] w fun e w' => e = .returned (.tuple #[.agg #[.int .i64 (oN (vAt qs x)), .int .i64 (oD (vAt qs x))], .bool (vAt qs x).isSome]) ∧ Below w.heap.size w w' := by
  have hlen : qs.length = n := by have := own_len ha; rw [List.length_map] at this; exact this
  have hlo := hg.lo
  have hhi := hg.hi
  rw [hlen] at hlo hhi
  obtain ⟨g', cap, hv, _, hgl⟩ := ha.form (by omega)
  obtain rfl : g = g' := by injection hv with h1; exact (Addr.mk.inj (Option.some.inj h1)).1
  have hpc := fun W hW => imPiece_any g n c base qs x W hW hg hxf
  obtain ⟨res, hres⟩ : ∃ r, r = vAt qs x := ⟨_, rfl⟩
  rw [← hres]
  obtain ⟨xn, hxn⟩ : ∃ r, r = x.num := ⟨_, rfl⟩
  obtain ⟨xd, hxd⟩ : ∃ r, r = (x.den : Int) := ⟨_, rfl⟩
  rw [← hxn, ← hxd] at hpc ⊢
  have HX := Lib.hid (And.intro hxn hxd); clear hxn hxd
  have HR := Lib.hid hres; clear hres
  have HPC := hide hpc; clear hpc
  have HA := hide ha; clear ha hv
  have HL := Lib.hid hlen; clear hlen
  go_enter Try.func28, Try.ntmps28
  go_wp2_with fail
  have hbA : Below w.heap.size w ((w.alloc (.cells #[.int .i64 xn, .int .i64 xd] 31)).alloc (.cells #[.int .i64 0, .int .i64 0] 31)) := (by repeat (first | with_reducible exact Below.refl _ _ | with_reducible assumption | (with_reducible refine Below.trans ?_ (Below.mono (by assumption) (by first | omega | (simp <;> omega)))) | with_reducible apply Below.drew | with_reducible apply below_drewN | (with_reducible refine Below.alloc ?_ (by first | omega | (simp <;> omega)) _) | (with_reducible refine Below.setCell ?_ (by first | omega | (simp <;> omega)) _)))
  refine ((unhide HPC) _ (own_below (unhide HA) hbA)).mono ?_
  rintro e w1 ⟨k, rfl, hp, hbw1⟩
  (skip; (try ((have kw1w0 := (bnew hbw1) (w.heap.size) ?pf); (case pf => (first | omega | (simp; done) | (simp; omega))); obtain ⟨kcw1w0, kfw1w0, klw1w0⟩ := kw1w0)); (try ((have kw1w1 := (bnew hbw1) (w.heap.size + 1) ?pf); (case pf => (first | omega | (simp; done) | (simp; omega))); obtain ⟨kcw1w1, kfw1w1, klw1w1⟩ := kw1w1)))
  have hbB := hbA.trans (hbw1.mono hbA.size)
  have hgr : g < w1.heap.size := Nat.lt_of_lt_of_le hgl hbB.size
  have hzw1 := hbB.size
  have hk1 := hp.1
  have hk : k + 1 < n := by rw [HL.out] at hk1; exact hk1
  obtain ⟨k0, k1, k2, k3⟩ := q_cells (own_below (unhide HA) hbB) (k := k) (by omega)
  obtain ⟨j0, j1, j2, j3⟩ := q_cells (own_below (unhide HA) hbB) (k := k + 1) hk
  have hval := fun W => imOn_q (qAt qs k) (qAt qs (k + 1)) x hxf (hg.cx _ (by omega)) (hg.cy _ (by omega)) (hg.cx _ hk1) (hg.cy _ hk1) (hg.inc k hk1) W
  rw [← HX.out.1, ← HX.out.2, ← hp.val, ← HR.out] at hval
  have HV := hide hval
  have s1 : IntKind.i64.wrap ((k : Int) + 1) = (k : Int) + 1 := IntWalk.i64_in _ (by omega)
  have s2 : (0 : Int) ≤ (k : Int) + 1 := by omega
  have s3 : (k : Int) + 1 < (n : Int) := by omega
  have s4 : (k : Int) < (n : Int) := by omega
  have s5 : ((k : Int) + 1).toNat = k + 1 := by omega
  have HB := hide hbB
  clear hval hp hbw1 hbA hbB
  generalize (qAt qs (k + 1)).1.num = e1 at *
  generalize ((qAt qs (k + 1)).1.den : Int) = e2 at *
  generalize (qAt qs (k + 1)).2.num = e3 at *
  generalize ((qAt qs (k + 1)).2.den : Int) = e4 at *
  generalize (qAt qs k).1.num = f1 at *
  generalize ((qAt qs k).1.den : Int) = f2 at *
  generalize (qAt qs k).2.num = f3 at *
  generalize ((qAt qs k).2.den : Int) = f4 at *
  go_upto_region 2 with fail
  go_region_held3 (fun w' => (w'.cell? ⟨g, (k + 1) * 4, none⟩ = some (.int .i64 e1) ∧ w'.cell? ⟨g, (k + 1) * 4 + 1, none⟩ = some (.int .i64 e2) ∧ w'.cell? ⟨g, (k + 1) * 4 + 2, none⟩ = some (.int .i64 e3) ∧ w'.cell? ⟨g, (k + 1) * 4 + 3, none⟩ = some (.int .i64 e4)) ∧
      (w'.cell? ⟨g, k * 4, none⟩ = some (.int .i64 f1) ∧ w'.cell? ⟨g, k * 4 + 1, none⟩ = some (.int .i64 f2) ∧ w'.cell? ⟨g, k * 4 + 2, none⟩ = some (.int .i64 f3) ∧ w'.cell? ⟨g, k * 4 + 3, none⟩ = some (.int .i64 f4)) ∧
      w'.cell? ⟨w.heap.size, 0, none⟩ = some (.int .i64 xn) ∧ w'.cell? ⟨w.heap.size, 1, none⟩ = some (.int .i64 xd)) (simp [go_sem, *])
    ((go_at_call 44; (with_reducible refine ((unhide HV) _).mono ?_); rintro e w4 ⟨rfl, hbw4⟩; obtain ⟨hcw4, hfw4⟩ := bcell hbw4; have hzw4 := hbw4.size; (try simp at hzw4); (try ((have kw4gX0 := (bnew hbw4) (g) ?pf); (case pf => (first | omega | (simp; done) | (simp; omega))); obtain ⟨kcw4gX0, kfw4gX0, klw4gX0⟩ := kw4gX0)); (try ((have kw4w0 := (bnew hbw4) (w.heap.size) ?pf); (case pf => (first | omega | (simp; done) | (simp; omega))); obtain ⟨kcw4w0, kfw4w0, klw4w0⟩ := kw4w0)); (try ((have kw4w1 := (bnew hbw4) (w.heap.size + 1) ?pf); (case pf => (first | omega | (simp; done) | (simp; omega))); obtain ⟨kcw4w1, kfw4w1, klw4w1⟩ := kw4w1))))
  all_goals
    go_wp2_with fail
    have hb' := unhide HB
    exact bodyPost_ret (v := .tuple #[.agg #[.int .i64 (oN res), .int .i64 (oD res)], .bool res.isSome]) (by simp [results, Try.results28, go_sem, *]) rfl ⟨rfl, (by repeat (first | with_reducible exact Below.refl _ _ | with_reducible assumption | (with_reducible refine Below.trans ?_ (Below.mono (by assumption) (by first | omega | (simp <;> omega)))) | with_reducible apply Below.drew | with_reducible apply below_drewN | (with_reducible refine Below.alloc ?_ (by first | omega | (simp <;> omega)) _) | (with_reducible refine Below.setCell ?_ (by first | omega | (simp <;> omega)) _)))⟩

end Go.Proofs.Ythccdooacbablab

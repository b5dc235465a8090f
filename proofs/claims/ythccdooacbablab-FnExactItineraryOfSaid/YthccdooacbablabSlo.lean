/-
  Chapter 2: SlopesOf of the program and of the model.
-/
import Derived.Test.YthccdooacbablabVa
import Derived.Deep.AppendLies
import Derived.Deep.Onto
namespace Go.Proofs.Ythccdooacbablab
open Go.RowKit Rm

/-- A list of points as rational numbers. -/
def dec (ps : List Pt) : List QP := ps.map fun p => (Rat.divInt p.1.1 p.1.2, Rat.divInt p.2.1 p.2.2)
theorem dec_qp (qs : List QP) : dec (qs.map qp) = qs := by
  unfold dec
  rw [List.map_map]
  conv => rhs; rw [← List.map_id qs]
  refine List.map_congr_left fun q _ => ?_
  show (Rat.divInt q.1.num q.1.den, Rat.divInt q.2.num q.2.den) = q
  rw [Rat.num_divInt_den, Rat.num_divInt_den]
/-- The slopes, as pairs of integers. -/
def slF (ps : List Pt) : List Fr := match mapB ps with | true => (slopesK (dec ps) (ps.length - 1)).map qf | false => []
theorem slF_map {qs : List QP} (hg : GMap qs) : slF (qs.map qp) = (slopesK qs (qs.length - 1)).map qf := by
  unfold slF; simp only [hg.mapB, dec_qp, List.length_map]
theorem slF_no {ps : List Pt} (h : mapB ps = false) : slF ps = [] := by unfold slF; simp only [h]
theorem frcs_snoc (xs : List Fr) (a b : Int) : frcs (xs ++ [(a, b)]) = frcs xs ++ [.int .i64 a, .int .i64 b] := by simp [frcs, frc]
theorem own_slice {w : World} {base : Nat} {e : TypeId} {size : Nat} {v : Value} {n : Nat} {xs : List Value} (h : w.ownsRow base e size v n xs) : ∃ (A : Option Addr) (c : Nat), v = .slice A n c := by
  rcases h.2 with ⟨rfl, rfl⟩ | ⟨g, cap, _, rfl, _⟩
  · exact ⟨_, _, rfl⟩
  · exact ⟨_, _, rfl⟩
theorem grown_far {w w' : World} {v : Value} {B g : Nat} (h : w.grownBy w' v.ownBlock) (hv : ∀ k, v.ownBlock = some k → B ≤ k) (hg : g < B) (hgs : g < w.heap.size) : ∀ o, w'.cell? ⟨g, o, none⟩ = w.cell? ⟨g, o, none⟩ :=
  fun o => World.cell?_of_block (a := ⟨g, o, none⟩) (h.block g hgs (fun e => by have := hv g e.symm; omega))

set_option maxRecDepth 100000 in
set_option maxHeartbeats 1600000 in
theorem imSlopes_map (g n c base : Nat) (qs : List QP) (w : World) (ha : w.ownsRow base 45 4 (.slice (some ⟨g, 0, none⟩) n c) n (ptcs (qs.map qp))) (hg : GMap qs) :
    Calls Try.prog 26 #[.slice (some ⟨g, 0, none⟩) n c] w fun e w' => ∃ v : Value, e = .returned v ∧ w'.ownsRow w.heap.size 31 2 v (n - 1) (frcs ((slopesK qs (n - 1)).map qf)) ∧ Below w.heap.size w w' := by
  obtain ⟨i0, hi0, hz0, hz1, hz2⟩ := info_parts iRat
  have hlen : qs.length = n := by have := own_len ha; rw [List.length_map] at this; exact this
  have hlo := hg.lo
  have hhi := hg.hi
  rw [hlen] at hlo hhi
  obtain ⟨g', cap, hv, _, hgl⟩ := ha.form (by omega)
  obtain rfl : g = g' := by injection hv with h1; exact (Addr.mk.inj (Option.some.inj h1)).1
  have HA := hide ha; clear ha hv
  have HL := Lib.hid hlen; clear hlen
  go_enter Try.func26, Try.ntmps26
  go_wp2
  go_loopw [3, 4] (fun v i wr => ∃ (k : Nat) (u : Value), i = .int .i64 ((k : Int) + 1) ∧ u = v ∧ k + 1 ≤ n ∧ wr.ownsRow w.heap.size 31 2 u k (frcs ((slopesK qs k).map qf)) ∧ Below w.heap.size w wr) (fun _ i _ => n - (intOf i).toNat)
  case atStart => exact ⟨0, _, rfl, rfl, by omega, World.ownsRow_nil _ _ _ _, Below.refl _ _⟩
  case round =>
    obtain ⟨k, u, rfl, rfl, hk, hown, hbwr⟩ := hrel
    have hzwr := hbwr.size
    by_cases hlt : k + 1 < n
    · (skip; (try ((have kwrgX0 := (bnew hbwr) (g) ?pf); (case pf => (first | omega | (simp; done) | (simp; omega))); obtain ⟨kcwrgX0, kfwrgX0, klwrgX0⟩ := kwrgX0)))
      have hk1 : k + 1 < qs.length := by rw [HL.out]; exact hlt
      obtain ⟨k0, k1, k2, k3⟩ := q_cells (own_below (unhide HA) hbwr) (k := k) (by omega)
      obtain ⟨j0, j1, j2, j3⟩ := q_cells (own_below (unhide HA) hbwr) (k := k + 1) hlt
      have hsl := fun W => imSlope_q (qAt qs k) (qAt qs (k + 1)) (hg.cx _ (by omega)) (hg.cy _ (by omega)) (hg.cx _ hk1) (hg.cy _ hk1) (hg.inc k hk1) W
      have hsn : frcs ((slopesK qs (k + 1)).map qf) = frcs ((slopesK qs k).map qf) ++ [.int .i64 (slopeR (qAt qs k) (qAt qs (k + 1))).num, .int .i64 (slopeR (qAt qs k) (qAt qs (k + 1))).den] := by
        rw [slopesK_succ, List.map_append, ← frcs_snoc]; rfl
      generalize slopeR (qAt qs k) (qAt qs (k + 1)) = sl at *
      generalize sl.num = sx at *
      generalize (sl.den : Int) = sy at *
      generalize (qAt qs (k + 1)).1.num = e1 at *
      generalize ((qAt qs (k + 1)).1.den : Int) = e2 at *
      generalize (qAt qs (k + 1)).2.num = e3 at *
      generalize ((qAt qs (k + 1)).2.den : Int) = e4 at *
      generalize (qAt qs k).1.num = f1 at *
      generalize ((qAt qs k).1.den : Int) = f2 at *
      generalize (qAt qs k).2.num = f3 at *
      generalize ((qAt qs k).2.den : Int) = f4 at *
      have hvB : ∀ j, u.ownBlock = some j → w.heap.size ≤ j := fun j e => (hown.lt j e).1
      have s1 : IntKind.i64.wrap (k : Int) = (k : Int) := IntWalk.i64_in _ (by omega)
      have s2 : (0 : Int) ≤ (k : Int) + 1 := by omega
      have s3 : (k : Int) + 1 < (n : Int) := by omega
      have s4 : (k : Int) < (n : Int) := by omega
      have s5 : ((k : Int) + 1).toNat = k + 1 := by omega
      have HS := hide hsl
      have HN := Lib.hid hsn
      have HO := hide hown
      have HV := hide hvB
      have HB := hide hbwr
      clear hsl hsn hown hbwr hvB kcwrgX0 kfwrgX0
      go_upto_region 5 with fail
      go_region_held3 (fun w' => (w'.cell? ⟨g, (k + 1) * 4, none⟩ = some (.int .i64 e1) ∧ w'.cell? ⟨g, (k + 1) * 4 + 1, none⟩ = some (.int .i64 e2) ∧ w'.cell? ⟨g, (k + 1) * 4 + 2, none⟩ = some (.int .i64 e3) ∧ w'.cell? ⟨g, (k + 1) * 4 + 3, none⟩ = some (.int .i64 e4)) ∧
          w'.cell? ⟨g, k * 4, none⟩ = some (.int .i64 f1) ∧ w'.cell? ⟨g, k * 4 + 1, none⟩ = some (.int .i64 f2) ∧ w'.cell? ⟨g, k * 4 + 2, none⟩ = some (.int .i64 f3) ∧ w'.cell? ⟨g, k * 4 + 3, none⟩ = some (.int .i64 f4)) (simp [go_sem, World.cell?_alloc_past, *])
        (first
          | (go_at_call 40; (with_reducible refine ((unhide HS) _).mono ?_); rintro e w3 ⟨rfl, hbw3⟩; obtain ⟨hcw3, hfw3⟩ := bcell hbw3; have hzw3 := hbw3.size; (try simp at hzw3); (try ((have kw3gX0 := (bnew hbw3) (g) ?pf); (case pf => (first | omega | (simp; done) | (simp; omega))); obtain ⟨kcw3gX0, kfw3gX0, klw3gX0⟩ := kw3gX0)))
          | (refine step_append_lies _ (by rfl) _ _ _ (by rfl) w.heap.size 31 i0 _ 2 16 Try.underlying41 hi0 hz0 hz1 hz2 rfl (by omega) u k _ (by rfl) ((own_below (unhide HO) (show Below wr.heap.size wr w3 from (by repeat (first | with_reducible exact Below.refl _ _ | with_reducible assumption | (with_reducible refine Below.trans ?_ (Below.mono (by assumption) (by first | omega | (simp <;> omega)))) | with_reducible apply Below.drew | with_reducible apply below_drewN | (with_reducible refine Below.alloc ?_ (by first | omega | (simp <;> omega)) _) | (with_reducible refine Below.setCell ?_ (by first | omega | (simp <;> omega)) _))))).alloc _)
              ⟨w3.heap.size, 0, none⟩ 1 1 [.int .i64 sx, .int .i64 sy] (by rfl) (by rfl) (World.news_of_block (cs := #[.int .i64 sx, .int .i64 sy]) (t := 31) (fr := (0, 0)) (heap_alloc_new w3 _)) (by simp [Value.oneCell'])
              (by omega) (by unfold maxLen; omega) (by omega) (by simp; omega) (w3.heap.size + 1) (by simp) ?_; intro gg cap w4 hown4 hgrow hat hlt4; have kg := grown_far hgrow (unhide HV) hgl (by simp; omega)))
      all_goals
        have hb := unhide HB
        rw [← HN.out] at hown4
        have hby : Below wr.heap.size wr (w3.alloc (.cells #[.int .i64 sx, .int .i64 sy] 31)) := (by repeat (first | with_reducible exact Below.refl _ _ | with_reducible assumption | (with_reducible refine Below.trans ?_ (Below.mono (by assumption) (by first | omega | (simp <;> omega)))) | with_reducible apply Below.drew | with_reducible apply below_drewN | (with_reducible refine Below.alloc ?_ (by first | omega | (simp <;> omega)) _) | (with_reducible refine Below.setCell ?_ (by first | omega | (simp <;> omega)) _)))
        have hbz : Below w.heap.size w w4 := (hb.trans (hby.mono hb.size)).grown hgrow (by have := hby.size; omega) (unhide HV)
        have HO4 := hide hown4
        have HBZ := hide hbz
        clear hown4 hby hgrow hb hbz
        go_wp2_with fail
        go_roundw
        case rel => exact ⟨k + 1, _, by go_num, rfl, by omega, unhide HO4, unhide HBZ⟩
        case measure => simp [intOf]; omega
    · obtain rfl : n = k + 1 := by omega
      have HO := hide hown
      have HB := hide hbwr
      clear hown hbwr
      go_wp2
      go_ret
      exact ⟨_, rfl, unhide HO, unhide HB⟩

theorem slF_len (ps : List Pt) : (slF ps).length ≤ 1048576 := by
  unfold slF
  cases h : mapB ps with
  | false => simp
  | true =>
    have h2 : ps.length ≤ 12 := by
      rcases Decidable.em (2 ≤ ps.length ∧ ps.length ≤ 12) with h1 | h1
      · exact h1.2
      · rw [mapB_len h1] at h; cases h
    simp [slopesK]
    omega
/-- The answer of a function that gives a slice of fractions and whether the map is one. -/
def GivesR (B : Nat) (xs : List Fr) (z : Bool) (e : Ending) (w' : World) : Prop :=
  ∃ (A : Option Addr) (d : Nat), e = .returned (.tuple #[.slice A xs.length d, .bool z]) ∧ w'.ownsRow B 31 2 (.slice A xs.length d) xs.length (frcs xs)
end Go.Proofs.Ythccdooacbablab

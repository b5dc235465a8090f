/-
  Chapter 2: ReflectMap of the model.
-/
import Derived.Test.YteannojgicpbnabPut
import Derived.Test.YteannojgicpbnabSima
namespace Go.Proofs.Yteannojgicpbnab
open Go.RowKit Rm

/-- A point reflected. -/
def reflP (q : QP) : Pt := (((q.1.den : Int) - q.1.num, (q.1.den : Int)), ((q.2.den : Int) - q.2.num, (q.2.den : Int)))
/-- The last k of the first m + 1 points, reflected, from the last one on. -/
def rfD (qs : List QP) (m : Nat) : Nat → List Pt
  | 0 => []
  | k + 1 => rfD qs m k ++ [reflP (qAt qs (m - k))]
theorem rfD_len (qs : List QP) (m : Nat) : ∀ k, (rfD qs m k).length = k
  | 0 => rfl
  | k + 1 => by simp [rfD, rfD_len qs m k]
theorem rfD_cells (qs : List QP) (m k : Nat) : ptcs (rfD qs m (k + 1)) = ptcs (rfD qs m k) ++ [.int .i64 ((qAt qs (m - k)).1.den - (qAt qs (m - k)).1.num), .int .i64 (qAt qs (m - k)).1.den, .int .i64 ((qAt qs (m - k)).2.den - (qAt qs (m - k)).2.num), .int .i64 (qAt qs (m - k)).2.den] := by
  rw [← ptcs_snoc]; rfl
def rmF (ps : List Pt) : List Pt := match mapB ps with | true => rfD (dec ps) (ps.length - 1) ps.length | false => []
theorem rmF_no {ps : List Pt} (h : mapB ps = false) : rmF ps = [] := by unfold rmF; simp only [h]
theorem rmF_map {qs : List QP} (hg : GMap qs) : rmF (qs.map qp) = rfD qs (qs.length - 1) qs.length := by
  unfold rmF; simp only [hg.mapB, dec_qp, List.length_map]
theorem rmF_len (ps : List Pt) : (rmF ps).length ≤ 1048576 := by
  unfold rmF
  cases hm : mapB ps with
  | false => simp
  | true =>
    have h2 : ps.length ≤ 12 := by
      rcases Decidable.em (2 ≤ ps.length ∧ ps.length ≤ 12) with h1 | h1
      · exact h1.2
      · rw [mapB_len h1] at hm; cases hm
    simp only [rfD_len]
    omega

set_option maxRecDepth 100000 in
set_option maxHeartbeats 1600000 in
theorem sReflect_map (g m c base : Nat) (qs : List QP) (w : World) (ha : w.ownsRow base 45 4 (.slice (some ⟨g, 0, none⟩) (m + 1) c) (m + 1) (ptcs (qs.map qp))) (hg : GMap qs) (hm : mapB (qs.map qp) = true) (hn : m + 1 ≤ 1048576) :
    Calls Try.prog 18 #[.slice (some ⟨g, 0, none⟩) (m + 1) c] w fun e w' => ∃ v : Value, e = .returned (.tuple #[v, .bool true]) ∧ w'.ownsRow w.heap.size 45 4 v (m + 1) (ptcs (rfD qs m (m + 1))) ∧ Below w.heap.size w w' := by
  obtain ⟨i0, hi0, hz0, hz1, hz2⟩ := info_parts iPoint
  have hlen : qs.length = m + 1 := by have := own_len ha; rw [List.length_map] at this; exact this
  have hhi := hg.hi
  rw [hlen] at hhi
  have hgl : g < w.heap.size := (ha.lt g rfl).2
  have hmap := imGood_any (some ⟨g, 0, none⟩) (m + 1) c base _ w ha hn
  rw [hm] at hmap
  have HM := hide hmap; clear hmap hm
  have HA := hide ha
  have HL := Lib.hid hlen
  clear ha hlen
  go_enter Try.func18, Try.ntmps18
  go_wp2_with (go_at_call 21; (with_reducible refine (unhide HM).mono ?_); rintro e w1 ⟨rfl, hbw1⟩)
  go_loopw [4, 5] (fun v i wr => ∃ (k r : Nat) (u : Value), i = .int .i64 ((r : Int) - 1) ∧ u = v ∧ k + r = m + 1 ∧ wr.ownsRow w.heap.size 45 4 u k (ptcs (rfD qs m k)) ∧ Below w.heap.size w wr) (fun _ i _ => (intOf i + 1).toNat)
  case atStart => exact ⟨0, m + 1, _, by simp, rfl, by omega, World.ownsRow_nil _ _ _ _, hbw1⟩
  case round =>
    obtain ⟨k, r, u, rfl, rfl, hkr, hown, hbwr⟩ := hrel
    have hzwr := hbwr.size
    rcases r with _ | r
    · obtain rfl : k = m + 1 := by omega
      have HO := hide hown
      have HB := hide hbwr
      clear hown hbwr
      go_wp2
      go_ret2
      exact ⟨_, rfl, unhide HO, unhide HB⟩
    · have hr1 : r < m + 1 := by omega
      have hrl : r < qs.length := by rw [HL.out]; exact hr1
      have hglr : g < wr.heap.size := by omega
      obtain ⟨k0, k1, k2, k3⟩ := q_cells (own_below (unhide HA) hbwr) (k := r) hr1
      obtain ⟨x0, x1, x2, x3⟩ := co_parts (hg.cx r hrl)
      obtain ⟨y0, y1, y2, y3⟩ := co_parts (hg.cy r hrl)
      have hmk : m - k = r := by omega
      have hsn := rfD_cells qs m k
      rw [hmk] at hsn
      have h1 := fun W => imMirror_any (qAt qs r).1.num (qAt qs r).1.den W x0 x1 (by omega)
      have h2 := fun W => imMirror_any (qAt qs r).2.num (qAt qs r).2.den W y0 y1 (by omega)
      generalize (qAt qs r).1.num = f1 at *
      generalize ((qAt qs r).1.den : Int) = f2 at *
      generalize (qAt qs r).2.num = f3 at *
      generalize ((qAt qs r).2.den : Int) = f4 at *
      generalize f2 - f1 = e1 at *
      generalize f4 - f3 = e3 at *
      have hvB : ∀ j, u.ownBlock = some j → w.heap.size ≤ j := fun j e => (hown.lt j e).1
      have s1 : ((r + 1 : Nat) : Int) - 1 = (r : Int) := by omega
      have s2 : (0 : Int) ≤ (r : Int) := by omega
      have s3 : (r : Int) < (m : Int) + 1 := by omega
      have s4 : IntKind.i64.wrap ((r : Int) - 1) = (r : Int) - 1 := IntWalk.i64_in _ (by omega)
      have HS := Lib.hid hsn
      have H1 := hide h1; have H2 := hide h2
      have HO := hide hown
      have HV := hide hvB
      have HB := hide hbwr
      clear hsn h1 h2 hown hbwr hvB x0 x1 x2 x3 y0 y1 y2 y3
      rw [s1]
      go_upto_region 7 with fail
      go_region_held3 (fun w' => w'.cell? ⟨g, r * 4, none⟩ = some (.int .i64 f1) ∧ w'.cell? ⟨g, r * 4 + 1, none⟩ = some (.int .i64 f2) ∧ w'.cell? ⟨g, r * 4 + 2, none⟩ = some (.int .i64 f3) ∧ w'.cell? ⟨g, r * 4 + 3, none⟩ = some (.int .i64 f4)) (simp [go_sem, World.cell?_alloc_past, *])
        (first
          | (go_at_call 37; (with_reducible refine ((unhide H1) _).mono ?_); rintro e w3 ⟨rfl, hbw3⟩; obtain ⟨hcw3, hfw3⟩ := bcell hbw3; have hzw3 := hbw3.size; (try simp at hzw3); (try ((have kw3gX0 := (bnew hbw3) (g) ?pf); (case pf => (first | omega | (simp; done) | (simp; omega))); obtain ⟨kcw3gX0, kfw3gX0, klw3gX0⟩ := kw3gX0)))
          | (go_at_call 37; (with_reducible refine ((unhide H2) _).mono ?_); rintro e w4 ⟨rfl, hbw4⟩; obtain ⟨hcw4, hfw4⟩ := bcell hbw4; have hzw4 := hbw4.size; (try simp at hzw4); (try ((have kw4gX0 := (bnew hbw4) (g) ?pf); (case pf => (first | omega | (simp; done) | (simp; omega))); obtain ⟨kcw4gX0, kfw4gX0, klw4gX0⟩ := kw4gX0)))
          | (refine step_append_lies _ (by rfl) _ _ _ (by rfl) w.heap.size 45 i0 _ 4 32 Try.underlying27 hi0 hz0 hz1 hz2 rfl (by omega) u k _ (by rfl) ((own_below (unhide HO) (show Below wr.heap.size wr w4 from (by repeat (first | with_reducible exact Below.refl _ _ | with_reducible assumption | (with_reducible refine Below.trans ?_ (Below.mono (by assumption) (by first | omega | (simp <;> omega)))) | with_reducible apply Below.drew | with_reducible apply below_drewN | (with_reducible refine Below.alloc ?_ (by first | omega | (simp <;> omega)) _) | (with_reducible refine Below.setCell ?_ (by first | omega | (simp <;> omega)) _))))).alloc _)
              ⟨w4.heap.size, 0, none⟩ 1 1 [.int .i64 e1, .int .i64 f2, .int .i64 e3, .int .i64 f4] (by rfl) (by rfl) (World.news_of_block (cs := #[.int .i64 e1, .int .i64 f2, .int .i64 e3, .int .i64 f4]) (t := 45) (fr := (0, 0)) (heap_alloc_new w4 _)) (by simp [Value.oneCell'])
              (by omega) (by unfold maxLen; omega) (by omega) (by simp; omega) (w4.heap.size + 1) (by simp) ?_; intro gg cap w5 hown5 hgrow hat hlt5; have kg := grown_far hgrow (unhide HV) hgl (by simp; omega)))
      all_goals
        have hb := unhide HB
        rw [← HS.out] at hown5
        have hby : Below wr.heap.size wr (w4.alloc (.cells #[.int .i64 e1, .int .i64 f2, .int .i64 e3, .int .i64 f4] 45)) := (by repeat (first | with_reducible exact Below.refl _ _ | with_reducible assumption | (with_reducible refine Below.trans ?_ (Below.mono (by assumption) (by first | omega | (simp <;> omega)))) | with_reducible apply Below.drew | with_reducible apply below_drewN | (with_reducible refine Below.alloc ?_ (by first | omega | (simp <;> omega)) _) | (with_reducible refine Below.setCell ?_ (by first | omega | (simp <;> omega)) _)))
        have hbz : Below w.heap.size w w5 := (hb.trans (hby.mono hb.size)).grown hgrow (by have := hby.size; omega) (unhide HV)
        have HO5 := hide hown5
        have HBZ := hide hbz
        clear hown5 hby hgrow hb hbz
        go_wp2_with fail
        go_roundw
        case rel => exact ⟨k + 1, r, _, by go_num, rfl, by omega, unhide HO5, unhide HBZ⟩
        case measure => (simp [intOf] <;> omega)
end Go.Proofs.Yteannojgicpbnab

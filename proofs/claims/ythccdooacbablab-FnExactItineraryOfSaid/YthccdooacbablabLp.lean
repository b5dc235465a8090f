/-
  Chapter 2: LapsOf of the program and of the model.
-/
import Derived.Test.YthccdooacbablabSlo
import Derived.Test.YthccdooacbablabNs
namespace Go.Proofs.Ythccdooacbablab
open Go.RowKit Rm

abbrev Lap := Nat × Nat × Int
section
variable (d : Nat → Int)
/-- The last lap of the first k + 1 pieces. -/
def lapLast : Nat → Lap
  | 0 => (0, 1, d 0)
  | k + 1 => if d k = d (k + 1) then ((lapLast k).1, k + 2, d (k + 1)) else (k + 1, k + 2, d (k + 1))
def lapInit : Nat → List Lap
  | 0 => []
  | k + 1 => if d k = d (k + 1) then lapInit k else lapInit k ++ [lapLast d k]
def lapsK : Nat → List Lap
  | 0 => []
  | k + 1 => lapInit d k ++ [lapLast d k]
def lapRow (r : Lap) : List Int := [(r.1 : Int), (r.2.1 : Int), r.2.2]
def lapRows (k : Nat) : List (List Int) := (lapsK d k).map lapRow
variable {d}
theorem lapLast_dir : ∀ k, (lapLast d k).2.2 = d k
  | 0 => rfl
  | k + 1 => by unfold lapLast; split <;> rfl
theorem lapLast_lt : ∀ k, (lapLast d k).1 ≤ k
  | 0 => Nat.le_refl _
  | k + 1 => by
    have := lapLast_lt k
    unfold lapLast; split
    · show (lapLast d k).1 ≤ k + 1; omega
    · show k + 1 ≤ k + 1; omega
theorem lapInit_lt : ∀ k, ∀ r ∈ lapInit d k, r.1 ≤ k
  | 0, r, h => by simp [lapInit] at h
  | k + 1, r, h => by
    unfold lapInit at h
    split at h
    · have := lapInit_lt k r h; omega
    · rcases List.mem_append.1 h with h | h
      · have := lapInit_lt k r h; omega
      · rw [List.mem_singleton.1 h]; have := lapLast_lt (d := d) k; omega
theorem lapsK_lt : ∀ k, ∀ r ∈ lapsK d k, r.1 + 1 ≤ k
  | 0, r, h => by simp [lapsK] at h
  | k + 1, r, h => by
    rcases List.mem_append.1 h with h | h
    · have := lapInit_lt k r h; omega
    · rw [List.mem_singleton.1 h]; have := lapLast_lt (d := d) k; omega
theorem lapInit_len : ∀ k, (lapInit d k).length ≤ k
  | 0 => by simp [lapInit]
  | k + 1 => by
    have := lapInit_len k
    unfold lapInit; split
    · omega
    · simp; omega
theorem lapRows_one : lapRows d 1 = [] ++ [[0, 1, d 0]] := rfl
theorem lapRows_succ (k : Nat) : lapRows d (k + 1) = (lapInit d k).map lapRow ++ [[((lapLast d k).1 : Int), ((lapLast d k).2.1 : Int), d k]] := by
  unfold lapRows lapsK
  rw [List.map_append, List.map_singleton]
  unfold lapRow
  rw [lapLast_dir]
theorem lapRows_same {k : Nat} (h : d k = d (k + 1)) : lapRows d (k + 1 + 1) = (lapInit d k).map lapRow ++ [[((lapLast d k).1 : Int), (k : Int) + 1 + 1, d k]] := by
  rw [lapRows_succ]
  have e1 : lapInit d (k + 1) = lapInit d k := by rw [lapInit, if_pos h]
  have e2 : lapLast d (k + 1) = ((lapLast d k).1, k + 2, d (k + 1)) := by rw [lapLast, if_pos h]
  rw [e1, e2, ← h]
  rfl
theorem lapRows_diff {k : Nat} (h : ¬ d k = d (k + 1)) : lapRows d (k + 1 + 1) = lapRows d (k + 1) ++ [[(k : Int) + 1, (k : Int) + 1 + 1, d (k + 1)]] := by
  rw [lapRows_succ (k + 1)]
  have e1 : lapInit d (k + 1) = lapInit d k ++ [lapLast d k] := by rw [lapInit, if_neg h]
  have e2 : lapLast d (k + 1) = (k + 1, k + 2, d (k + 1)) := by rw [lapLast, if_neg h]
  rw [e1, e2]
  rfl
end
/-- The direction of a piece. -/
def dirR (qs : List QP) (k : Nat) : Int := cq (qAt qs (k + 1)).2 (qAt qs k).2
theorem slope_sign {p q : QP} (h : p.1 < q.1) : (slopeR p q).num.sign = cq q.2 p.2 := by
  have hd : 0 < q.1 - p.1 := by grind
  have hm : slopeR p q * (q.1 - p.1) = q.2 - p.2 := Rat.div_mul_cancel (by grind)
  generalize slopeR p q = s at *
  have h0 : s.num.sign = cq s 0 := by
    have h0 := cq_sign s 0
    rw [show (0 : Rat).num = 0 from rfl, show (0 : Rat).den = 1 from rfl, show s.num * ((1 : Nat) : Int) - 0 * (s.den : Int) = s.num by omega] at h0
    exact h0
  rw [h0]
  unfold cq
  by_cases h1 : s < 0
  · have h2 : 0 < (-s) * (q.1 - p.1) := Rat.mul_pos (by grind) hd
    rw [if_pos h1, if_pos (by grind)]
  · rw [if_neg h1]
    by_cases h3 : 0 < s
    · have h2 := Rat.mul_pos h3 hd
      rw [if_pos h3, if_neg (by grind), if_pos (by grind)]
    · have h4 : s = 0 := by grind
      subst h4
      rw [if_neg h3, if_neg (by grind), if_neg (by grind)]
theorem Nest.count {W : World} {B : Nat} {A : Option Addr} {n c : Nat} {bs : List Nat} {rows : List (List Int)} (h : Nest W B (.slice A n c) bs rows) : n = rows.length := by
  rcases h.outer.2 with ⟨hv, h0⟩ | ⟨g, cap, _, hv, _⟩
  · injection hv with _ h1 _; omega
  · injection hv
theorem Nest.slice {W : World} {B : Nat} {v : Value} {bs : List Nat} {rows : List (List Int)} (h : Nest W B v bs rows) : ∃ (A : Option Addr) (c : Nat), v = .slice A rows.length c := own_slice h.outer

set_option maxRecDepth 100000 in
set_option maxHeartbeats 3200000 in
theorem iLaps_map (g m c base : Nat) (qs : List QP) (w : World) (ha : w.ownsRow base 45 4 (.slice (some ⟨g, 0, none⟩) (m + 1) c) (m + 1) (ptcs (qs.map qp))) (hg : GMap qs) (hm : mapB (qs.map qp) = true) (hn : m + 1 ≤ 1048576) :
    Calls Try.prog 31 #[.slice (some ⟨g, 0, none⟩) (m + 1) c] w fun e w' => ∃ (v : Value) (bs : List Nat), e = .returned (.tuple #[v, .bool true]) ∧ Nest w' w.heap.size v bs (lapRows (dirR qs) m) ∧ Below w.heap.size w w' := by
  obtain ⟨i0, hi0, hz0, hz1, hz2⟩ := info_parts iInts
  have hlen : qs.length = m + 1 := by have := own_len ha; rw [List.length_map] at this; exact this
  have hlo := hg.lo
  have hhi := hg.hi
  rw [hlen] at hlo hhi
  obtain ⟨g', cap, hv, _, hgl⟩ := ha.form (by omega)
  obtain rfl : g = g' := by injection hv with h1; exact (Addr.mk.inj (Option.some.inj h1)).1
  have hmap := isMap_any (some ⟨g, 0, none⟩) (m + 1) c base _ w ha hn
  rw [hm] at hmap
  have HM := hide hmap; clear hmap hm
  have HA := hide ha; clear ha hv
  have HL := Lib.hid hlen; clear hlen
  go_enter Try.func31, Try.ntmps31
  go_wp2_with (go_at_call 46; (with_reducible refine (unhide HM).mono ?_); rintro e w1 ⟨rfl, hbw1⟩)
  go_loopw [4, 5] (fun v i wr => ∃ (j : Nat) (bs : List Nat) (A : Option Addr) (nn cc : Nat), i = .int .i64 ((j : Int) + 1) ∧ v = .slice A nn cc ∧ j ≤ m ∧ Nest wr w.heap.size (.slice A nn cc) bs (lapRows (dirR qs) j) ∧ Below w.heap.size w wr) (fun _ i _ => m + 1 - (intOf i).toNat)
  case atStart => exact ⟨0, [], none, 0, 0, rfl, rfl, by omega, Nest.nil _ _, hbw1⟩
  case round =>
    obtain ⟨j, bs, A, nn, cc, rfl, rfl, hj, hnest, hbwr⟩ := hrel
    have hzwr := hbwr.size
    by_cases hlt : j < m
    · (skip; (try ((have kwrgX0 := (bnew hbwr) (g) ?pf); (case pf => (first | omega | (simp; done) | (simp; omega))); obtain ⟨kcwrgX0, kfwrgX0, klwrgX0⟩ := kwrgX0)))
      have hj1 : j + 1 < qs.length := by rw [HL.out]; omega
      have HC := hide (own_below (unhide HA) hbwr)
      obtain ⟨_, _, l2, l3⟩ := q_cells (unhide HC) (k := j) (by omega)
      obtain ⟨_, _, r2, r3⟩ := q_cells (unhide HC) (k := j + 1) (by omega)
      have hor := fun W => orderOf_q (qAt qs (j + 1)).2 (qAt qs j).2 (co_fits (hg.cy _ hj1)) (co_fits (hg.cy _ (by omega))) W
      have hdir : cq (qAt qs (j + 1)).2 (qAt qs j).2 = dirR qs j := rfl
      rw [hdir] at hor
      have hnn := hnest.count
      have hvB : ∀ k, (Value.slice A nn cc).ownBlock = some k → w.heap.size ≤ k := fun k e => (hnest.outer.lt k e).1
      have s1 : IntKind.i64.wrap (j : Int) = (j : Int) := IntWalk.i64_in _ (by omega)
      have s2 : (0 : Int) ≤ (j : Int) + 1 := by omega
      have s3 : (j : Int) + 1 < (m : Int) + 1 := by omega
      have s4 : (j : Int) < (m : Int) + 1 := by omega
      have s5 : ((j : Int) + 1).toNat = j + 1 := by omega
      have HO := hide hor; have HB := hide hbwr; have HV := hide hvB
      clear hor hbwr hvB hdir kcwrgX0 kfwrgX0
      by_cases hj0 : j = 0
      · subst hj0
        have hr := lapRows_one (d := dirR qs)
        rw [show lapRows (dirR qs) 0 = [] from rfl] at hnest hnn
        obtain rfl : nn = 0 := hnn
        have HN := hide hnest
        have HR := Lib.hid hr
        clear hnest hr
        generalize (qAt qs (0 + 1)).2.num = e3 at *
        generalize ((qAt qs (0 + 1)).2.den : Int) = e4 at *
        generalize (qAt qs 0).2.num = f3 at *
        generalize ((qAt qs 0).2.den : Int) = f4 at *
        generalize dirR qs 0 = dd at *
        simp only [Nat.zero_mul, Nat.zero_add, Nat.one_mul, Nat.reduceAdd] at l2 l3 r2 r3
        have t1 : (0 : Int) < (m : Int) + 1 := by omega
        have t2 : (1 : Int) < (m : Int) + 1 := by omega
        have t3 : IntKind.i64.wrap (0 : Int) = 0 := IntWalk.i64_in _ (by omega)
        clear s1 s2 s3 s4 s5
        simp only [Int.natCast_zero, Int.zero_add]
        go_upto_region 7 with fail
        go_cut [6] (fun s6 wx => s6 = .int .i64 dd ∧ Below wr.heap.size wr wx)
        case first =>
          go_region_held3 (fun w' => w'.cell? ⟨g, 6, none⟩ = some (.int .i64 e3) ∧ w'.cell? ⟨g, 7, none⟩ = some (.int .i64 e4) ∧ w'.cell? ⟨g, 2, none⟩ = some (.int .i64 f3) ∧ w'.cell? ⟨g, 3, none⟩ = some (.int .i64 f4)) (simp [go_sem, *])
            ((go_at_call 35; (with_reducible refine ((unhide HO) _).mono ?_); rintro e w3 ⟨rfl, hbw3⟩; obtain ⟨hcw3, hfw3⟩ := bcell hbw3; have hzw3 := hbw3.size; (try simp at hzw3); (try ((have kw3gX0 := (bnew hbw3) (g) ?pf); (case pf => (first | omega | (simp; done) | (simp; omega))); obtain ⟨kcw3gX0, kfw3gX0, klw3gX0⟩ := kw3gX0))))
          all_goals
            go_wp2_with fail
            go_meet
            exact ⟨rfl, (by repeat (first | with_reducible exact Below.refl _ _ | with_reducible assumption | (with_reducible refine Below.trans ?_ (Below.mono (by assumption) (by first | omega | (simp <;> omega)))) | with_reducible apply Below.drew | with_reducible apply below_drewN | (with_reducible refine Below.alloc ?_ (by first | omega | (simp <;> omega)) _) | (with_reducible refine Below.setCell ?_ (by first | omega | (simp <;> omega)) _)))⟩
        case rest =>
          obtain ⟨rfl, hbwc⟩ := hcut
          have hzc := hbwc.size
          have HBC := hide hbwc
          clear hbwc
          go_wp2_with (at_builtin; refine wpList_append_lies _ rfl _ _ _ rfl w.heap.size 26 i0 _ 1 24 Try.underlying59 hi0 hz0 hz1 hz2 rfl (by omega) (.slice A 0 cc) 0 _ rfl (World.ownsRow.alloc (World.ownsRow.alloc (own_below (unhide HN).outer (unhide HBC)) _) _) ⟨wc.heap.size + 1, 0, none⟩ 1 1 [.slice (some ⟨wc.heap.size, 0, none⟩) 3 3] rfl rfl (World.news_of_block (cs := #[.slice (some ⟨wc.heap.size, 0, none⟩) 3 3]) (t := 26) (fr := (0, 0)) (by first | exact heap_alloc_new _ _ | (have h := heap_alloc_new (wc.alloc (.cells #[.int .i64 0, .int .i64 1, .int .i64 dd] 3)) (.cells #[.slice (some ⟨wc.heap.size, 0, none⟩) 3 3] 26); simpa using h))) (by simp [Value.oneCell']) (by omega) (by unfold maxLen; omega) (by omega) (by simp; omega) (wc.heap.size + 1 + 1) (by simp) ?_; intro gg cap w4 hown4 hgrow hat hlt4)
          have hb := unhide HB
          have hbc := unhide HBC
          have hby : Below wr.heap.size wr ((wc.alloc (.cells #[.int .i64 0, .int .i64 1, .int .i64 dd] 3)).alloc (.cells #[.slice (some ⟨wc.heap.size, 0, none⟩) 3 3] 26)) := (by repeat (first | with_reducible exact Below.refl _ _ | with_reducible assumption | (with_reducible refine Below.trans ?_ (Below.mono (by assumption) (by first | omega | (simp <;> omega)))) | with_reducible apply Below.drew | with_reducible apply below_drewN | (with_reducible refine Below.alloc ?_ (by first | omega | (simp <;> omega)) _) | (with_reducible refine Below.setCell ?_ (by first | omega | (simp <;> omega)) _)))
          have hbz : Below w.heap.size w w4 := (hb.trans (hby.mono hb.size)).grown hgrow (by have := hby.size; omega) (unhide HV)
          have HN4 := hide (((unhide HN).below hbc).snoc [0, 1, dd] #[.int .i64 0, .int .i64 1, .int .i64 dd] rfl (by simp [maxLen]) (by omega) _ hown4 hgrow hat)
          rw [← HR.out] at HN4
          have HBZ := hide hbz
          clear hown4 hby hgrow hb hbz hbc
          go_wp2_with fail
          go_roundw
          case rel => exact ⟨0 + 1, _, _, _, _, by go_num, rfl, by omega, unhide HN4, unhide HBZ⟩
          case measure => (simp [intOf] <;> omega)
      · obtain ⟨R, la, lb, dk, hrow, hsame, hdiff, hRl⟩ : ∃ (R : List (List Int)) (la lb dk : Int), lapRows (dirR qs) j = R ++ [[la, lb, dk]] ∧ (dk = dirR qs j → lapRows (dirR qs) (j + 1) = R ++ [[la, (j : Int) + 1, dk]]) ∧
            (¬ dk = dirR qs j → lapRows (dirR qs) (j + 1) = R ++ [[la, lb, dk]] ++ [[(j : Int), (j : Int) + 1, dirR qs j]]) ∧ R.length ≤ j := by
          obtain ⟨k, rfl⟩ : ∃ k, j = k + 1 := ⟨j - 1, by omega⟩
          refine ⟨_, _, _, _, lapRows_succ k, fun h => lapRows_same h, fun h => ?_, ?_⟩
          · rw [← lapRows_succ k]; exact lapRows_diff h
          · rw [List.length_map]; have := lapInit_len (d := dirR qs) k; omega
        rw [hrow] at hnest hnn
        have hnn' : nn = R.length + 1 := by rw [hnn, List.length_append]; rfl
        subst hnn'
        obtain ⟨go, b, rfl, hbi, _, _, hgo, hbl, hBb, hgb, hoc, hcells⟩ := hnest.at (i := R.length) (r := [la, lb, dk]) (by simp)
        have hc1 := hcells 1 lb rfl
        have hc2 := hcells 2 dk rfl
        obtain ⟨L, hL⟩ : ∃ L, L = R.length := ⟨_, rfl⟩
        rw [← hL] at hnest hoc hRl hbi
        have HL0 := Lib.hid hL
        have hout : wr.ownsRow w.heap.size 26 1 (.slice (some ⟨go, 0, none⟩) (L + 1) cc) (L + 1) (List.zipWith rowV bs (R ++ [[la, lb, dk]])) := by
          have h := hnest.outer
          rw [List.length_append, ← hL] at h
          exact h
        have HOUT := hide hout
        have HN := hide hnest
        clear hnest hnn hrow hcells hout
        have t1 : IntKind.i64.wrap (L : Int) = (L : Int) := IntWalk.i64_in _ (by omega)
        have t2 : (0 : Int) < (L : Int) + 1 := by omega
        have t3 : (L : Int) < (L : Int) + 1 := by omega
        have t4 : (0 : Int) ≤ (L : Int) := by omega
        have t5 : IntKind.i64.wrap ((j : Int) + 1) = (j : Int) + 1 := IntWalk.i64_in _ (by omega)
        rw [← hL]
        clear hL
        generalize (qAt qs (j + 1)).2.num = e3 at *
        generalize ((qAt qs (j + 1)).2.den : Int) = e4 at *
        generalize (qAt qs j).2.num = f3 at *
        generalize ((qAt qs j).2.den : Int) = f4 at *
        by_cases hs : dk = dirR qs j
        · have HE := Lib.hid (hsame hs)
          rw [← hs] at HO
          clear hsame hdiff hs
          go_upto_region 7 with fail
          go_cut [6] (fun s6 wx => s6 = .int .i64 dk ∧ Below wr.heap.size wr wx)
          case first =>
            go_region_held3 (fun w' => w'.cell? ⟨g, (j + 1) * 4 + 2, none⟩ = some (.int .i64 e3) ∧ w'.cell? ⟨g, (j + 1) * 4 + 3, none⟩ = some (.int .i64 e4) ∧ w'.cell? ⟨g, j * 4 + 2, none⟩ = some (.int .i64 f3) ∧ w'.cell? ⟨g, j * 4 + 3, none⟩ = some (.int .i64 f4)) (simp [go_sem, *])
              ((go_at_call 35; (with_reducible refine ((unhide HO) _).mono ?_); rintro e w3 ⟨rfl, hbw3⟩; obtain ⟨hcw3, hfw3⟩ := bcell hbw3; have hzw3 := hbw3.size; (try simp at hzw3); (try ((have kw3gX0 := (bnew hbw3) (g) ?pf); (case pf => (first | omega | (simp; done) | (simp; omega))); obtain ⟨kcw3gX0, kfw3gX0, klw3gX0⟩ := kw3gX0))))
            all_goals
              go_wp2_with fail
              go_meet
              exact ⟨rfl, (by repeat (first | with_reducible exact Below.refl _ _ | with_reducible assumption | (with_reducible refine Below.trans ?_ (Below.mono (by assumption) (by first | omega | (simp <;> omega)))) | with_reducible apply Below.drew | with_reducible apply below_drewN | (with_reducible refine Below.alloc ?_ (by first | omega | (simp <;> omega)) _) | (with_reducible refine Below.setCell ?_ (by first | omega | (simp <;> omega)) _)))⟩
          case rest =>
            obtain ⟨rfl, hbwc⟩ := hcut
            have hzc := hbwc.size
            (skip; (try ((have kwcgoX0 := (bnew hbwc) (go) ?pf); (case pf => (first | omega | (simp; done) | (simp; omega))); obtain ⟨kcwcgoX0, kfwcgoX0, klwcgoX0⟩ := kwcgoX0)); (try ((have kwcbX0 := (bnew hbwc) (b) ?pf); (case pf => (first | omega | (simp; done) | (simp; omega))); obtain ⟨kcwcbX0, kfwcbX0, klwcbX0⟩ := kwcbX0)))
            have x0 := (kcwcgoX0 _).trans hoc
            have x1 := (kcwcbX0 _).trans hc1.1
            have x2 := (kcwcbX0 _).trans hc2.1
            have x3 := (kfwcbX0 _).trans hc1.2
            have hb := unhide HB
            have HN4 := hide (((unhide HN).below hbwc).put (by rw [← HL0.out]; exact hbi) 1 ((j : Int) + 1))
            have HBZ := hide (show Below w.heap.size w (wc.setCell ⟨b, 1, none⟩ (.int .i64 ((j : Int) + 1))) from (by repeat (first | with_reducible exact Below.refl _ _ | with_reducible assumption | (with_reducible refine Below.trans ?_ (Below.mono (by assumption) (by first | omega | (simp <;> omega)))) | with_reducible apply Below.drew | with_reducible apply below_drewN | (with_reducible refine Below.alloc ?_ (by first | omega | (simp <;> omega)) _) | (with_reducible refine Below.setCell ?_ (by first | omega | (simp <;> omega)) _))))
            clear hbwc hb kcwcgoX0 kfwcgoX0 kcwcbX0 kfwcbX0 hoc hc1 hc2
            go_wp2_with fail
            go_roundw
            case rel => exact ⟨j + 1, bs, _, _, _, by go_num, rfl, by omega, by rw [HE.out]; exact unhide HN4, unhide HBZ⟩
            case measure => simp [intOf]; omega
        · have HE := Lib.hid (hdiff hs)
          have hs1 : (dk == dirR qs j) = false := by simpa using hs
          have hs2 : decide (dk = dirR qs j) = false := by simpa using hs
          clear hsame hdiff hs
          generalize dirR qs j = dd at *
          go_upto_region 7 with fail
          go_cut [6] (fun s6 wx => s6 = .int .i64 dd ∧ Below wr.heap.size wr wx)
          case first =>
            go_region_held3 (fun w' => w'.cell? ⟨g, (j + 1) * 4 + 2, none⟩ = some (.int .i64 e3) ∧ w'.cell? ⟨g, (j + 1) * 4 + 3, none⟩ = some (.int .i64 e4) ∧ w'.cell? ⟨g, j * 4 + 2, none⟩ = some (.int .i64 f3) ∧ w'.cell? ⟨g, j * 4 + 3, none⟩ = some (.int .i64 f4)) (simp [go_sem, *])
              ((go_at_call 35; (with_reducible refine ((unhide HO) _).mono ?_); rintro e w3 ⟨rfl, hbw3⟩; obtain ⟨hcw3, hfw3⟩ := bcell hbw3; have hzw3 := hbw3.size; (try simp at hzw3); (try ((have kw3gX0 := (bnew hbw3) (g) ?pf); (case pf => (first | omega | (simp; done) | (simp; omega))); obtain ⟨kcw3gX0, kfw3gX0, klw3gX0⟩ := kw3gX0))))
            all_goals
              go_wp2_with fail
              go_meet
              exact ⟨rfl, (by repeat (first | with_reducible exact Below.refl _ _ | with_reducible assumption | (with_reducible refine Below.trans ?_ (Below.mono (by assumption) (by first | omega | (simp <;> omega)))) | with_reducible apply Below.drew | with_reducible apply below_drewN | (with_reducible refine Below.alloc ?_ (by first | omega | (simp <;> omega)) _) | (with_reducible refine Below.setCell ?_ (by first | omega | (simp <;> omega)) _)))⟩
          case rest =>
            obtain ⟨rfl, hbwc⟩ := hcut
            have hzc := hbwc.size
            (skip; (try ((have kwcgoX0 := (bnew hbwc) (go) ?pf); (case pf => (first | omega | (simp; done) | (simp; omega))); obtain ⟨kcwcgoX0, kfwcgoX0, klwcgoX0⟩ := kwcgoX0)); (try ((have kwcbX0 := (bnew hbwc) (b) ?pf); (case pf => (first | omega | (simp; done) | (simp; omega))); obtain ⟨kcwcbX0, kfwcbX0, klwcbX0⟩ := kwcbX0)))
            have x0 := (kcwcgoX0 _).trans hoc
            have x2 := (kcwcbX0 _).trans hc2.1
            have HBC := hide hbwc
            clear hbwc kcwcgoX0 kfwcgoX0 kcwcbX0 kfwcbX0 hoc hc1 hc2
            go_wp2_with (at_builtin; refine wpList_append_lies _ rfl _ _ _ rfl w.heap.size 26 i0 _ 1 24 Try.underlying59 hi0 hz0 hz1 hz2 rfl (by omega) (.slice (some ⟨go, 0, none⟩) (L + 1) cc) (L + 1) _ rfl (World.ownsRow.alloc (World.ownsRow.alloc (own_below (unhide HOUT) (unhide HBC)) _) _) ⟨wc.heap.size + 1, 0, none⟩ 1 1 [.slice (some ⟨wc.heap.size, 0, none⟩) 3 3] rfl rfl (World.news_of_block (cs := #[.slice (some ⟨wc.heap.size, 0, none⟩) 3 3]) (t := 26) (fr := (0, 0)) (by first | exact heap_alloc_new _ _ | (have h := heap_alloc_new (wc.alloc (.cells #[.int .i64 j, .int .i64 (j + 1), .int .i64 dd] 3)) (.cells #[.slice (some ⟨wc.heap.size, 0, none⟩) 3 3] 26); simpa using h))) (by simp [Value.oneCell']) (by omega) (by unfold maxLen; omega) (by omega) (by simp; omega) (wc.heap.size + 1 + 1) (by simp) ?_; intro gg cap w4 hown4 hgrow hat hlt4)
            have hb := unhide HB
            have hbc := unhide HBC
            have hby : Below wr.heap.size wr ((wc.alloc (.cells #[.int .i64 j, .int .i64 (j + 1), .int .i64 dd] 3)).alloc (.cells #[.slice (some ⟨wc.heap.size, 0, none⟩) 3 3] 26)) := (by repeat (first | with_reducible exact Below.refl _ _ | with_reducible assumption | (with_reducible refine Below.trans ?_ (Below.mono (by assumption) (by first | omega | (simp <;> omega)))) | with_reducible apply Below.drew | with_reducible apply below_drewN | (with_reducible refine Below.alloc ?_ (by first | omega | (simp <;> omega)) _) | (with_reducible refine Below.setCell ?_ (by first | omega | (simp <;> omega)) _)))
            have hbz : Below w.heap.size w w4 := (hb.trans (hby.mono hb.size)).grown hgrow (by have := hby.size; omega) (unhide HV)
            have HN4 := hide (((unhide HN).below hbc).snoc [(j : Int), (j : Int) + 1, dd] #[.int .i64 j, .int .i64 (j + 1), .int .i64 dd] rfl (by simp [maxLen]) (by omega) _ (by rw [List.length_append, show R.length = L from HL0.out.symm]; exact hown4) hgrow hat)
            rw [← HE.out] at HN4
            have HBZ := hide hbz
            clear hown4 hby hgrow hb hbz hbc
            go_wp2_with fail
            go_roundw
            case rel => exact ⟨j + 1, _, _, _, _, by go_num, rfl, by omega, unhide HN4, unhide HBZ⟩
            case measure => (simp [intOf] <;> omega)
    · obtain rfl : j = m := by omega
      have HN := hide hnest
      have HB := hide hbwr
      clear hnest hbwr
      go_wp2
      go_ret2
      exact ⟨_, _, rfl, unhide HN, unhide HB⟩

set_option maxRecDepth 100000 in
set_option maxHeartbeats 3200000 in
theorem imLaps_map (g m c base : Nat) (qs : List QP) (w : World) (ha : w.ownsRow base 45 4 (.slice (some ⟨g, 0, none⟩) (m + 1) c) (m + 1) (ptcs (qs.map qp))) (hg : GMap qs) :
    Calls Try.prog 29 #[.slice (some ⟨g, 0, none⟩) (m + 1) c] w fun e w' => ∃ (v : Value) (bs : List Nat), e = .returned v ∧ Nest w' w.heap.size v bs (lapRows (dirR qs) m) ∧ Below w.heap.size w w' := by
  obtain ⟨i0, hi0, hz0, hz1, hz2⟩ := info_parts iInts
  have hlen : qs.length = m + 1 := by have := own_len ha; rw [List.length_map] at this; exact this
  have hlo := hg.lo
  have hhi := hg.hi
  rw [hlen] at hlo hhi
  have HA := hide ha; clear ha
  have HL := Lib.hid hlen; clear hlen
  go_enter Try.func29, Try.ntmps29
  go_wp2_with fail
  refine (imSlopes_map g (m + 1) c base qs _ (unhide HA) hg).mono ?_
  rintro e w1 ⟨v1, rfl, ho1, hbw1⟩
  rw [Nat.add_sub_cancel] at ho1
  obtain ⟨A1, c1, rfl⟩ := own_slice ho1
  have HS1 := hide ho1
  have hz1w := hbw1.size
  clear ho1
  go_wp2
  go_loopw [3, 11] (fun v i wr => ∃ (j : Nat) (bs : List Nat) (A : Option Addr) (nn cc : Nat), i = .int .i64 (j : Int) ∧ v = .slice A nn cc ∧ j ≤ m ∧ Nest wr w1.heap.size (.slice A nn cc) bs (lapRows (dirR qs) j) ∧ Below w1.heap.size w1 wr) (fun _ i _ => m - (intOf i).toNat)
  case atStart => exact ⟨0, [], none, 0, 0, rfl, rfl, by omega, Nest.nil _ _, Below.refl _ _⟩
  case round =>
    obtain ⟨j, bs, A, nn, cc, rfl, rfl, hj, hnest, hbwr⟩ := hrel
    have hzwr := hbwr.size
    by_cases hlt : j < m
    · have hj1 : j + 1 < qs.length := by rw [HL.out]; omega
      have hfa : fAt ((slopesK qs m).map qf) j = ((slopeR (qAt qs j) (qAt qs (j + 1))).num, ((slopeR (qAt qs j) (qAt qs (j + 1))).den : Int)) := by
        unfold fAt slopesK
        simp [hlt, qf]
      obtain ⟨g1, rfl, hg1, _, f0, f1⟩ := frs_cells (own_below (unhide HS1) hbwr) hlt hfa
      have hsg := fun W => l1Sign_any (slopeR (qAt qs j) (qAt qs (j + 1))).num W
      rw [slope_sign (hg.inc j hj1), show cq (qAt qs (j + 1)).2 (qAt qs j).2 = dirR qs j from rfl] at hsg
      generalize (slopeR (qAt qs j) (qAt qs (j + 1))).num = sx at *
      generalize ((slopeR (qAt qs j) (qAt qs (j + 1))).den : Int) = sy at *
      have hnn := hnest.count
      have hvB : ∀ k, (Value.slice A nn cc).ownBlock = some k → w1.heap.size ≤ k := fun k e => (hnest.outer.lt k e).1
      have s1 : IntKind.i64.wrap (j : Int) = (j : Int) := IntWalk.i64_in _ (by omega)
      have s2 : (0 : Int) ≤ (j : Int) + 1 := by omega
      have s6 : IntKind.i64.wrap ((j : Int) + 1) = (j : Int) + 1 := IntWalk.i64_in _ (by omega)
      have HO := hide hsg; have HB := hide hbwr; have HV := hide hvB
      clear hsg hbwr hvB hfa
      by_cases hj0 : j = 0
      · subst hj0
        have hr := lapRows_one (d := dirR qs)
        rw [show lapRows (dirR qs) 0 = [] from rfl] at hnest hnn
        obtain rfl : nn = 0 := hnn
        have HN := hide hnest
        have HR := Lib.hid hr
        clear hnest hr
        generalize dirR qs 0 = dd at *
        simp only [Nat.zero_mul, Nat.zero_add] at f0 f1
        have t1 : (0 : Int) < (m : Int) := by omega
        have t3 : IntKind.i64.wrap (0 : Int) = 0 := IntWalk.i64_in _ (by omega)
        have t4 : IntKind.i64.wrap (1 : Int) = 1 := IntWalk.i64_in _ (by omega)
        clear s1 s2 s6
        simp only [Int.natCast_zero]
        go_upto_region 5 with fail
        go_cut [6] (fun s6 wx => s6 = .int .i64 dd ∧ Below wr.heap.size wr wx)
        case first =>
          go_wp2_with (go_at_call 45; (with_reducible refine ((unhide HO) _).mono ?_); rintro e w' ⟨rfl, rfl⟩)
          go_meet
          exact ⟨rfl, (by repeat (first | with_reducible exact Below.refl _ _ | with_reducible assumption | (with_reducible refine Below.trans ?_ (Below.mono (by assumption) (by first | omega | (simp <;> omega)))) | with_reducible apply Below.drew | with_reducible apply below_drewN | (with_reducible refine Below.alloc ?_ (by first | omega | (simp <;> omega)) _) | (with_reducible refine Below.setCell ?_ (by first | omega | (simp <;> omega)) _)))⟩
        case rest =>
          obtain ⟨rfl, hbwc⟩ := hcut
          have hzc := hbwc.size
          have HBC := hide hbwc
          clear hbwc
          go_wp2_with (at_builtin; refine wpList_append_lies _ rfl _ _ _ rfl w1.heap.size 26 i0 _ 1 24 Try.underlying59 hi0 hz0 hz1 hz2 rfl (by omega) (.slice A 0 cc) 0 _ rfl (World.ownsRow.alloc (World.ownsRow.alloc (own_below (unhide HN).outer (unhide HBC)) _) _) ⟨wc.heap.size + 1, 0, none⟩ 1 1 [.slice (some ⟨wc.heap.size, 0, none⟩) 3 3] rfl rfl (World.news_of_block (cs := #[.slice (some ⟨wc.heap.size, 0, none⟩) 3 3]) (t := 26) (fr := (0, 0)) (by first | exact heap_alloc_new _ _ | (have h := heap_alloc_new (wc.alloc (.cells #[.int .i64 0, .int .i64 1, .int .i64 dd] 3)) (.cells #[.slice (some ⟨wc.heap.size, 0, none⟩) 3 3] 26); simpa using h))) (by simp [Value.oneCell']) (by omega) (by unfold maxLen; omega) (by omega) (by simp; omega) (wc.heap.size + 1 + 1) (by simp) ?_; intro gg cap w4 hown4 hgrow hat hlt4)
          have hb := unhide HB
          have hbc := unhide HBC
          have hby : Below wr.heap.size wr ((wc.alloc (.cells #[.int .i64 0, .int .i64 1, .int .i64 dd] 3)).alloc (.cells #[.slice (some ⟨wc.heap.size, 0, none⟩) 3 3] 26)) := (by repeat (first | with_reducible exact Below.refl _ _ | with_reducible assumption | (with_reducible refine Below.trans ?_ (Below.mono (by assumption) (by first | omega | (simp <;> omega)))) | with_reducible apply Below.drew | with_reducible apply below_drewN | (with_reducible refine Below.alloc ?_ (by first | omega | (simp <;> omega)) _) | (with_reducible refine Below.setCell ?_ (by first | omega | (simp <;> omega)) _)))
          have hbz : Below w1.heap.size w1 w4 := (hb.trans (hby.mono hb.size)).grown hgrow (by have := hby.size; omega) (unhide HV)
          have HN4 := hide (((unhide HN).below hbc).snoc [0, 1, dd] #[.int .i64 0, .int .i64 1, .int .i64 dd] rfl (by simp [maxLen]) (by omega) _ hown4 hgrow hat)
          rw [← HR.out] at HN4
          have HBZ := hide hbz
          clear hown4 hby hgrow hb hbz hbc
          go_wp2_with fail
          go_roundw
          case rel => exact ⟨0 + 1, _, _, _, _, by go_num, rfl, by omega, unhide HN4, unhide HBZ⟩
          case measure => (simp [intOf] <;> omega)
      · obtain ⟨R, la, lb, dk, hrow, hsame, hdiff, hRl⟩ : ∃ (R : List (List Int)) (la lb dk : Int), lapRows (dirR qs) j = R ++ [[la, lb, dk]] ∧ (dk = dirR qs j → lapRows (dirR qs) (j + 1) = R ++ [[la, (j : Int) + 1, dk]]) ∧
            (¬ dk = dirR qs j → lapRows (dirR qs) (j + 1) = R ++ [[la, lb, dk]] ++ [[(j : Int), (j : Int) + 1, dirR qs j]]) ∧ R.length ≤ j := by
          obtain ⟨k, rfl⟩ : ∃ k, j = k + 1 := ⟨j - 1, by omega⟩
          refine ⟨_, _, _, _, lapRows_succ k, fun h => lapRows_same h, fun h => ?_, ?_⟩
          · rw [← lapRows_succ k]; exact lapRows_diff h
          · rw [List.length_map]; have := lapInit_len (d := dirR qs) k; omega
        rw [hrow] at hnest hnn
        have hnn' : nn = R.length + 1 := by rw [hnn, List.length_append]; rfl
        subst hnn'
        obtain ⟨go, b, rfl, hbi, _, _, hgo, hbl, hBb, hgb, hoc, hcells⟩ := hnest.at (i := R.length) (r := [la, lb, dk]) (by simp)
        have hc1 := hcells 1 lb rfl
        have hc2 := hcells 2 dk rfl
        obtain ⟨L, hL⟩ : ∃ L, L = R.length := ⟨_, rfl⟩
        rw [← hL] at hnest hoc hRl hbi
        have HL0 := Lib.hid hL
        have hout : wr.ownsRow w1.heap.size 26 1 (.slice (some ⟨go, 0, none⟩) (L + 1) cc) (L + 1) (List.zipWith rowV bs (R ++ [[la, lb, dk]])) := by
          have h := hnest.outer
          rw [List.length_append, ← hL] at h
          exact h
        have HOUT := hide hout
        have HN := hide hnest
        clear hnest hnn hrow hcells hout
        have t1 : IntKind.i64.wrap (L : Int) = (L : Int) := IntWalk.i64_in _ (by omega)
        have t2 : (0 : Int) < (L : Int) + 1 := by omega
        have t3 : (L : Int) < (L : Int) + 1 := by omega
        have t4 : (0 : Int) ≤ (L : Int) := by omega
        rw [← hL]
        clear hL
        by_cases hs : dk = dirR qs j
        · have HE := Lib.hid (hsame hs)
          rw [← hs] at HO
          clear hsame hdiff hs
          go_upto_region 5 with fail
          go_cut [6] (fun s6 wx => s6 = .int .i64 dk ∧ Below wr.heap.size wr wx)
          case first =>
            go_wp2_with (go_at_call 45; (with_reducible refine ((unhide HO) _).mono ?_); rintro e w' ⟨rfl, rfl⟩)
            go_meet
            exact ⟨rfl, (by repeat (first | with_reducible exact Below.refl _ _ | with_reducible assumption | (with_reducible refine Below.trans ?_ (Below.mono (by assumption) (by first | omega | (simp <;> omega)))) | with_reducible apply Below.drew | with_reducible apply below_drewN | (with_reducible refine Below.alloc ?_ (by first | omega | (simp <;> omega)) _) | (with_reducible refine Below.setCell ?_ (by first | omega | (simp <;> omega)) _)))⟩
          case rest =>
            obtain ⟨rfl, hbwc⟩ := hcut
            have hzc := hbwc.size
            (skip; (try ((have kwcgoX0 := (bnew hbwc) (go) ?pf); (case pf => (first | omega | (simp; done) | (simp; omega))); obtain ⟨kcwcgoX0, kfwcgoX0, klwcgoX0⟩ := kwcgoX0)); (try ((have kwcbX0 := (bnew hbwc) (b) ?pf); (case pf => (first | omega | (simp; done) | (simp; omega))); obtain ⟨kcwcbX0, kfwcbX0, klwcbX0⟩ := kwcbX0)))
            have x0 := (kcwcgoX0 _).trans hoc
            have x1 := (kcwcbX0 _).trans hc1.1
            have x2 := (kcwcbX0 _).trans hc2.1
            have x3 := (kfwcbX0 _).trans hc1.2
            have hb := unhide HB
            have HN4 := hide (((unhide HN).below hbwc).put (by rw [← HL0.out]; exact hbi) 1 ((j : Int) + 1))
            have HBZ := hide (show Below w1.heap.size w1 (wc.setCell ⟨b, 1, none⟩ (.int .i64 ((j : Int) + 1))) from (by repeat (first | with_reducible exact Below.refl _ _ | with_reducible assumption | (with_reducible refine Below.trans ?_ (Below.mono (by assumption) (by first | omega | (simp <;> omega)))) | with_reducible apply Below.drew | with_reducible apply below_drewN | (with_reducible refine Below.alloc ?_ (by first | omega | (simp <;> omega)) _) | (with_reducible refine Below.setCell ?_ (by first | omega | (simp <;> omega)) _))))
            clear hbwc hb kcwcgoX0 kfwcgoX0 kcwcbX0 kfwcbX0 hoc hc1 hc2
            go_wp2_with fail
            go_roundw
            case rel => exact ⟨j + 1, bs, _, _, _, by go_num, rfl, by omega, by rw [HE.out]; exact unhide HN4, unhide HBZ⟩
            case measure => simp [intOf]; omega
        · have HE := Lib.hid (hdiff hs)
          have hs1 : (dk == dirR qs j) = false := by simpa using hs
          have hs2 : decide (dk = dirR qs j) = false := by simpa using hs
          clear hsame hdiff hs
          generalize dirR qs j = dd at *
          go_upto_region 5 with fail
          go_cut [6] (fun s6 wx => s6 = .int .i64 dd ∧ Below wr.heap.size wr wx)
          case first =>
            go_wp2_with (go_at_call 45; (with_reducible refine ((unhide HO) _).mono ?_); rintro e w' ⟨rfl, rfl⟩)
            go_meet
            exact ⟨rfl, (by repeat (first | with_reducible exact Below.refl _ _ | with_reducible assumption | (with_reducible refine Below.trans ?_ (Below.mono (by assumption) (by first | omega | (simp <;> omega)))) | with_reducible apply Below.drew | with_reducible apply below_drewN | (with_reducible refine Below.alloc ?_ (by first | omega | (simp <;> omega)) _) | (with_reducible refine Below.setCell ?_ (by first | omega | (simp <;> omega)) _)))⟩
          case rest =>
            obtain ⟨rfl, hbwc⟩ := hcut
            have hzc := hbwc.size
            (skip; (try ((have kwcgoX0 := (bnew hbwc) (go) ?pf); (case pf => (first | omega | (simp; done) | (simp; omega))); obtain ⟨kcwcgoX0, kfwcgoX0, klwcgoX0⟩ := kwcgoX0)); (try ((have kwcbX0 := (bnew hbwc) (b) ?pf); (case pf => (first | omega | (simp; done) | (simp; omega))); obtain ⟨kcwcbX0, kfwcbX0, klwcbX0⟩ := kwcbX0)))
            have x0 := (kcwcgoX0 _).trans hoc
            have x2 := (kcwcbX0 _).trans hc2.1
            have HBC := hide hbwc
            clear hbwc kcwcgoX0 kfwcgoX0 kcwcbX0 kfwcbX0 hoc hc1 hc2
            go_wp2_with (at_builtin; refine wpList_append_lies _ rfl _ _ _ rfl w1.heap.size 26 i0 _ 1 24 Try.underlying59 hi0 hz0 hz1 hz2 rfl (by omega) (.slice (some ⟨go, 0, none⟩) (L + 1) cc) (L + 1) _ rfl (World.ownsRow.alloc (World.ownsRow.alloc (own_below (unhide HOUT) (unhide HBC)) _) _) ⟨wc.heap.size + 1, 0, none⟩ 1 1 [.slice (some ⟨wc.heap.size, 0, none⟩) 3 3] rfl rfl (World.news_of_block (cs := #[.slice (some ⟨wc.heap.size, 0, none⟩) 3 3]) (t := 26) (fr := (0, 0)) (by first | exact heap_alloc_new _ _ | (have h := heap_alloc_new (wc.alloc (.cells #[.int .i64 j, .int .i64 (j + 1), .int .i64 dd] 3)) (.cells #[.slice (some ⟨wc.heap.size, 0, none⟩) 3 3] 26); simpa using h))) (by simp [Value.oneCell']) (by omega) (by unfold maxLen; omega) (by omega) (by simp; omega) (wc.heap.size + 1 + 1) (by simp) ?_; intro gg cap w4 hown4 hgrow hat hlt4)
            have hb := unhide HB
            have hbc := unhide HBC
            have hby : Below wr.heap.size wr ((wc.alloc (.cells #[.int .i64 j, .int .i64 (j + 1), .int .i64 dd] 3)).alloc (.cells #[.slice (some ⟨wc.heap.size, 0, none⟩) 3 3] 26)) := (by repeat (first | with_reducible exact Below.refl _ _ | with_reducible assumption | (with_reducible refine Below.trans ?_ (Below.mono (by assumption) (by first | omega | (simp <;> omega)))) | with_reducible apply Below.drew | with_reducible apply below_drewN | (with_reducible refine Below.alloc ?_ (by first | omega | (simp <;> omega)) _) | (with_reducible refine Below.setCell ?_ (by first | omega | (simp <;> omega)) _)))
            have hbz : Below w1.heap.size w1 w4 := (hb.trans (hby.mono hb.size)).grown hgrow (by have := hby.size; omega) (unhide HV)
            have HN4 := hide (((unhide HN).below hbc).snoc [(j : Int), (j : Int) + 1, dd] #[.int .i64 j, .int .i64 (j + 1), .int .i64 dd] rfl (by simp [maxLen]) (by omega) _ (by rw [List.length_append, show R.length = L from HL0.out.symm]; exact hown4) hgrow hat)
            rw [← HE.out] at HN4
            have HBZ := hide hbz
            clear hown4 hby hgrow hb hbz hbc
            go_wp2_with fail
            go_roundw
            case rel => exact ⟨j + 1, _, _, _, _, by go_num, rfl, by omega, unhide HN4, unhide HBZ⟩
            case measure => (simp [intOf] <;> omega)
    · obtain rfl : j = m := by omega
      have HN := hide hnest
      have HB := hide hbwr
      clear hnest hbwr
      go_wp2
      go_ret
      exact ⟨_, _, rfl, (unhide HN).mono hz1w, hbw1.trans ((unhide HB).mono hz1w)⟩
end Go.Proofs.Ythccdooacbablab

/-
  Chapter 2: LapsOf and TurningPoints: what both return, at any argument.
-/
import Derived.Test.YtldmgjeecomddaaGreatDoorLp
import Derived.Test.YtldmgjeecomddaaGreatDoorSima
namespace Go.Proofs.YtldmgjeecomddaaGreatDoor
open Go.RowKit Rm

def lapF (ps : List Pt) : List (List Int) := match mapB ps with | true => lapRows (dirR (dec ps)) (ps.length - 1) | false => []
theorem lapF_map {qs : List QP} (hg : GMap qs) : lapF (qs.map qp) = lapRows (dirR qs) (qs.length - 1) := by
  unfold lapF; simp only [hg.mapB, dec_qp, List.length_map]
theorem lapF_no {ps : List Pt} (h : mapB ps = false) : lapF ps = [] := by unfold lapF; simp only [h]
theorem lapsK_len (d : Nat → Int) : ∀ k, (lapsK d k).length ≤ k
  | 0 => by simp [lapsK]
  | k + 1 => by have := lapInit_len (d := d) k; simp [lapsK]; omega
theorem map_len {ps : List Pt} (h : mapB ps = true) : ps.length ≤ 12 := by
  rcases Decidable.em (2 ≤ ps.length ∧ ps.length ≤ 12) with h1 | h1
  · exact h1.2
  · rw [mapB_len h1] at h; cases h
theorem lapF_len (ps : List Pt) : (lapF ps).length ≤ 1048576 := by
  unfold lapF
  cases h : mapB ps with
  | false => simp
  | true =>
    have h2 := map_len h
    have := lapsK_len (dirR (dec ps)) (ps.length - 1)
    simp only [lapRows, List.length_map]
    omega
/-- The answer of a function that gives a slice of rows and whether the map is one. -/
def GivesN (B : Nat) (rows : List (List Int)) (z : Bool) (e : Ending) (w' : World) : Prop :=
  ∃ (A : Option Addr) (d : Nat) (bs : List Nat), e = .returned (.tuple #[.slice A rows.length d, .bool z]) ∧ Nest w' B (.slice A rows.length d) bs rows
theorem Nest.cap {W : World} {B : Nat} {A : Option Addr} {n c : Nat} {bs : List Nat} {rows : List (List Int)} (h : Nest W B (.slice A n c) bs rows) : n ≤ c := by
  rcases h.outer.2 with ⟨hv, h0⟩ | ⟨g, cap, _, hv, _, _, h3, _⟩
  · injection hv with _ h1 h2; omega
  · injection hv with _ h1 h2; omega
set_option maxRecDepth 100000 in
theorem iLapsOf_any (A : Option Addr) (n c base : Nat) (ps : List Pt) (w : World) (ha : w.ownsRow base 50 4 (.slice A n c) n (ptcs ps)) (hn : n ≤ 1048576) :
    Calls Tryz.prog 65 #[.slice A n c] w fun e w' => GivesN w.heap.size (lapF ps) (mapB ps) e w' ∧ Below w.heap.size w w' := by
  rcases hm : mapB ps with _ | _
  · have hmap := isMap_any A n c base ps w ha hn
    rw [hm] at hmap
    rw [lapF_no hm]
    have HM := hide hmap; clear hmap hm ha
    go_enter Tryz.func65, Tryz.ntmps65
    go_wp2_with (go_at_call 29; (with_reducible refine (unhide HM).mono ?_); rintro e w1 ⟨rfl, hbw1⟩)
    go_ret2
    exact ⟨⟨none, 0, [], rfl, Nest.nil _ _⟩, hbw1⟩
  · obtain ⟨g, m, qs, rfl, rfl, rfl, hg, hlen⟩ := own_form ha hm
    rw [lapF_map hg, hlen, Nat.add_sub_cancel]
    refine (iLaps_map g m c base qs w ha hg hm hn).mono ?_
    rintro e w' ⟨v, bs, rfl, ho, hb⟩
    obtain ⟨B, d, rfl⟩ := ho.slice
    exact ⟨⟨B, d, bs, rfl, ho⟩, hb⟩
/-! ### TurningPoints -/
/-- The first k turning points. -/
def tpK (qs : List QP) (m k : Nat) : List Rat := (((lapsK (dirR qs) m).drop 1).take k).map fun r => (qAt qs r.1).1
theorem tpK_succ {qs : List QP} {m k : Nat} {r : Lap} (h : (lapsK (dirR qs) m)[k + 1]? = some r) : tpK qs m (k + 1) = tpK qs m k ++ [(qAt qs r.1).1] := by
  unfold tpK
  rw [List.take_add_one, List.map_append, List.getElem?_drop, Nat.add_comm 1 k, h]
  rfl
theorem tpK_len {qs : List QP} {m k : Nat} (h : k + 1 ≤ (lapsK (dirR qs) m).length) : (tpK qs m k).length = k := by
  unfold tpK
  rw [List.length_map, List.length_take, List.length_drop]
  omega
def tpF (ps : List Pt) : List Fr := match mapB ps with | true => (tpK (dec ps) (ps.length - 1) ((lapsK (dirR (dec ps)) (ps.length - 1)).length - 1)).map qf | false => []
theorem tpF_map {qs : List QP} (hg : GMap qs) : tpF (qs.map qp) = (tpK qs (qs.length - 1) ((lapsK (dirR qs) (qs.length - 1)).length - 1)).map qf := by
  unfold tpF; simp only [hg.mapB, dec_qp, List.length_map]
theorem tpF_no {ps : List Pt} (h : mapB ps = false) : tpF ps = [] := by unfold tpF; simp only [h]
theorem tpF_len (ps : List Pt) : (tpF ps).length ≤ 1048576 := by
  unfold tpF
  cases h : mapB ps with
  | false => simp
  | true =>
    have h2 := map_len h
    have := lapsK_len (dirR (dec ps)) (ps.length - 1)
    simp only [tpK, List.length_map, List.length_take]
    omega
theorem frcs2_snoc' (l : List Rat) (y : Rat) : frcs ((l ++ [y]).map qf) = frcs (l.map qf) ++ [.int .i64 y.num, .int .i64 y.den] := by
  rw [List.map_append, ← frcs_snoc]; rfl

set_option maxRecDepth 100000 in
set_option maxHeartbeats 1600000 in
theorem iTurn_map (g m c base : Nat) (qs : List QP) (w : World) (ha : w.ownsRow base 50 4 (.slice (some ⟨g, 0, none⟩) (m + 1) c) (m + 1) (ptcs (qs.map qp))) (hg : GMap qs) (hm : mapB (qs.map qp) = true) (hn : m + 1 ≤ 1048576) :
    Calls Tryz.prog 51 #[.slice (some ⟨g, 0, none⟩) (m + 1) c] w fun e w' => ∃ v : Value, e = .returned (.tuple #[v, .bool true]) ∧ w'.ownsRow w.heap.size 23 2 v ((lapsK (dirR qs) m).length - 1) (frcs ((tpK qs m ((lapsK (dirR qs) m).length - 1)).map qf)) ∧ Below w.heap.size w w' := by
  obtain ⟨i0, hi0, hz0, hz1, hz2⟩ := info_parts iRat
  have hlen : qs.length = m + 1 := by have := own_len ha; rw [List.length_map] at this; exact this
  have hlo := hg.lo
  have hhi := hg.hi
  rw [hlen] at hlo hhi
  have hgl : g < w.heap.size := (ha.lt g rfl).2
  have hcon := iLaps_map g m c base qs w ha hg hm hn
  have HC := hide hcon
  clear hcon hm
  have HA := hide ha; clear ha hlen
  obtain ⟨P, hP⟩ : ∃ P, (lapsK (dirR qs) m).length = P + 1 := by
    obtain ⟨m', rfl⟩ : ∃ m', m = m' + 1 := ⟨m - 1, by omega⟩
    exact ⟨(lapInit (dirR qs) m').length, by simp [lapsK]⟩
  have hPm := lapsK_len (dirR qs) m
  rw [hP] at hPm
  rw [hP, Nat.add_sub_cancel]
  go_enter Tryz.func51, Tryz.ntmps51
  go_wp2_with fail
  refine (unhide HC).mono ?_
  rintro e w1 ⟨v, bs, rfl, hnest, hbw1⟩
  have hz1w := hbw1.size
  obtain ⟨A1, d1, rfl⟩ := hnest.slice
  have hrl : (lapRows (dirR qs) m).length = P + 1 := by rw [lapRows, List.length_map, hP]
  rw [hrl] at hnest ⊢
  have hcap := hnest.cap
  obtain ⟨go, _, rfl, -⟩ := hnest.at (i := 0) (r := (lapRows (dirR qs) m)[0]) (List.getElem?_eq_getElem (by omega))
  have HN := hide hnest
  have HP := Lib.hid hP
  clear hnest hP hrl
  have a1 : (1 : Int) ≤ (P : Int) + 1 := by omega
  rcases Nat.lt_or_ge d1 2 with hd1 | hd1
  · obtain rfl : P = 0 := by omega
    obtain rfl : d1 = 1 := by omega
    go_wp2_with fail
    go_loopw [6, 19] (fun v i wr => v = .slice none 0 0 ∧ i = .int .i64 0 ∧ wr = w1) (fun _ _ _ => 0)
    case atStart => exact ⟨rfl, rfl, rfl⟩
    case round =>
      obtain ⟨rfl, rfl, rfl⟩ := hrel
      go_wp2
      go_ret2
      exact ⟨_, rfl, World.ownsRow_nil _ _ _ _, hbw1⟩
  obtain ⟨D, rfl⟩ : ∃ D, d1 = D + 1 + 1 := ⟨d1 - 2, by omega⟩
  have a2 : (P : Int) + 1 ≤ (D : Int) + 1 + 1 := by omega
  go_wp2_with fail
  go_loopw [6, 19] (fun v i wr => ∃ (k : Nat) (u : Value), i = .int .i64 (k : Int) ∧ u = v ∧ k ≤ P ∧ wr.ownsRow w1.heap.size 23 2 u k (frcs ((tpK qs m k).map qf)) ∧ Below w1.heap.size w1 wr) (fun _ i _ => P - (intOf i).toNat)
  case atStart => exact ⟨0, _, rfl, rfl, by omega, World.ownsRow_nil _ _ _ _, Below.refl _ _⟩
  case round =>
    obtain ⟨k, u, rfl, rfl, hk, hown, hbwr⟩ := hrel
    have hzwr := hbwr.size
    by_cases hlt : k < P
    · have hkl : k + 1 < (lapsK (dirR qs) m).length := by rw [HP.out]; omega
      obtain ⟨r, hr⟩ : ∃ r, (lapsK (dirR qs) m)[k + 1]? = some r := ⟨_, List.getElem?_eq_getElem hkl⟩
      have hrr : (lapRows (dirR qs) m)[k + 1]? = some (lapRow r) := by unfold lapRows; rw [List.getElem?_map, hr]; rfl
      obtain ⟨go', b, hgo', -, -, -, hgl2, hbl, hBb, hgb, hoc, hcells⟩ := ((unhide HN).below hbwr).at hrr
      obtain rfl : go = go' := (Addr.mk.inj (Option.some.inj hgo')).1
      have hc0 := (hcells 0 (r.1 : Int) rfl).1
      have hr1 : r.1 + 1 ≤ m := lapsK_lt m r (List.mem_iff_getElem?.2 ⟨_, hr⟩)
      rw [Nat.add_comm k 1] at hoc
      rw [show (lapRow r).length = 3 from rfl] at hoc
      have hsn : frcs ((tpK qs m (k + 1)).map qf) = frcs ((tpK qs m k).map qf) ++ [.int .i64 (qAt qs r.1).1.num, .int .i64 (qAt qs r.1).1.den] := by
        rw [tpK_succ hr, frcs2_snoc']
      obtain ⟨k0, k1, _, _⟩ := q_cells (own_below (unhide HA) (hbw1.trans (hbwr.mono hz1w))) (k := r.1) (by omega)
      have HSN := Lib.hid hsn
      clear hcells hsn hr hrr hgo' hkl
      generalize r.1 = q at *
      generalize (qAt qs q).1.num = xn at *
      generalize ((qAt qs q).1.den : Int) = xd at *
      have s2 : (0 : Int) ≤ (q : Int) := by omega
      have s3 : (q : Int) < (m : Int) + 1 := by omega
      have hvB : ∀ j, u.ownBlock = some j → w1.heap.size ≤ j := fun j e => (hown.lt j e).1
      have HO := hide hown
      have HV := hide hvB
      have HB := hide hbwr
      clear hown hvB hbwr
      go_wp2_with (at_builtin; refine wpList_append_lies _ rfl _ _ _ rfl w1.heap.size 23 i0 _ 2 16 Tryz.underlying43 hi0 hz0 hz1 hz2 rfl (by omega) u k _ rfl (World.ownsRow.alloc (unhide HO) _) ⟨wr.heap.size, 0, none⟩ 1 1 [.int .i64 xn, .int .i64 xd] rfl rfl (World.news_of_block (cs := #[.int .i64 xn, .int .i64 xd]) (t := 23) (fr := (0, 0)) (heap_alloc_new wr _)) (by simp [Value.oneCell']) (by omega) (by unfold maxLen; omega) (by omega) (by simp; omega) (wr.heap.size + 1) (by simp) ?_; intro gg cap w4 hown4 hgrow hat hlt4)
      have hb := unhide HB
      rw [← HSN.out] at hown4
      have hby : Below wr.heap.size wr (wr.alloc (.cells #[.int .i64 xn, .int .i64 xd] 23)) := (by repeat (first | with_reducible exact Below.refl _ _ | with_reducible assumption | (with_reducible refine Below.trans ?_ (Below.mono (by assumption) (by first | omega | (simp <;> omega)))) | with_reducible apply Below.drew | with_reducible apply below_drewN | (with_reducible refine Below.alloc ?_ (by first | omega | (simp <;> omega)) _) | (with_reducible refine Below.setCell ?_ (by first | omega | (simp <;> omega)) _)))
      have hbz : Below w1.heap.size w1 w4 := (hb.trans (hby.mono hb.size)).grown hgrow (by have := hby.size; omega) (unhide HV)
      have HO4 := hide hown4
      have HBZ := hide hbz
      clear hown4 hby hgrow hb hbz
      go_wp2_with fail
      go_roundw
      case rel => exact ⟨k + 1, _, by go_num, rfl, by omega, unhide HO4, unhide HBZ⟩
      case measure => (simp [intOf] <;> omega)
    · obtain rfl : k = P := by omega
      have HO := hide hown
      have HB := hide hbwr
      clear hown hbwr
      go_wp2
      go_ret2
      exact ⟨_, rfl, (unhide HO).mono hz1w, hbw1.trans ((unhide HB).mono hz1w)⟩

set_option maxRecDepth 100000 in
theorem iTurningPoints_any (A : Option Addr) (n c base : Nat) (ps : List Pt) (w : World) (ha : w.ownsRow base 50 4 (.slice A n c) n (ptcs ps)) (hn : n ≤ 1048576) :
    Calls Tryz.prog 51 #[.slice A n c] w fun e w' => GivesR w.heap.size (tpF ps) (mapB ps) e w' ∧ Below w.heap.size w w' := by
  rcases hm : mapB ps with _ | _
  · have hl := iLapsOf_any A n c base ps w ha hn
    rw [hm, lapF_no hm] at hl
    rw [tpF_no hm]
    have HM := hide hl; clear hl hm ha
    go_enter Tryz.func51, Tryz.ntmps51
    go_wp2_with (go_at_call 65; (with_reducible refine (unhide HM).mono ?_); rintro e w1 ⟨⟨A1, d1, b1, rfl, hn1⟩, hbw1⟩)
    go_ret2
    exact ⟨⟨none, 0, rfl, World.ownsRow_nil _ _ _ _⟩, hbw1⟩
  · obtain ⟨g, m, qs, rfl, rfl, rfl, hg, hlen⟩ := own_form ha hm
    rw [tpF_map hg, hlen, Nat.add_sub_cancel]
    refine (iTurn_map g m c base qs w ha hg hm hn).mono ?_
    rintro e w' ⟨v, rfl, ho, hb⟩
    obtain ⟨B, d, rfl⟩ := own_slice ho
    have hll : (tpK qs m ((lapsK (dirR qs) m).length - 1)).length = (lapsK (dirR qs) m).length - 1 := by simp [tpK]
    exact ⟨⟨B, d, by rw [List.length_map, hll], by rw [List.length_map, hll]; exact ho⟩, hb⟩
end Go.Proofs.YtldmgjeecomddaaGreatDoor

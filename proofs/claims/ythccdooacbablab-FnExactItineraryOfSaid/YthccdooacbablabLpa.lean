/-
  Chapter 2: LapsOf and TurningPoints: what both return, at any argument.
-/
import Derived.Test.YthccdooacbablabLp
import Derived.Test.YthccdooacbablabSima
namespace Go.Proofs.Ythccdooacbablab
open Go.RowKit Rm

def lapF (ps : List Pt) : List (List Int) := match mapB ps with | true => lapRows (dirR (dec ps)) (ps.length - 1) | false => []
theorem lapF_map {qs : List QP} (hg : GMap qs) : lapF (qs.map qp) = lapRows (dirR qs) (qs.length - 1) := by
  unfold lapF; simp only [hg.mapB, dec_qp, List.length_map]
theorem lapF_no {ps : List Pt} (h : mapB ps = false) : lapF ps = [] := by unfold lapF; simp only [h]
theorem lapsK_len (d : Nat → Int) : ∀ k, (lapsK d k).length ≤ k
  | 0 => by simp [lapsK]
  | k + 1 => by have := lapInit_len (d := d) k; simp [lapsK]; omega
theorem map_len {ps : List Pt} (h : mapB ps = true) : ps.length ≤ 12 := by
  rcases Decidable.em (2 ≤ ps.length ∧ ps.length ≤ 12) with h1 | h1
  · exact h1.2
  · rw [mapB_len h1] at h; cases h
theorem lapF_len (ps : List Pt) : (lapF ps).length ≤ 1048576 := by
  unfold lapF
  cases h : mapB ps with
  | false => simp
  | true =>
    have h2 := map_len h
    have := lapsK_len (dirR (dec ps)) (ps.length - 1)
    simp only [lapRows, List.length_map]
    omega
/-- The answer of a function that gives a slice of rows and whether the map is one. -/
def GivesN (B : Nat) (rows : List (List Int)) (z : Bool) (e : Ending) (w' : World) : Prop :=
  ∃ (A : Option Addr) (d : Nat) (bs : List Nat), e = .returned (.tuple #[.slice A rows.length d, .bool z]) ∧ Nest w' B (.slice A rows.length d) bs rows
theorem Nest.cap {W : World} {B : Nat} {A : Option Addr} {n c : Nat} {bs : List Nat} {rows : List (List Int)} (h : Nest W B (.slice A n c) bs rows) : n ≤ c := by
  rcases h.outer.2 with ⟨hv, h0⟩ | ⟨g, cap, _, hv, _, _, h3, _⟩
  · injection hv with _ h1 h2; omega
  · injection hv with _ h1 h2; omega
set_option maxRecDepth 100000 in
theorem iLapsOf_any (A : Option Addr) (n c base : Nat) (ps : List Pt) (w : World) (ha : w.ownsRow base 45 4 (.slice A n c) n (ptcs ps)) (hn : n ≤ 1048576) :
    Calls Try.prog 31 #[.slice A n c] w fun e w' => GivesN w.heap.size (lapF ps) (mapB ps) e w' ∧ Below w.heap.size w w' := by
  rcases hm : mapB ps with _ | _
  · have hmap := isMap_any A n c base ps w ha hn
    rw [hm] at hmap
    rw [lapF_no hm]
    have HM := hide hmap; clear hmap hm ha
    go_enter Try.func31, Try.ntmps31
    go_wp2_with (go_at_call 46; (with_reducible refine (unhide HM).mono ?_); rintro e w1 ⟨rfl, hbw1⟩)
    go_ret2
    exact ⟨⟨none, 0, [], rfl, Nest.nil _ _⟩, hbw1⟩
  · obtain ⟨g, m, qs, rfl, rfl, rfl, hg, hlen⟩ := own_form ha hm
    rw [lapF_map hg, hlen, Nat.add_sub_cancel]
    refine (iLaps_map g m c base qs w ha hg hm hn).mono ?_
    rintro e w' ⟨v, bs, rfl, ho, hb⟩
    obtain ⟨B, d, rfl⟩ := ho.slice
    exact ⟨⟨B, d, bs, rfl, ho⟩, hb⟩
/-! ### TurningPoints -/
/-- The first k turning points. -/
def tpK (qs : List QP) (m k : Nat) : List Rat := (((lapsK (dirR qs) m).drop 1).take k).map fun r => (qAt qs r.1).1
theorem tpK_succ {qs : List QP} {m k : Nat} {r : Lap} (h : (lapsK (dirR qs) m)[k + 1]? = some r) : tpK qs m (k + 1) = tpK qs m k ++ [(qAt qs r.1).1] := by
  unfold tpK
  rw [List.take_add_one, List.map_append, List.getElem?_drop, Nat.add_comm 1 k, h]
  rfl
theorem tpK_len {qs : List QP} {m k : Nat} (h : k + 1 ≤ (lapsK (dirR qs) m).length) : (tpK qs m k).length = k := by
  unfold tpK
  rw [List.length_map, List.length_take, List.length_drop]
  omega
def tpF (ps : List Pt) : List Fr := match mapB ps with | true => (tpK (dec ps) (ps.length - 1) ((lapsK (dirR (dec ps)) (ps.length - 1)).length - 1)).map qf | false => []
theorem tpF_map {qs : List QP} (hg : GMap qs) : tpF (qs.map qp) = (tpK qs (qs.length - 1) ((lapsK (dirR qs) (qs.length - 1)).length - 1)).map qf := by
  unfold tpF; simp only [hg.mapB, dec_qp, List.length_map]
theorem tpF_no {ps : List Pt} (h : mapB ps = false) : tpF ps = [] := by unfold tpF; simp only [h]
theorem tpF_len (ps : List Pt) : (tpF ps).length ≤ 1048576 := by
  unfold tpF
  cases h : mapB ps with
  | false => simp
  | true =>
    have h2 := map_len h
    have := lapsK_len (dirR (dec ps)) (ps.length - 1)
    simp only [tpK, List.length_map, List.length_take]
    omega
theorem frcs2_snoc' (l : List Rat) (y : Rat) : frcs ((l ++ [y]).map qf) = frcs (l.map qf) ++ [.int .i64 y.num, .int .i64 y.den] := by
  rw [List.map_append, ← frcs_snoc]; rfl

end Go.Proofs.Ythccdooacbablab

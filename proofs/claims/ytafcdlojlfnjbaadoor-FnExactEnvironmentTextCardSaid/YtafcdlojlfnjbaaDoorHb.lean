/-
  Environments: the law's copy of a list of named maps, and two copies compared.
-/
import Derived.Test.YtafcdlojlfnjbaaDoorHa
import Derived.Test.YtafcdlojlfnjbaaDoorNs
namespace Go.Proofs.YtafcdlojlfnjbaaDoor
open Go.RowKit Rm

def nmc (x : ByteArray × Nat × List Pt) : List Value := [.string x.1, .slice (some ⟨x.2.1, 0, none⟩) x.2.2.length x.2.2.length]
def nmcs (xs : List (ByteArray × Nat × List Pt)) : List Value := xs.flatMap nmc
theorem nmcs_len (xs : List (ByteArray × Nat × List Pt)) : (nmcs xs).length = xs.length * 2 := flat_len (f := nmc) (fun _ => rfl) xs
theorem nmcs_at {xs : List (ByteArray × Nat × List Pt)} {k : Nat} {x : ByteArray × Nat × List Pt} (h : xs[k]? = some x) :
    (nmcs xs)[k * 2]? = some (.string x.1) ∧ (nmcs xs)[k * 2 + 1]? = some (.slice (some ⟨x.2.1, 0, none⟩) x.2.2.length x.2.2.length) := by
  unfold nmcs
  constructor
  · have := flat_get (f := nmc) (m := 2) (fun _ => rfl) xs k 0 (by omega)
    rw [Nat.add_zero, h] at this
    exact this
  · have := flat_get (f := nmc) (m := 2) (fun _ => rfl) xs k 1 (by omega)
    rw [h] at this
    exact this
/-- What the points of an element hold: the text, the points. -/
def neP (e : NE) : ByteArray × List Pt := (e.s, e.ps)
def nmP (x : ByteArray × Nat × List Pt) : ByteArray × List Pt := (x.1, x.2.2)
/-- A list of named maps in new memory: each list of points has a block of its own. -/
structure NestN (W : World) (B : Nat) (v : Value) (xs : List (ByteArray × Nat × List Pt)) : Prop where
  outer : W.ownsRow B 37 2 v xs.length (nmcs xs)
  row : ∀ x ∈ xs, W.ownsRow B 57 4 (.slice (some ⟨x.2.1, 0, none⟩) x.2.2.length x.2.2.length) x.2.2.length (ptcs x.2.2)
  sep : ∀ x ∈ xs, v.ownBlock ≠ some x.2.1
  nodup : (xs.map fun x => x.2.1).Nodup
theorem NestN.kept {W W' : World} {B : Nat} {v : Value} {xs : List (ByteArray × Nat × List Pt)} {row : Option Nat} (h : NestN W B v xs) (hg : W.grownBy W' row)
    (hv : ∀ k, v.ownBlock = some k → some k ≠ row) (hb : ∀ x ∈ xs, some x.2.1 ≠ row) : NestN W' B v xs :=
  ⟨own_kept' h.outer hg hv, fun x hx => own_kept' (h.row x hx) hg (fun k hk => by
    obtain rfl : x.2.1 = k := Option.some.inj hk
    exact hb x hx), h.sep, h.nodup⟩
theorem NestN.below {W W' : World} {B : Nat} {v : Value} {xs : List (ByteArray × Nat × List Pt)} (h : NestN W B v xs) (hb : Below W.heap.size W W') : NestN W' B v xs :=
  h.kept (row := none) ⟨hb.os, hb.tape, hb.output, hb.size, fun i hi _ => hb.block i hi⟩ (fun _ _ => by simp) (fun _ _ => by simp)
theorem NestN.mono {W : World} {B B' : Nat} {v : Value} {xs : List (ByteArray × Nat × List Pt)} (h : NestN W B v xs) (hb : B' ≤ B) : NestN W B' v xs :=
  ⟨h.outer.mono hb, fun x hx => (h.row x hx).mono hb, h.sep, h.nodup⟩
/-- Element k. -/
theorem NestN.at {W : World} {B g n c : Nat} {xs : List (ByteArray × Nat × List Pt)} (h : NestN W B (.slice (some ⟨g, 0, none⟩) n c) xs) {k : Nat} {x : ByteArray × Nat × List Pt} (hx : xs[k]? = some x) :
    g < W.heap.size ∧ B ≤ g ∧ W.cell? ⟨g, k * 2, none⟩ = some (.string x.1) ∧ W.cell? ⟨g, k * 2 + 1, none⟩ = some (.slice (some ⟨x.2.1, 0, none⟩) x.2.2.length x.2.2.length) ∧
      W.ownsRow B 57 4 (.slice (some ⟨x.2.1, 0, none⟩) x.2.2.length x.2.2.length) x.2.2.length (ptcs x.2.2) := by
  have hk : k < xs.length := by
    rcases Nat.lt_or_ge k xs.length with h1 | h1
    · exact h1
    · rw [List.getElem?_eq_none h1] at hx; cases hx
  obtain ⟨h1, h2⟩ := nmcs_at hx
  have hl := nmcs_len xs
  have hw := h.outer
  have hlt := hw.lt g rfl
  obtain ⟨g', cap, hv, _, _⟩ := hw.form (by omega)
  have hn : n = xs.length := by injection hv
  subst hn
  exact ⟨hlt.2, hlt.1, (hw.cellAt (k * 2) (by omega)).trans h1, (hw.cellAt (k * 2 + 1) (by omega)).trans h2, h.row x (List.mem_iff_getElem?.2 ⟨k, hx⟩)⟩

theorem iNamed : (Tryd.prog.info? 37).map (fun i => (i.zero, i.size, i.bytes)) = some (some (.agg #[.string ⟨#[]⟩, .slice none 0 0]), 2, 40) := by kernel_rfl

set_option maxRecDepth 100000 in
set_option maxHeartbeats 800000 in
theorem toNamed_any (s : ByteArray) (A : Option Addr) (n c : Nat) (ps : List Pt) (w : World) (ha : ArgP w A n ps) (hn : n ≤ 1048576) :
    Calls Tryd.prog 12 #[.agg #[.string s, .slice A n c]] w fun e w' => ∃ g : Nat, e = .returned (.agg #[.string s, .slice (some ⟨g, 0, none⟩) n n]) ∧
      w'.ownsRow w.heap.size 57 4 (.slice (some ⟨g, 0, none⟩) n n) n (ptcs ps) ∧ Below w.heap.size w w' := by
  have ht := fun W hW => toPointS_any A n c ps W hW hn
  have HT := hide ht; have HA := hide ha
  clear ht ha
  go_enter Tryd.func12, Tryd.ntmps12
  go_wp2_with (go_at_call 22; (with_reducible refine ((unhide HT) _ ((unhide HA).below ?pb)).mono ?_); (case pb => exact (by repeat (first | with_reducible exact Below.refl _ _ | with_reducible assumption | (with_reducible refine Below.trans ?_ (Below.mono (by assumption) (by first | omega | (simp <;> omega)))) | with_reducible apply Below.drew | with_reducible apply below_drewN | (with_reducible refine Below.alloc ?_ (by first | omega | (simp <;> omega)) _) | (with_reducible refine Below.setCell ?_ (by first | omega | (simp <;> omega)) _)))); rintro e w1 ⟨g1, rfl, ho1, hbw1⟩; have hz1 := hbw1.size; (try simp at hz1); (skip; (try ((have kw1w0 := (bnew hbw1) (w.heap.size) ?pf); (case pf => (first | omega | (simp; done) | (simp; omega))); obtain ⟨kcw1w0, kfw1w0, klw1w0⟩ := kw1w0)); (try ((have kw1w1 := (bnew hbw1) (w.heap.size + 1) ?pf); (case pf => (first | omega | (simp; done) | (simp; omega))); obtain ⟨kcw1w1, kfw1w1, klw1w1⟩ := kw1w1)); (try ((have kw1w2 := (bnew hbw1) (w.heap.size + 1 + 1) ?pf); (case pf => (first | omega | (simp; done) | (simp; omega))); obtain ⟨kcw1w2, kfw1w2, klw1w2⟩ := kw1w2))); have HO1 := hide ho1; clear ho1)
  have ho := (unhide HO1).mono (show w.heap.size + 1 + 1 + 1 ≤ _ by simp)
  refine bodyPost_ret (v := .agg #[.string s, .slice (some ⟨g1, 0, none⟩) n n]) (by simp [results, Tryd.results12, go_sem, *]) rfl ⟨g1, rfl, ?_, (by repeat (first | with_reducible exact Below.refl _ _ | with_reducible assumption | (with_reducible refine Below.trans ?_ (Below.mono (by assumption) (by first | omega | (simp <;> omega)))) | with_reducible apply Below.drew | with_reducible apply below_drewN | (with_reducible refine Below.alloc ?_ (by first | omega | (simp <;> omega)) _) | (with_reducible refine Below.setCell ?_ (by first | omega | (simp <;> omega)) _)))⟩
  exact (ownsRow_setCell_below (ownsRow_setCell_below (ownsRow_setCell_below ho (by show w.heap.size + 1 + 1 < _; omega) _) (by show w.heap.size + 1 < _; omega) _) (by show w.heap.size + 1 < _; omega) _).mono (by omega)

theorem nodup_snoc {l : List Nat} {a : Nat} (h : l.Nodup) (ha : ∀ b ∈ l, b < a) : (l ++ [a]).Nodup := by
  rw [List.nodup_append]
  exact ⟨h, by simp, fun x hx y hy => by
    have := ha x hx
    rw [List.mem_singleton] at hy
    omega⟩

set_option maxHeartbeats 1600000 in
set_option maxRecDepth 100000 in
theorem toNamedS_any (A : Option Addr) (n c : Nat) (L : List NE) (w : World) (ha : ArgN w A n L) (hn : n ≤ 1048576) (hall : ∀ e ∈ L, e.n ≤ 1048576) :
    Calls Tryd.prog 6 #[.slice A n c] w fun e w' => ∃ g : Nat, e = .returned (.slice (some ⟨g, 0, none⟩) n n) ∧ (∃ ys : List (ByteArray × Nat × List Pt), ys.map nmP = L.map neP ∧
      NestN w' w.heap.size (.slice (some ⟨g, 0, none⟩) n n) ys) ∧ Below w.heap.size w w' := by
  obtain ⟨i0, hi0, hz0, hz1, hz2⟩ := info_parts iNamed
  have hmk := fun W : World => run_make_full (P := Tryd.prog) W W.heap.size 26 37 i0 _ 2 Tryd.underlying26 hi0 hz0 hz1 .i64 .i64 n (by rw [hz2]; omega) (by unfold maxLen; omega) (Nat.le_refl _)
  obtain ⟨w1, hr1, ho1, hg1⟩ := hmk w
  clear hmk
  have hlen := ha.1
  have hsz1 : w.heap.size + 1 ≤ w1.heap.size := by have := (ho1.lt w.heap.size rfl).2; omega
  have HA := hide ha; have HALL := hide hall
  have HO := hide ho1
  have HG := hide hg1
  clear ha ho1 hg1 hall
  go_enter Tryd.func6, Tryd.ntmps6
  go_wp2
  go_loopw [4] (fun i wr => ∃ (k : Nat) (xs : List Value) (ys : List (ByteArray × Nat × List Pt)), i = .int .i64 k ∧ k ≤ n ∧ wr.ownsRow w.heap.size 37 2 (.slice (some ⟨w.heap.size, 0, none⟩) n n) n xs ∧ Hid (∀ j, j < k * 2 → xs[j]? = (nmcs ys)[j]?) ∧
      Hid (ys.map nmP = (L.take k).map neP) ∧ Hid (∀ y ∈ ys, wr.ownsRow (w.heap.size + 1) 57 4 (.slice (some ⟨y.2.1, 0, none⟩) y.2.2.length y.2.2.length) y.2.2.length (ptcs y.2.2)) ∧ Hid (ys.map fun x => x.2.1).Nodup ∧ Below w.heap.size w wr ∧ w.heap.size + 1 ≤ wr.heap.size) (fun i _ => n - (intOf i).toNat)
  case atStart => exact ⟨0, _, [], rfl, Nat.zero_le _, HO.out, hide (fun j hj => absurd hj (by omega)), hide rfl, hide (fun y hy => by cases hy), hide List.nodup_nil, (Below.refl _ _).grown HG.out (Nat.le_refl _) (by simp), hsz1⟩
  case round =>
    obtain ⟨k, xs, ys, rfl, hk, hown, hxs, hys, hrows, hnd, hb, h1w⟩ := hrel
    have hyl : ys.length = k := by
      have := congrArg List.length (unhide hys)
      rw [List.length_map, List.length_map, List.length_take] at this
      omega
    by_cases hlt : k < n
    · obtain ⟨ad, rfl, hbl, hcell⟩ := ((unhide HA).2.2) (by omega)
      obtain ⟨e, he⟩ : ∃ e, L[k]? = some e := ⟨_, List.getElem?_eq_getElem (by omega)⟩
      obtain ⟨h0, h1⟩ := hcell k e he
      clear hcell
      have hmem : e ∈ L := List.mem_iff_getElem?.2 ⟨k, he⟩
      obtain ⟨_, _, hep⟩ := (unhide HA).2.1 e hmem
      have hel := hep.1
      have hys2 : ys.map nmP ++ [neP e] = (L.take (k + 1)).map neP := by
        rw [unhide hys]
        have hkl : k < L.length := by omega
        rw [List.take_succ_eq_append_getElem hkl, List.map_append]
        rw [List.getElem?_eq_getElem hkl] at he
        rw [Option.some.inj he]
        rfl
      replace h0 : wr.cell? (ad.add (k * 2)) = some (.string e.s) := (hb.cell (by rw [block_add]; exact hbl)).trans h0
      replace h1 : wr.cell? ⟨(ad.add (k * 2)).block, (ad.add (k * 2)).off + 1, none⟩ = some (.slice e.A e.n e.c) := (hb.cell (by show (ad.add (k * 2)).block < _; rw [block_add]; exact hbl)).trans h1
      have ht := fun (W : World) (hW : Below w.heap.size w W) => toNamed_any e.s e.A e.n e.c e.ps W (hep.below hW) ((unhide HALL) e hmem)
      have HT := hide ht; have HYS := hide hys2
      clear hr1 ht hep hmem he hys2 hys
      have HB := hide hb
      have HOW := hide hown
      have hbs := hb.size
      obtain ⟨hg0, hgl⟩ := hown.lt w.heap.size rfl
      have hff := fun j => hown.frozenAt (g := w.heap.size) (n := n) (cap := n) j
      have hc0 := hown.cellAt (g := w.heap.size) (n := n) (cap := n) (k * 2) (by omega)
      have hc1 := hown.cellAt (g := w.heap.size) (n := n) (cap := n) (k * 2 + 1) (by omega)
      have hxl := hown.1
      rw [List.getElem?_eq_getElem (by omega)] at hc0 hc1
      clear hb hown
      go_wp2_with (go_at_call 12; (with_reducible refine ((unhide HT) _ (unhide HB)).mono ?_); rintro e2 w2 ⟨g2, rfl, ho2, hbw2⟩; obtain ⟨hcw2, hfw2⟩ := bcell hbw2; have hz2' := hbw2.size; have HO2 := hide ho2; clear ho2; (skip; (try ((have kw2w.heap.sizeX0 := (bnew hbw2) (w.heap.size) ?pf); (case pf => (first | omega | (simp; done) | (simp; omega))); obtain ⟨kcw2w.heap.sizeX0, kfw2w.heap.sizeX0, klw2w.heap.sizeX0⟩ := kw2w.heap.sizeX0))))
      have hb := unhide HB
      have hb2 : Below w.heap.size w w2 := hb.trans (hbw2.mono hbs)
      have hO2 := ((unhide HO2).mono (show w.heap.size + 1 ≤ _ by omega))
      rw [← hel] at hO2
      have hltg := (unhide HO2).lt g2 rfl
      have hk1 : (ys ++ [(e.s, g2, e.ps)])[k]? = some (e.s, g2, e.ps) := by rw [← hyl]; simp
      obtain ⟨k0, k1⟩ := nmcs_at hk1
      rw [show ((e.s, g2, e.ps) : ByteArray × Nat × List Pt).2.2.length = e.n from hel] at k1
      have hag : ∀ j, j < k * 2 → xs[j]? = (nmcs (ys ++ [(e.s, g2, e.ps)]))[j]? := fun j hj => by
        rw [unhide hxs j hj]
        unfold nmcs
        rw [List.flatMap_append, List.getElem?_append_left (by have := nmcs_len ys; unfold nmcs at this; omega)]
      have hrw2 : ∀ y ∈ ys ++ [(e.s, g2, e.ps)], w2.ownsRow (w.heap.size + 1) 57 4 (.slice (some ⟨y.2.1, 0, none⟩) y.2.2.length y.2.2.length) y.2.2.length (ptcs y.2.2) := fun y hy => by
        rcases List.mem_append.1 hy with h | h
        · exact own_below ((unhide hrows) y h) hbw2
        · rw [List.mem_singleton] at h
          subst h
          exact hO2
      have hnd2 : ((ys ++ [(e.s, g2, e.ps)]).map fun x => x.2.1).Nodup := by
        rw [List.map_append]
        refine nodup_snoc (unhide hnd) (fun b hb => ?_)
        obtain ⟨y, hy, rfl⟩ := List.mem_map.1 hb
        have h1 : y.2.1 < wr.heap.size := (((unhide hrows) y hy).lt _ rfl).2
        have h2 : wr.heap.size ≤ g2 := hltg.1
        show y.2.1 < g2
        omega
      have hys3 : (ys ++ [(e.s, g2, e.ps)]).map nmP = (L.take (k + 1)).map neP := by
        rw [← unhide HYS, List.map_append]
        rfl
      have HAG := hide hag; have HRW := hide hrw2; have HND := hide hnd2; have HY3 := hide hys3; have HB2 := hide hb2
      clear h0 h1 hc0 hc1 hff hcw2 hfw2 hag hrw2 hnd2 hys3 hO2 hk1 hrows hnd hxs hb2 hb
      go_roundw
      case rel => exact ⟨k + 1, _, ys ++ [(e.s, g2, e.ps)], by go_num, by omega, own_set2 (own_below (unhide HOW) hbw2) (k * 2) _ _, hide (set2_agree (unhide HAG) (by omega) k0 k1), HY3, hide (fun y hy => ownsRow_setCell_below (ownsRow_setCell_below ((unhide HRW) y hy) (by show w.heap.size < _; omega) _) (by show w.heap.size < _; omega) _), HND, ((unhide HB2).setCell (Nat.le_refl _) _).setCell (Nat.le_refl _) _, by simp; omega⟩
      case measure => simp [intOf]; omega
    · obtain rfl : k = n := by omega
      have e : xs = nmcs ys := agree_all (unhide hxs) hown.1 (by rw [nmcs_len, hyl])
      subst e
      have HOW := hide hown
      have HB := hide hb
      clear hown hb
      go_wp2
      go_ret
      refine ⟨w.heap.size, rfl, ⟨ys, by rw [unhide hys, List.take_of_length_le (by omega)], ⟨by rw [hyl]; exact unhide HOW, fun y hy => ((unhide hrows) y hy).mono (by omega), fun y hy e => ?_, unhide hnd⟩⟩, unhide HB⟩
      have h1 : w.heap.size + 1 ≤ y.2.1 := (((unhide hrows) y hy).lt _ rfl).1
      have h2 : w.heap.size = y.2.1 := Option.some.inj e
      omega
end Go.Proofs.YtafcdlojlfnjbaaDoor

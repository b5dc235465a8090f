/-
  Chapter 5: the X of the points of one map and of two, of program and model.
-/
import Derived.Test.YtjggjegjhcpjhaaGreatPm
import Derived.Test.YtjggjegjhcpjhaaGreatCm
import Derived.Test.YtjggjegjhcpjhaaGreatFc
namespace Go.Proofs.YtjggjegjhcpjhaaGreat
open Go.RowKit Rm

section
variable {P : Program} {w : World}
theorem wpl_append {ops : Array Oper} {rest : List Oper} {o : Oper} {a : Act} {Q : Exit → Act → World → Prop} (hgd : o.guard = none) (s x : Operand) (t : TypeId)
    (ho : o.op = .call { callee := .builtin .append, args := #[s, x], argTypes := #[t, t] })
    (base : Nat) (e : TypeId) (i : TypeInfo) (z : Value) (size bytes : Nat) (ht : P.underlying t = some (.slice e)) (hi : P.info? e = some i) (hz : i.zero = some z)
    (hsize : i.size = size) (hby : i.bytes = bytes) (hzs : z.cells.size = size) (hsz : 0 < size)
    (v : Value) (n : Nat) (xs : List Value) (hs : a.eval s = v) (hown : w.ownsRow base e size v n xs)
    (xv : Value) (m : Nat) (news : List Value) (hx : a.eval x = xv) (hlie : Lies w xv m news) (hl : news.length = m * size) (h1 : ∀ u ∈ news, u.oneCell' = true)
    (h63 : n + m ≤ maxLen) (hbytes : (n + m) * bytes ≤ 140737488355328) (hbase : base ≤ w.heap.size) (N : Nat) (hN : n + m = N)
    (h : ∀ (A : Option Addr) (c : Nat) (w' : World), w'.ownsRow base e size (.slice A N c) N (xs ++ news) → w.grownBy w' v.ownBlock → wpList P ops Q rest (a.put o.dst (.slice A N c)) w') : wpList P ops Q (o :: rest) a w :=
  wpList_plain hgd fun _ hK => wp_append_any s x t ho base e i z size bytes ht hi hz hsize hby hzs hsz v n xs hs hown xv m news hx hlie hl h1 h63 hbytes hbase N hN fun A c w' h2 h3 => hK _ _ (h A c w' h2 h3)
end
theorem frq_sn' (l : List Rat) (x : Rat) : frcs (l.map qf) ++ [.int .i64 x.num, .int .i64 x.den] = frcs ((l ++ [x]).map qf) := by
  rw [List.map_append, ← frcs_snoc]; rfl
theorem frcs_app (l m : List Rat) : frcs (l.map qf) ++ frcs (m.map qf) = frcs ((l ++ m).map qf) := by rw [List.map_append]; simp [frcs]
theorem take_sn {l : List Rat} {k : Nat} (h : k < l.length) : l.take (k + 1) = l.take k ++ [l.getD k 0] := by
  rw [List.take_add_one, List.getElem?_eq_getElem h, List.getD_eq_getElem?_getD, List.getElem?_eq_getElem h]; rfl
theorem lies_own {W : World} {base n : Nat} {A : Option Addr} {c : Nat} {e : TypeId} {xs : List Value} (h : W.ownsRow base e 2 (.slice A n c) n xs) : Lies W (.slice A n c) n xs := by
  rcases h.2 with ⟨hv, h0⟩ | ⟨g, cap, cur, hv, _, _, _, _, _, _⟩
  · subst h0
    exact .inl ⟨hv, rfl, by have := h.1; simpa using this⟩
  · have e1 : A = some ⟨g, 0, none⟩ := by injection hv
    subst e1
    refine .inr ⟨_, _, rfl, fun j u hu => ?_⟩
    rw [add_at, Nat.zero_add]
    have hj : j < xs.length := by
      rcases Nat.lt_or_ge j xs.length with h1 | h1
      · exact h1
      · rw [List.getElem?_eq_none h1] at hu; cases hu
    rw [h.cellAt j (by rw [← h.1]; exact hj)]
    exact hu
set_option maxRecDepth 100000 in
set_option maxHeartbeats 1600000 in
theorem placesOf_map (g n c base : Nat) (qs : List QP) (w : World) (ha : w.ownsRow base 63 4 (.slice (some ⟨g, 0, none⟩) n c) n (ptcs (qs.map qp))) (hn : n ≤ 1000) :
    Calls Tryz.prog 193 #[.slice (some ⟨g, 0, none⟩) n c] w fun e w' => ∃ (A : Option Addr) (d : Nat), e = .returned (.slice A n d) ∧ w'.ownsRow w.heap.size 37 2 (.slice A n d) n (frcs ((xsOf qs).map qf)) ∧ Below w.heap.size w w' := by
  obtain ⟨i0, hi0, hz0, hz1, hz2⟩ := info_parts iRat
  have hlen : qs.length = n := by have := own_len ha; rw [List.length_map] at this; exact this
  have hgl := (ha.lt g rfl).2
  have HA := hide ha; clear ha
  have HL := Lib.hid hlen; clear hlen
  go_enter Tryz.func193, Tryz.ntmps193
  go_wp2
  go_loopw [3, 8] (fun v i wr => ∃ (k : Nat) (u : Value), i = .int .i64 k ∧ u = v ∧ k ≤ n ∧ wr.ownsRow w.heap.size 37 2 u k (frcs (((xsOf qs).take k).map qf)) ∧ Below w.heap.size w wr) (fun _ i _ => n - (intOf i).toNat)
  case atStart => exact ⟨0, _, rfl, rfl, by omega, World.ownsRow_nil _ _ _ _, Below.refl _ _⟩
  case round =>
    obtain ⟨k, u, rfl, rfl, hk, hown, hbwr⟩ := hrel
    have hzwr := hbwr.size
    by_cases hlt : k < n
    · obtain ⟨k0, k1, k2, k3⟩ := q_cells (own_below (unhide HA) hbwr) (k := k) hlt
      have hsn : frcs (((xsOf qs).take k).map qf) ++ [.int .i64 (qAt qs k).1.num, .int .i64 (qAt qs k).1.den] = frcs (((xsOf qs).take (k + 1)).map qf) := by
        rw [frq_sn', take_sn (by rw [xsOf_len, HL.out]; exact hlt), xsOf_get (by rw [HL.out]; exact hlt)]
      generalize (qAt qs k).1.num = f1 at *
      generalize ((qAt qs k).1.den : Int) = f2 at *
      generalize (qAt qs k).2.num = f3 at *
      generalize ((qAt qs k).2.den : Int) = f4 at *
      have hvB : ∀ j, u.ownBlock = some j → w.heap.size ≤ j := fun j e => (hown.lt j e).1
      have HN := Lib.hid hsn
      have HO := hide hown
      have HV := hide hvB
      have HB := hide hbwr
      clear hsn hown hbwr hvB
      go_wp2_with (at_builtin; refine wpl_append rfl _ _ _ rfl w.heap.size 37 i0 _ 2 16 Tryz.underlying83 hi0 hz0 hz1 hz2 rfl (by omega) u k _ rfl (own_below (unhide HO) (show Below wr.heap.size wr _ from (by repeat (first | with_reducible exact Below.refl _ _ | with_reducible assumption | (with_reducible refine Below.trans ?_ (Below.mono (by assumption) (by first | omega | (simp <;> omega)))) | with_reducible apply Below.drew | with_reducible apply below_drewN | (with_reducible refine Below.alloc ?_ (by first | omega | (simp <;> omega)) _) | (with_reducible refine Below.setCell ?_ (by first | omega | (simp <;> omega)) _))))) _ 1 [.int .i64 f1, .int .i64 f2] rfl (lies2 (by simp [go_sem, *]) (by simp [go_sem, *])) rfl (by simp [Value.oneCell']) (Nat.le_trans (by omega) maxLen_ge) (by omega) (by first | omega | (simp <;> omega)) (k + 1) rfl ?_; intro A4 c4 w4 hown4 hgrow4)
      have hb := unhide HB
      rw [HN.out] at hown4
      have hbz : Below w.heap.size w w4 := Below.grown (show Below w.heap.size w _ from (by repeat (first | with_reducible exact Below.refl _ _ | with_reducible assumption | (with_reducible refine Below.trans ?_ (Below.mono (by assumption) (by first | omega | (simp <;> omega)))) | with_reducible apply Below.drew | with_reducible apply below_drewN | (with_reducible refine Below.alloc ?_ (by first | omega | (simp <;> omega)) _) | (with_reducible refine Below.setCell ?_ (by first | omega | (simp <;> omega)) _)))) hgrow4 (by simp; omega) (unhide HV)
      have HO4 := hide hown4
      have HBZ := hide hbz
      clear hown4 hgrow4 hb hbz
      go_wp2_with fail
      go_roundw
      case rel => exact ⟨k + 1, _, by go_num, rfl, by omega, unhide HO4, unhide HBZ⟩
      case measure => simp [intOf]; omega
    · obtain rfl : k = n := by omega
      obtain ⟨A, d, rfl⟩ := own_slice hown
      rw [List.take_of_length_le (by rw [xsOf_len, HL.out]; exact Nat.le_refl _)] at hown
      have HO := hide hown
      have HB := hide hbwr
      clear hown hbwr
      go_wp2
      go_ret
      exact ⟨_, _, rfl, unhide HO, unhide HB⟩
set_option maxRecDepth 100000 in
set_option maxHeartbeats 1600000 in
theorem coXs_map (g n c base : Nat) (qs : List QP) (w : World) (ha : w.ownsRow base 63 4 (.slice (some ⟨g, 0, none⟩) n c) n (ptcs (qs.map qp))) (hn : n ≤ 1000) :
    Calls Tryz.prog 82 #[.slice (some ⟨g, 0, none⟩) n c] w fun e w' => ∃ (A : Option Addr) (d : Nat), e = .returned (.slice A n d) ∧ w'.ownsRow w.heap.size 37 2 (.slice A n d) n (frcs ((xsOf qs).map qf)) ∧ Below w.heap.size w w' := by
  obtain ⟨i0, hi0, hz0, hz1, hz2⟩ := info_parts iRat
  have hlen : qs.length = n := by have := own_len ha; rw [List.length_map] at this; exact this
  have hgl := (ha.lt g rfl).2
  have HA := hide ha; clear ha
  have HL := Lib.hid hlen; clear hlen
  go_enter Tryz.func82, Tryz.ntmps82
  go_wp2
  go_loopw [3, 8] (fun v i wr => ∃ (k : Nat) (u : Value), i = .int .i64 k ∧ u = v ∧ k ≤ n ∧ wr.ownsRow w.heap.size 37 2 u k (frcs (((xsOf qs).take k).map qf)) ∧ Below w.heap.size w wr) (fun _ i _ => n - (intOf i).toNat)
  case atStart => exact ⟨0, _, rfl, rfl, by omega, World.ownsRow_nil _ _ _ _, Below.refl _ _⟩
  case round =>
    obtain ⟨k, u, rfl, rfl, hk, hown, hbwr⟩ := hrel
    have hzwr := hbwr.size
    by_cases hlt : k < n
    · obtain ⟨k0, k1, k2, k3⟩ := q_cells (own_below (unhide HA) hbwr) (k := k) hlt
      have hsn : frcs (((xsOf qs).take k).map qf) ++ [.int .i64 (qAt qs k).1.num, .int .i64 (qAt qs k).1.den] = frcs (((xsOf qs).take (k + 1)).map qf) := by
        rw [frq_sn', take_sn (by rw [xsOf_len, HL.out]; exact hlt), xsOf_get (by rw [HL.out]; exact hlt)]
      generalize (qAt qs k).1.num = f1 at *
      generalize ((qAt qs k).1.den : Int) = f2 at *
      generalize (qAt qs k).2.num = f3 at *
      generalize ((qAt qs k).2.den : Int) = f4 at *
      have hvB : ∀ j, u.ownBlock = some j → w.heap.size ≤ j := fun j e => (hown.lt j e).1
      have HN := Lib.hid hsn
      have HO := hide hown
      have HV := hide hvB
      have HB := hide hbwr
      clear hsn hown hbwr hvB
      go_wp2_with (at_builtin; refine wpl_append rfl _ _ _ rfl w.heap.size 37 i0 _ 2 16 Tryz.underlying83 hi0 hz0 hz1 hz2 rfl (by omega) u k _ rfl (own_below (unhide HO) (show Below wr.heap.size wr _ from (by repeat (first | with_reducible exact Below.refl _ _ | with_reducible assumption | (with_reducible refine Below.trans ?_ (Below.mono (by assumption) (by first | omega | (simp <;> omega)))) | with_reducible apply Below.drew | with_reducible apply below_drewN | (with_reducible refine Below.alloc ?_ (by first | omega | (simp <;> omega)) _) | (with_reducible refine Below.setCell ?_ (by first | omega | (simp <;> omega)) _))))) _ 1 [.int .i64 f1, .int .i64 f2] rfl (lies2 (by simp [go_sem, *]) (by simp [go_sem, *])) rfl (by simp [Value.oneCell']) (Nat.le_trans (by omega) maxLen_ge) (by omega) (by first | omega | (simp <;> omega)) (k + 1) rfl ?_; intro A4 c4 w4 hown4 hgrow4)
      have hb := unhide HB
      rw [HN.out] at hown4
      have hbz : Below w.heap.size w w4 := Below.grown (show Below w.heap.size w _ from (by repeat (first | with_reducible exact Below.refl _ _ | with_reducible assumption | (with_reducible refine Below.trans ?_ (Below.mono (by assumption) (by first | omega | (simp <;> omega)))) | with_reducible apply Below.drew | with_reducible apply below_drewN | (with_reducible refine Below.alloc ?_ (by first | omega | (simp <;> omega)) _) | (with_reducible refine Below.setCell ?_ (by first | omega | (simp <;> omega)) _)))) hgrow4 (by simp; omega) (unhide HV)
      have HO4 := hide hown4
      have HBZ := hide hbz
      clear hown4 hgrow4 hb hbz
      go_wp2_with fail
      go_roundw
      case rel => exact ⟨k + 1, _, by go_num, rfl, by omega, unhide HO4, unhide HBZ⟩
      case measure => simp [intOf]; omega
    · obtain rfl : k = n := by omega
      obtain ⟨A, d, rfl⟩ := own_slice hown
      rw [List.take_of_length_le (by rw [xsOf_len, HL.out]; exact Nat.le_refl _)] at hown
      have HO := hide hown
      have HB := hide hbwr
      clear hown hbwr
      go_wp2
      go_ret
      exact ⟨_, _, rfl, unhide HO, unhide HB⟩
end Go.Proofs.YtjggjegjhcpjhaaGreat

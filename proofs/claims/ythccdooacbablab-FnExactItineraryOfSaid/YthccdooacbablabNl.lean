/-
  The laws' comparisons and marks of slices of integers and of slices of such slices.
-/
import Derived.Test.YthccdooacbablabNs
import Derived.Test.YthccdooacbablabTu
namespace Go.Proofs.Ythccdooacbablab
open Go.RowKit Rm

def mkI (s : Int) (n : Nat) : List Int := (List.range n).map fun i : Nat => s + (i : Int)
theorem mkI_len (s : Int) (n : Nat) : (mkI s n).length = n := by simp [mkI]
theorem mkI_at {s : Int} {n k : Nat} (h : k < n) : (mkI s n)[k]? = some (s + (k : Int)) := by simp [mkI, h]
def tot (rows : List (List Int)) : Nat := (rows.map List.length).sum
theorem tot_snoc (rows : List (List Int)) (r : List Int) : tot (rows ++ [r]) = tot rows + r.length := by simp [tot]
theorem tot_append (xs ys : List (List Int)) : tot (xs ++ ys) = tot xs + tot ys := by simp [tot]
theorem tot_cons (r : List Int) (rows : List (List Int)) : tot (r :: rows) = r.length + tot rows := by simp [tot]
def mkN : Int → List (List Int) → List (List Int)
  | _, [] => []
  | s, r :: rs => mkI s r.length :: mkN (s + (r.length : Int)) rs
theorem mkN_len : ∀ (s : Int) (rows : List (List Int)), (mkN s rows).length = rows.length
  | _, [] => rfl
  | s, r :: rs => by simp [mkN, mkN_len]
theorem mkN_snoc : ∀ (s : Int) (xs : List (List Int)) (r : List Int), mkN s (xs ++ [r]) = mkN s xs ++ [mkI (s + (tot xs : Int)) r.length]
  | s, [], r => by simp [mkN, tot]
  | s, x :: xs, r => by
    simp only [List.cons_append, mkN, mkN_snoc (s + (x.length : Int)) xs r, tot_cons]
    rw [show s + (x.length : Int) + (tot xs : Int) = s + ((x.length + tot xs : Nat) : Int) by omega]
theorem mkN_append : ∀ (s : Int) (xs ys : List (List Int)), mkN s (xs ++ ys) = mkN s xs ++ mkN (s + (tot xs : Int)) ys
  | s, [], ys => by simp [mkN, tot]
  | s, x :: xs, ys => by
    simp only [List.cons_append, mkN, mkN_append (s + (x.length : Int)) xs ys, tot_cons]
    rw [show s + (x.length : Int) + (tot xs : Int) = s + ((x.length + tot xs : Nat) : Int) by omega]

set_option maxRecDepth 100000 in
set_option maxHeartbeats 400000 in
theorem eqIntS_same (A B : Option Addr) (n c d b1 b2 : Nat) (r : List Int) (w : World) (ha : w.ownsRow b1 3 1 (.slice A n c) n (ints r)) (hb : w.ownsRow b2 3 1 (.slice B n d) n (ints r)) (hn : n ≤ 1048576) :
    Calls Try.prog 9 #[.slice A n c, .slice B n d] w fun e w' => e = .returned (.bool true) ∧ Below w.heap.size w w' := by
  have hl : r.length = n := by have := ha.1; rw [ints_len] at this; omega
  have HA := hide ha
  have HB := hide hb
  have HL := Lib.hid hl
  clear ha hb hl
  go_enter Try.func9, Try.ntmps9
  go_wp2
  go_loopw [5] (fun i wr => ∃ k : Nat, i = .int .i64 k ∧ k ≤ n ∧ Below w.heap.size w wr) (fun i _ => n - (intOf i).toNat)
  case atStart => exact ⟨0, rfl, Nat.zero_le _, Below.refl _ _⟩
  case round =>
    obtain ⟨k, rfl, hk, hb⟩ := hrel
    by_cases hlt : k < n
    · obtain ⟨x, hx⟩ : ∃ x, r[k]? = some x := ⟨_, List.getElem?_eq_getElem (by rw [HL.out]; exact hlt)⟩
      obtain ⟨g, rfl, hg, _, h0, _⟩ := int_cell (own_below (unhide HA) hb) hx
      obtain ⟨g', rfl, hg', _, h0', _⟩ := int_cell (own_below (unhide HB) hb) hx
      have HBE := hide hb; clear hb hx
      go_upto_region 6 with fail
      go_cut [25] (fun s25 wx => s25 = .bool false ∧ Below wr.heap.size wr wx)
      case first =>
        go_quiet (fail)
        go_wp2_with fail
        go_meet
        exact ⟨by simp, (by repeat (first | with_reducible exact Below.refl _ _ | with_reducible assumption | (with_reducible refine Below.trans ?_ (Below.mono (by assumption) (by first | omega | (simp <;> omega)))) | with_reducible apply Below.drew | with_reducible apply below_drewN | (with_reducible refine Below.alloc ?_ (by first | omega | (simp <;> omega)) _) | (with_reducible refine Below.setCell ?_ (by first | omega | (simp <;> omega)) _)))⟩
      case rest =>
        obtain ⟨rfl, hbx⟩ := hcut
        have hb := unhide HBE
        have hz := hb.size
        go_wp2_with fail
        go_roundw
        case rel => exact ⟨k + 1, by go_num, by omega, (by repeat (first | with_reducible exact Below.refl _ _ | with_reducible assumption | (with_reducible refine Below.trans ?_ (Below.mono (by assumption) (by first | omega | (simp <;> omega)))) | with_reducible apply Below.drew | with_reducible apply below_drewN | (with_reducible refine Below.alloc ?_ (by first | omega | (simp <;> omega)) _) | (with_reducible refine Below.setCell ?_ (by first | omega | (simp <;> omega)) _)))⟩
        case measure => simp [intOf]; omega
    · have HB := hide hb
      clear hb
      go_wp2
      go_ret
      exact ⟨rfl, unhide HB⟩

set_option maxRecDepth 100000 in
set_option maxHeartbeats 400000 in
theorem markIntS_any (A : Option Addr) (n c base : Nat) (s : Int) (xs : List Value) (w : World) (ha : w.ownsRow base 3 1 (.slice A n c) n xs) (hn : n ≤ 1048576) (hs0 : 0 ≤ s) (hs1 : s ≤ 1099511627776) :
    Calls Try.prog 12 #[.slice A n c, .int .i64 s] w fun e w' => e = .returned (.int .i64 (s + (n : Int))) ∧ w'.ownsRow base 3 1 (.slice A n c) n (ints (mkI s n)) ∧ w.grownBy w' (Value.slice A n c).ownBlock := by
  have HA := hide ha
  clear ha
  go_enter Try.func12, Try.ntmps12
  go_wp2
  go_loopw [1, 5] (fun v i wr => ∃ (k : Nat) (ys : List Value), i = .int .i64 k ∧ v = .int .i64 (s + (k : Int)) ∧ k ≤ n ∧ wr.ownsRow base 3 1 (.slice A n c) n ys ∧ Hid (∀ j, j < k → ys[j]? = (ints (mkI s n))[j]?) ∧ w.grownBy wr (Value.slice A n c).ownBlock) (fun _ i _ => n - (intOf i).toNat)
  case atStart => exact ⟨0, xs, rfl, by simp, Nat.zero_le _, unhide HA, hide (fun j hj => absurd hj (by omega)), World.grownBy.refl _ _⟩
  case round =>
    obtain ⟨k, ys, rfl, rfl, hk, hown, hag, hgr⟩ := hrel
    have hlen := hown.1
    by_cases hlt : k < n
    · obtain ⟨g, cap, hv, _, hgl⟩ := hown.form (by omega)
      have hA : A = some ⟨g, 0, none⟩ ∧ c = cap := by injection hv with h1 _ h2; exact ⟨h1, h2⟩
      obtain ⟨rfl, rfl⟩ := hA
      have hc0 := hown.cellAt k (by omega)
      rw [List.getElem?_eq_getElem (by omega)] at hc0
      have hff := fun j => hown.frozenAt j
      have k0 := ints_at (mkI_at (s := s) hlt)
      have HO := hide ((hown.stored k (.int .i64 (s + (k : Int)))).1)
      have HG := hide (grown_set hgr k (.int .i64 (s + (k : Int))))
      have HS : Hid (∀ j, j < k + 1 → (ys.set k (.int .i64 (s + (k : Int))))[j]? = (ints (mkI s n))[j]?) := hide (fun j hj => by
        rw [List.getElem?_set]
        split
        · subst_vars; rw [if_pos (by omega), k0]
        · exact unhide hag j (by omega))
      clear hown hgr hag hv k0 HA
      go_wp2
      clear hc0 hff
      go_roundw
      case rel => exact ⟨k + 1, _, by go_num, congrArg (Value.int .i64) (by omega), by omega, unhide HO, HS, unhide HG⟩
      case measure => simp [intOf]; omega
    · obtain rfl : k = n := by omega
      have e : ys = ints (mkI s k) := agree_all (unhide hag) (by rw [hown.1]; omega) (by rw [ints_len, mkI_len])
      subst e
      have HOW := hide hown
      have HB := hide hgr
      clear hown hgr
      go_wp2
      go_ret
      exact ⟨rfl, unhide HOW, unhide HB⟩
set_option maxRecDepth 100000 in
set_option maxHeartbeats 400000 in
theorem heldIntS_any (A : Option Addr) (n c base : Nat) (s : Int) (w : World) (ha : w.ownsRow base 3 1 (.slice A n c) n (ints (mkI s n))) (hn : n ≤ 1048576) (hs0 : 0 ≤ s) (hs1 : s ≤ 1099511627776) :
    Calls Try.prog 13 #[.slice A n c, .int .i64 s] w fun e w' => e = .returned (.int .i64 (s + (n : Int))) ∧ w = w' := by
  have HA := hide ha
  clear ha
  go_enter Try.func13, Try.ntmps13
  go_wp2
  go_loop [1, 5] (fun v i => ∃ (k : Nat), i = .int .i64 k ∧ v = .int .i64 (s + (k : Int)) ∧ k ≤ n) (fun _ i => n - (intOf i).toNat)
  case atStart => exact ⟨0, rfl, by simp, Nat.zero_le _⟩
  case round =>
    obtain ⟨k, rfl, rfl, hk⟩ := hrel
    by_cases hlt : k < n
    · obtain ⟨g, rfl, _, _, h0, _⟩ := int_cell (unhide HA) (mkI_at hlt)
      clear HA
      go_wp2
      go_round
      case rel => exact ⟨k + 1, by go_num, congrArg (Value.int .i64) (by omega), by omega⟩
      case measure => simp [intOf]; omega
    · obtain rfl : k = n := by omega
      go_wp2
      go_ret
      exact ⟨rfl, rfl⟩

/-! ### Slices of slices -/
theorem Turned.nest {bs : List Nat} {w w' : World} {B : Nat} {v : Value} {cs : List Nat} {rows : List (List Int)} (h : Turned bs w w') (hn : Nest w B v cs rows) (hv : ∀ k, v.ownBlock = some k → k ∉ bs) (hc : ∀ c ∈ cs, c ∉ bs) : Nest w' B v cs rows :=
  ⟨hn.len, h.own hn.outer hv, fun i b r h1 h2 => h.own (hn.row i b r h1 h2) (fun k hk => by
    obtain rfl : b = k := Option.some.inj hk
    exact hc b (List.mem_iff_getElem?.2 ⟨i, h1⟩)), hn.sep, hn.nodup⟩
/-- One row turned. -/
theorem Nest.turn {W W' : World} {B : Nat} {v : Value} {bs : List Nat} {xs ys : List (List Int)} {r r' : List Int} {b : Nat} (h : Nest W B v bs (xs ++ r :: ys)) (hb : bs[xs.length]? = some b) (hl : r'.length = r.length)
    (hg : W.grownBy W' (some b)) (ho : W'.ownsRow B 3 1 (rowV b r') r'.length (ints r')) : Nest W' B v bs (xs ++ r' :: ys) := by
  have hlen : bs.length = xs.length + (ys.length + 1) := by rw [h.len, List.length_append]; rfl
  have hm : b ∈ bs := List.mem_iff_getElem?.2 ⟨_, hb⟩
  have hne : ∀ i, i ≠ xs.length → (xs ++ r' :: ys)[i]? = (xs ++ r :: ys)[i]? := fun i hi => by
    rcases Nat.lt_or_ge i xs.length with h1 | h1
    · rw [List.getElem?_append_left h1, List.getElem?_append_left h1]
    · rw [List.getElem?_append_right h1, List.getElem?_append_right h1]
      obtain ⟨j, hj⟩ : ∃ j, i - xs.length = j + 1 := ⟨i - xs.length - 1, by omega⟩
      rw [hj]; rfl
  have hz : List.zipWith rowV bs (xs ++ r' :: ys) = List.zipWith rowV bs (xs ++ r :: ys) := by
    apply List.ext_getElem?
    intro i
    rw [List.getElem?_zipWith, List.getElem?_zipWith]
    by_cases hi : i = xs.length
    · subst hi
      rw [hb]
      simp [rowV, hl]
    · rw [hne i hi]
  refine ⟨by rw [hlen]; simp, ?_, fun i c s hc hs => ?_, h.sep, h.nodup⟩
  · rw [hz]
    have := own_kept' h.outer hg (fun k hk e => h.sep b hm (by rw [hk]; exact e))
    simpa using this
  · by_cases hi : i = xs.length
    · subst hi
      have e1 : c = b := by rw [hb] at hc; exact (Option.some.inj hc).symm
      have e2 : s = r' := by simpa using hs.symm
      subst e1 e2
      exact ho
    · rw [hne i hi] at hs
      refine own_kept' (h.row i c s hc hs) hg (fun k hk e => ?_)
      obtain rfl : c = k := Option.some.inj hk
      have e1 : c = b := Option.some.inj e
      subst e1
      have hi1 : i < bs.length := by
        rcases Nat.lt_or_ge i bs.length with h1 | h1
        · exact h1
        · rw [List.getElem?_eq_none h1] at hc; cases hc
      have hi2 : xs.length < bs.length := by omega
      have g1 : bs[i] = c := by rw [List.getElem?_eq_getElem hi1] at hc; exact Option.some.inj hc
      have g2 : bs[xs.length] = c := by rw [List.getElem?_eq_getElem hi2] at hb; exact Option.some.inj hb
      have := (List.getElem_inj (h₀ := hi1) (h₁ := hi2) h.nodup).1 (g1.trans g2.symm)
      omega
theorem Nest.rowAt {W : World} {B : Nat} {A : Option Addr} {n c : Nat} {bs : List Nat} {rows : List (List Int)} (h : Nest W B (.slice A n c) bs rows) {i : Nat} {r : List Int} (hr : rows[i]? = some r) :
    ∃ go b : Nat, A = some ⟨go, 0, none⟩ ∧ bs[i]? = some b ∧ go < W.heap.size ∧ b < W.heap.size ∧ W.cell? ⟨go, i, none⟩ = some (.slice (some ⟨b, 0, none⟩) r.length r.length) ∧ W.ownsRow B 3 1 (.slice (some ⟨b, 0, none⟩) r.length r.length) r.length (ints r) := by
  obtain ⟨go, b, h1, h2, -, -, h3, h4, -, -, h5, -⟩ := h.at hr
  exact ⟨go, b, h1, h2, h3, h4, h5, h.row i b r h2 hr⟩

end Go.Proofs.Ythccdooacbablab

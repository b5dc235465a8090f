/-
  Environments: lists of named maps: the law's argument of them, its size, its copy, copies compared.
-/
import Derived.Test.YtafcdlojlfnjbaaDoorIg
import Derived.Test.YtafcdlojlfnjbaaDoorIs
import Derived.Test.YtafcdlojlfnjbaaDoorSl
namespace Go.Proofs.YtafcdlojlfnjbaaDoor
open Go.RowKit Rm

/-- A named map of the law: the text; where the points lie, how many there are; the points. -/
structure NE where
  s : ByteArray
  A : Option Addr
  n : Nat
  c : Nat
  ps : List Pt
def neV (e : NE) : Value := .agg #[.string e.s, .slice e.A e.n e.c]
/-- A list of named maps that came in. -/
def ArgN (w : World) (A : Option Addr) (n : Nat) (L : List NE) : Prop :=
  L.length = n ∧ (∀ e ∈ L, e.s.size ≤ maxLen ∧ e.n ≤ maxLen ∧ ArgP w e.A e.n e.ps) ∧
    (0 < n → ∃ ad, A = some ad ∧ ad.block < w.heap.size ∧ ∀ i e, L[i]? = some e → w.cell? (ad.add (i * 2)) = some (.string e.s) ∧ w.cell? ((ad.add (i * 2)).add 1) = some (.slice e.A e.n e.c))
theorem ArgN.below {w w' : World} {A : Option Addr} {n : Nat} {L : List NE} (h : ArgN w A n L) (hb : Below w.heap.size w w') : ArgN w' A n L :=
  ⟨h.1, fun e he => ⟨(h.2.1 e he).1, (h.2.1 e he).2.1, (h.2.1 e he).2.2.below hb⟩, fun hn => by
    obtain ⟨ad, e, hl, hc⟩ := h.2.2 hn
    refine ⟨ad, e, Nat.lt_of_lt_of_le hl hb.size, fun i x hx => ?_⟩
    obtain ⟨h0, h1⟩ := hc i x hx
    exact ⟨(hb.cell (by rw [block_add]; exact hl)).trans h0, (hb.cell (by rw [block_add, block_add]; exact hl)).trans h1⟩⟩

set_option maxHeartbeats 400000 in
theorem szPoints_left (A : Option Addr) (n c : Nat) (left : Int) (hn : n ≤ maxLen) (h0 : 0 ≤ left) (h1 : left ≤ 1048576) (w : World) :
    Calls Tryd.prog 18 #[.slice A n c, .int .i64 left] w fun e w' => e = .returned (.int .i64 (if (n : Int) ≤ left then left - (n : Int) else -1)) ∧ w = w' := by
  unfold maxLen at hn
  by_cases h : (n : Int) ≤ left
  · rw [if_pos h]
    go_enter Tryd.func18, Tryd.ntmps18
    go_wp2
    go_ret
    exact ⟨rfl, rfl⟩
  · rw [if_neg h]
    go_enter Tryd.func18, Tryd.ntmps18
    go_wp2
    go_ret
    exact ⟨rfl, rfl⟩

set_option maxRecDepth 100000 in
theorem szNamed_any (s : ByteArray) (A : Option Addr) (n c : Nat) (left : Int) (hs : s.size ≤ maxLen) (hn : n ≤ maxLen) (h0 : 0 ≤ left) (h1 : left ≤ 1048576) (w : World) :
    Calls Tryd.prog 9 #[.agg #[.string s, .slice A n c], .int .i64 left] w fun e w' => e = .returned (.int .i64 (if (s.size : Int) + (n : Int) ≤ left then left - ((s.size : Int) + (n : Int)) else -1)) ∧ Below w.heap.size w w' := by
  have hsz := fun (W : World) (h : (0 : Int) ≤ left - (s.size : Int)) => szPoints_left A n c (left - (s.size : Int)) hn h (by omega) W
  have HSZ := hide hsz
  clear hsz
  unfold maxLen at hs hn
  have t1 : IntKind.i64.wrap (left - (s.size : Int)) = left - (s.size : Int) := IntWalk.i64_in _ (by omega)
  by_cases hl : (0 : Int) ≤ left - (s.size : Int)
  · have hsz := fun W => (unhide HSZ) W hl
    have e1 : decide (left - (s.size : Int) < 0) = false := decide_eq_false (by omega)
    by_cases hp : (n : Int) ≤ left - (s.size : Int)
    · rw [if_pos (by omega)]
      simp only [if_pos hp] at hsz
      have H := hide hsz
      have e2 : decide (left - (s.size : Int) - (n : Int) < 0) = false := decide_eq_false (by omega)
      have e3 : left - ((s.size : Int) + (n : Int)) = left - (s.size : Int) - (n : Int) := by omega
      rw [e3]
      clear hsz HSZ e3
      go_enter Tryd.func9, Tryd.ntmps9
      go_wp2_with (go_at_call 18; (with_reducible refine ((unhide H) _).mono ?_); rintro e w' ⟨rfl, rfl⟩)
      go_ret
      exact ⟨rfl, (by repeat (first | with_reducible exact Below.refl _ _ | with_reducible assumption | (with_reducible refine Below.trans ?_ (Below.mono (by assumption) (by first | omega | (simp <;> omega)))) | with_reducible apply Below.drew | with_reducible apply below_drewN | (with_reducible refine Below.alloc ?_ (by first | omega | (simp <;> omega)) _) | (with_reducible refine Below.setCell ?_ (by first | omega | (simp <;> omega)) _)))⟩
    · rw [if_neg (by omega)]
      simp only [if_neg hp] at hsz
      have H := hide hsz
      clear hsz HSZ
      go_enter Tryd.func9, Tryd.ntmps9
      go_wp2_with (go_at_call 18; (with_reducible refine ((unhide H) _).mono ?_); rintro e w' ⟨rfl, rfl⟩)
      go_ret
      exact ⟨rfl, (by repeat (first | with_reducible exact Below.refl _ _ | with_reducible assumption | (with_reducible refine Below.trans ?_ (Below.mono (by assumption) (by first | omega | (simp <;> omega)))) | with_reducible apply Below.drew | with_reducible apply below_drewN | (with_reducible refine Below.alloc ?_ (by first | omega | (simp <;> omega)) _) | (with_reducible refine Below.setCell ?_ (by first | omega | (simp <;> omega)) _)))⟩
  · have e1 : decide (left - (s.size : Int) < 0) = true := decide_eq_true (by omega)
    rw [if_neg (by omega)]
    clear HSZ
    go_enter Tryd.func9, Tryd.ntmps9
    go_wp2_with fail
    go_ret
    exact ⟨rfl, (by repeat (first | with_reducible exact Below.refl _ _ | with_reducible assumption | (with_reducible refine Below.trans ?_ (Below.mono (by assumption) (by first | omega | (simp <;> omega)))) | with_reducible apply Below.drew | with_reducible apply below_drewN | (with_reducible refine Below.alloc ?_ (by first | omega | (simp <;> omega)) _) | (with_reducible refine Below.setCell ?_ (by first | omega | (simp <;> omega)) _)))⟩

/-- What is left behind a list of named maps. -/
def szR : List NE → Int → Int
  | [], l => l
  | e :: es, l => if (e.s.size : Int) + (e.n : Int) ≤ l then szR es (l - ((e.s.size : Int) + (e.n : Int))) else -1
theorem szR_drop {L : List NE} {k : Nat} {e : NE} {l : Int} (h : L[k]? = some e) : szR (L.drop k) l = if (e.s.size : Int) + (e.n : Int) ≤ l then szR (L.drop (k + 1)) (l - ((e.s.size : Int) + (e.n : Int))) else -1 := by
  have hk : k < L.length := by
    rcases Nat.lt_or_ge k L.length with h1 | h1
    · exact h1
    · rw [List.getElem?_eq_none h1] at h; cases h
  rw [List.drop_eq_getElem_cons hk]
  rw [List.getElem?_eq_getElem hk] at h
  rw [Option.some.inj h]
  rfl
theorem szR_all : ∀ {L : List NE} {l : Int}, 0 ≤ szR L l → l ≤ 1048576 → ∀ e ∈ L, e.s.size ≤ 1048576 ∧ e.n ≤ 1048576
  | [], _, _, _ => fun e he => by cases he
  | e :: es, l, h, hl => fun x hx => by
    unfold szR at h
    by_cases h1 : (e.s.size : Int) + (e.n : Int) ≤ l
    · rw [if_pos h1] at h
      rcases List.mem_cons.1 hx with rfl | hx
      · omega
      · exact szR_all h (by omega) x hx
    · rw [if_neg h1] at h
      omega
theorem szR_le : ∀ (L : List NE) (l : Int), 0 ≤ l → szR L l ≤ l
  | [], _, _ => Int.le_refl _
  | e :: es, l, h => by
    unfold szR
    by_cases h1 : (e.s.size : Int) + (e.n : Int) ≤ l
    · rw [if_pos h1]
      have := szR_le es (l - ((e.s.size : Int) + (e.n : Int))) (by omega)
      omega
    · rw [if_neg h1]; omega

set_option maxRecDepth 100000 in
set_option maxHeartbeats 800000 in
theorem szNamedS_any (A : Option Addr) (n c : Nat) (L : List NE) (w : World) (ha : ArgN w A n L) (hn : n ≤ maxLen) :
    Calls Tryd.prog 4 #[.slice A n c, .int .i64 1048576] w fun e w' => e = .returned (.int .i64 (if (n : Int) ≤ 1048576 then szR L (1048576 - (n : Int)) else -1)) ∧ Below w.heap.size w w' := by
  unfold maxLen at hn
  have t1 : IntKind.i64.wrap (1048576 - (n : Int)) = 1048576 - (n : Int) := IntWalk.i64_in _ (by omega)
  by_cases hl : (n : Int) ≤ 1048576
  · rw [if_pos hl]
    have e1 : decide (1048576 - (n : Int) < 0) = false := decide_eq_false (by omega)
    have hlen := ha.1
    obtain ⟨R, hR⟩ : ∃ R, R = szR L (1048576 - (n : Int)) := ⟨_, rfl⟩
    rw [← hR]
    have HA := hide ha; have HR := Lib.hid hR
    clear ha hR
    go_enter Tryd.func4, Tryd.ntmps4
    go_wp2_with fail
    go_loopw [1, 5] (fun v i wr => ∃ (k : Nat) (l : Int), i = .int .i64 k ∧ v = .int .i64 l ∧ k ≤ n ∧ 0 ≤ l ∧ l ≤ 1048576 ∧ Hid (R = szR (L.drop k) l) ∧ Below w.heap.size w wr) (fun _ i _ => n - (intOf i).toNat)
    case atStart => exact ⟨0, _, rfl, rfl, Nat.zero_le _, by omega, by omega, hide (by rw [HR.out, List.drop_zero]), Below.refl _ _⟩
    case round =>
      obtain ⟨k, l, rfl, rfl, hk, hl0, hl1, hrr, hb⟩ := hrel
      by_cases hlt : k < n
      · obtain ⟨ad, rfl, hbl, hcell⟩ := ((unhide HA).2.2) (by omega)
        obtain ⟨e, he⟩ : ∃ e, L[k]? = some e := ⟨_, List.getElem?_eq_getElem (by omega)⟩
        obtain ⟨h0, h1⟩ := hcell k e he
        clear hcell
        obtain ⟨q1, q2, _⟩ := (unhide HA).2.1 e (List.mem_iff_getElem?.2 ⟨k, he⟩)
        have hst := szR_drop (l := l) he
        rw [← (unhide hrr)] at hst
        replace h0 : wr.cell? (ad.add (k * 2)) = some (.string e.s) := (hb.cell (by rw [block_add]; exact hbl)).trans h0
        replace h1 : wr.cell? ⟨(ad.add (k * 2)).block, (ad.add (k * 2)).off + 1, none⟩ = some (.slice e.A e.n e.c) := (hb.cell (by show (ad.add (k * 2)).block < _; rw [block_add]; exact hbl)).trans h1
        have hz := fun W => szNamed_any e.s e.A e.n e.c l q1 q2 hl0 hl1 W
        have hbs := hb.size
        have HB := hide hb
        clear hb he hrr
        by_cases hp : (e.s.size : Int) + (e.n : Int) ≤ l
        · rw [if_pos hp] at hst
          simp only [if_pos hp] at hz
          have HZ := hide hz; have HST := hide hst
          have e2 : decide (l - ((e.s.size : Int) + (e.n : Int)) < 0) = false := decide_eq_false (by omega)
          have hd0 : (0 : Int) ≤ (e.s.size : Int) + (e.n : Int) := by omega
          clear hz hst
          generalize (e.s.size : Int) + (e.n : Int) = d at *
          have hd : 0 ≤ l - d := by omega
          have hd2 : l - d ≤ 1048576 := by omega
          go_wp2_with (go_at_call 9; (with_reducible refine ((unhide HZ) _).mono ?_); rintro e5 w5 ⟨rfl, hbw5⟩; have hs5 := hbw5.size)
          have hb := (unhide HB).trans (hbw5.mono hbs)
          go_roundw
          case rel => exact ⟨k + 1, _, by go_num, rfl, by omega, hd, hd2, HST, hb⟩
          case measure => simp [intOf]; omega
        · rw [if_neg hp] at hst
          simp only [if_neg hp] at hz
          have HZ := hide hz
          obtain rfl := hst
          clear hz
          go_wp2_with (go_at_call 9; (with_reducible refine ((unhide HZ) _).mono ?_); rintro e5 w5 ⟨rfl, hbw5⟩; have hs5 := hbw5.size)
          have hb := (unhide HB).trans (hbw5.mono hbs)
          go_ret
          exact ⟨rfl, hb⟩
      · obtain rfl : k = n := by omega
        have hd : L.drop k = [] := List.drop_eq_nil_of_le (by omega)
        have hrr' := unhide hrr
        rw [hd] at hrr'
        obtain rfl : R = l := hrr'
        have HB := hide hb
        clear hb hrr hd
        go_wp2_with fail
        go_ret
        exact ⟨rfl, unhide HB⟩
  · rw [if_neg hl]
    have e1 : decide (1048576 - (n : Int) < 0) = true := decide_eq_true (by omega)
    clear ha
    go_enter Tryd.func4, Tryd.ntmps4
    go_wp2_with fail
    go_ret
    exact ⟨rfl, Below.refl _ _⟩
end Go.Proofs.YtafcdlojlfnjbaaDoor

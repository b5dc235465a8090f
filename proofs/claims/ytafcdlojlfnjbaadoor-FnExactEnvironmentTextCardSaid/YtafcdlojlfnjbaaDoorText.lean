/-
  Chapter 1: contracts of the texts of numbers and fractions.
-/
import Derived.Test.YtafcdlojlfnjbaaDoorRat
import Derived.Lib.ItoaNum
import Derived.Lib.SmallJoins
import Derived.Test.YtafcdlojlfnjbaaDoorShelf
namespace Go.Proofs.YtafcdlojlfnjbaaDoor
open Go.RowKit Rm

theorem oneByte_at (W : World) (b : Nat) (x : Int) (h : W.cell? ⟨b, 0, none⟩ = some (.int .u8 x)) :
    (convert 41 9 (.slice (some ⟨b, 0, none⟩) 1 1)).run Tryd.prog W = .ok (.string ⟨#[UInt8.ofNat x.toNat]⟩) W := by
  rw [run_convert_bytes_string W _ _ _ _ _ _ Tryd.underlying41 Tryd.underlying5 Tryd.underlying9]
  rw [run_bytesToString W ⟨b, 0, none⟩ 1 1 [x] (by simp [loadCells, go_sem, h])]
  rfl
theorem oneByte (W : World) (x : Int) :
    (convert 41 9 (.slice (some ⟨W.heap.size, 0, none⟩) 1 1)).run Tryd.prog (W.alloc (.cells #[.int .u8 x] 5)) = .ok (.string ⟨#[UInt8.ofNat x.toNat]⟩) (W.alloc (.cells #[.int .u8 x] 5)) :=
  oneByte_at _ _ x (by simp [go_sem])
theorem oneByte_drew (W : World) (x : Int) :
    (convert 41 9 (.slice (some ⟨W.heap.size, 0, none⟩) 1 1)).run Tryd.prog (W.alloc (.cells #[.int .u8 x] 5)).drew = .ok (.string ⟨#[UInt8.ofNat x.toNat]⟩) (W.alloc (.cells #[.int .u8 x] 5)).drew :=
  oneByte_at _ _ x (by simp [go_sem])
set_option maxHeartbeats 400000 in
theorem l1Num_small (n : Nat) (w : World) (hn : n < 10) :
    Calls Tryd.prog 34 #[.int .i64 n] w fun e w' => e = .returned (.string ⟨(Lib.decDigits n).toArray⟩) ∧ Below w.heap.size w w' := by
  have e0 : Lib.decDigits n = [UInt8.ofNat (48 + n)] := by rw [Lib.decDigits, dif_pos hn]
  rw [e0]; clear e0
  have hcv := oneByte
  go_enter Tryd.func34, Tryd.ntmps34
  go_wp2_with fail
  go_ret
  exact ⟨rfl, (by repeat (first | with_reducible exact Below.refl _ _ | with_reducible assumption | (with_reducible refine Below.trans ?_ (Below.mono (by assumption) (by first | omega | (simp <;> omega)))) | with_reducible apply Below.drew | with_reducible apply below_drewN | (with_reducible refine Below.alloc ?_ (by first | omega | (simp <;> omega)) _) | (with_reducible refine Below.setCell ?_ (by first | omega | (simp <;> omega)) _)))⟩


set_option maxHeartbeats 400000 in
theorem l1Num_step (n : Int) (ds : List UInt8) (w : World) (hl : ds.length ≤ 100) (hn : 10 ≤ n) (hm : n ≤ 9223372036854775807) (ih : ∀ W, Calls Tryd.prog 34 #[.int .i64 (n / 10)] W fun e w' => e = .returned (.string ⟨ds.toArray⟩) ∧ Below W.heap.size W w') :
    Calls Tryd.prog 34 #[.int .i64 n] w fun e w' => e = .returned (.string ⟨(ds ++ [UInt8.ofNat (48 + n % 10).toNat]).toArray⟩) ∧ Below w.heap.size w w' := by
  have IH := hide ih; clear ih
  have q1 : n.tdiv 10 = n / 10 := Int.tdiv_eq_ediv_of_nonneg (by omega)
  have q2 : n.tmod 10 = n % 10 := Int.tmod_eq_emod_of_nonneg (by omega)
  have q3 : IntKind.i64.wrap (n / 10) = n / 10 := IntWalk.i64_in _ (by omega)
  have q4 : IntKind.i64.wrap (48 + n % 10) = 48 + n % 10 := IntWalk.i64_in _ (by omega)
  have q5 : IntKind.u8.wrap (48 + n % 10) = 48 + n % 10 := by rw [IntKind.wrap_u8]; omega
  have hcv := oneByte_drew
  have hcv0 := oneByte
  have hadd : ∀ (W : World) (c : UInt8), (Op.stringOp .add ⟨ds.toArray⟩ ⟨#[c]⟩).run Tryd.prog W = .ok (.string ⟨(ds ++ [c]).toArray⟩) W := fun W c => run_string_add_lists W ds [c] (by omega) (by simp)
  clear hl
  generalize n % 10 = r at *
  generalize n / 10 = m at *
  go_enter Tryd.func34, Tryd.ntmps34
  go_wp2_with fail
  go_region_with ((go_at_call 34; refine ((unhide IH) _).mono ?_; rintro e w1 ⟨rfl, hb1⟩; have hz1 := hb1.size; (try simp at hz1); (try ((have kw := (bnew hb1) (w.heap.size) ?pf); (case pf => (first | omega | (simp; done) | (simp; omega))); obtain ⟨kc, kf, kl⟩ := kw; (try ((have hcx := oneByte_at w1.drew w.heap.size (48 + r) ?pg); (case pg => (simp [go_sem, kc])))); (try ((have hcy := oneByte_at w1 w.heap.size (48 + r) ?pg); (case pg => (simp [go_sem, kc])))); clear kc kf))))
  all_goals
    go_wp2
    go_ret
    exact ⟨rfl, (by repeat (first | with_reducible exact Below.refl _ _ | with_reducible assumption | (with_reducible refine Below.trans ?_ (Below.mono (by assumption) (by first | omega | (simp <;> omega)))) | with_reducible apply Below.drew | with_reducible apply below_drewN | (with_reducible refine Below.alloc ?_ (by first | omega | (simp <;> omega)) _) | (with_reducible refine Below.setCell ?_ (by first | omega | (simp <;> omega)) _)))⟩
theorem decDigits_length (k : Nat) : ∀ n : Nat, n < 10 ^ (k + 1) → (Lib.decDigits n).length ≤ k + 1 := by
  induction k with
  | zero =>
    intro n hn
    rw [Lib.decDigits, dif_pos (by omega)]
    simp
  | succ k ih =>
    intro n hn
    rw [Lib.decDigits]
    split
    · simp
    · have := ih (n / 10) (by rw [Nat.pow_succ] at hn; omega)
      simp
      omega
theorem l1Num_any (k : Nat) : ∀ (n : Nat) (w : World), n ≤ k → n ≤ 9223372036854775807 →
    Calls Tryd.prog 34 #[.int .i64 n] w fun e w' => e = .returned (.string ⟨(Lib.decDigits n).toArray⟩) ∧ Below w.heap.size w w' := by
  induction k with
  | zero => intro n w hn _; exact l1Num_small n w (by omega)
  | succ k ih =>
    intro n w hn hm
    by_cases h : n < 10
    · exact l1Num_small n w h
    · have e0 : Lib.decDigits n = Lib.decDigits (n / 10) ++ [UInt8.ofNat (48 + (n : Int) % 10).toNat] := by
        rw [Lib.decDigits, dif_neg h]
        rw [show (48 + (n : Int) % 10).toNat = 48 + n % 10 by omega]
      rw [e0]
      refine l1Num_step n _ w ?_ (by omega) (by omega) (fun W => ?_)
      · have := decDigits_length 30 (n / 10) (by omega)
        omega
      · have := ih (n / 10) W (by omega) (by omega)
        rwa [Int.natCast_ediv] at this
theorem l1Num_nat (n : Nat) (w : World) (hm : n ≤ 9223372036854775807) :
    Calls Tryd.prog 34 #[.int .i64 n] w fun e w' => e = .returned (.string ⟨(Lib.decDigits n).toArray⟩) ∧ Below w.heap.size w w' := l1Num_any n n w (Nat.le_refl _) hm

theorem itoa_nonneg {n : Int} (h : 0 ≤ n) : Lib.itoa n = Lib.decDigits n.toNat := by unfold Lib.itoa; rw [if_neg (by omega)]
theorem itoa_length {n : Int} (h1 : -9223372036854775807 ≤ n) (h2 : n ≤ 9223372036854775807) : (Lib.itoa n).length ≤ 40 := by
  unfold Lib.itoa
  split
  · have := decDigits_length 30 n.natAbs (by omega)
    simp
    omega
  · have := decDigits_length 30 n.toNat (by omega)
    omega

set_option maxHeartbeats 400000 in
theorem l1Int_any (n : Int) (w : World) (h1 : -9223372036854775807 ≤ n) (h2 : n ≤ 9223372036854775807) :
    Calls Tryd.prog 33 #[.int .i64 n] w fun e w' => e = .returned (.string ⟨(Lib.itoa n).toArray⟩) ∧ Below w.heap.size w w' := by
  by_cases hn : n < 0
  · have e : Lib.itoa n = 45 :: Lib.decDigits n.natAbs := by unfold Lib.itoa; rw [if_pos hn]
    have hc : ∀ W, Calls Tryd.prog 34 #[.int .i64 (-n)] W fun e w' => e = .returned (.string ⟨(Lib.decDigits n.natAbs).toArray⟩) ∧ Below W.heap.size W w' := by
      intro W
      have := l1Num_nat n.natAbs W (by omega)
      rwa [show ((n.natAbs : Nat) : Int) = -n by omega] at this
    have hl := decDigits_length 30 n.natAbs (by omega)
    rw [e]; clear e
    generalize Lib.decDigits n.natAbs = ds at *
    have HC := hide hc; clear hc
    have hadd : ∀ (W : World), (Op.stringOp .add ⟨#[45]⟩ ⟨ds.toArray⟩).run Tryd.prog W = .ok (.string ⟨(45 :: ds).toArray⟩) W := fun W => run_string_add_lists W [45] ds (by simp) (by omega)
    clear hl
    go_enter Tryd.func33, Tryd.ntmps33
    go_wp2_with (go_at_call 34; (with_reducible refine ((unhide HC) _).mono ?_); rintro e w1 ⟨rfl, hbw1⟩; obtain ⟨hcw1, hfw1⟩ := bcell hbw1; have hzw1 := hbw1.size; (try simp at hzw1))
    go_ret
    exact ⟨rfl, (by repeat (first | with_reducible exact Below.refl _ _ | with_reducible assumption | (with_reducible refine Below.trans ?_ (Below.mono (by assumption) (by first | omega | (simp <;> omega)))) | with_reducible apply Below.drew | with_reducible apply below_drewN | (with_reducible refine Below.alloc ?_ (by first | omega | (simp <;> omega)) _) | (with_reducible refine Below.setCell ?_ (by first | omega | (simp <;> omega)) _)))⟩
  · have hc : ∀ W, Calls Tryd.prog 34 #[.int .i64 n] W fun e w' => e = .returned (.string ⟨(Lib.itoa n).toArray⟩) ∧ Below W.heap.size W w' := by
      intro W
      have := l1Num_nat n.toNat W (by omega)
      rwa [show ((n.toNat : Nat) : Int) = n by omega, ← itoa_nonneg (by omega)] at this
    generalize Lib.itoa n = ds at *
    have HC := hide hc; clear hc
    go_enter Tryd.func33, Tryd.ntmps33
    go_wp2_with (go_at_call 34; (with_reducible refine ((unhide HC) _).mono ?_); rintro e w1 ⟨rfl, hbw1⟩; obtain ⟨hcw1, hfw1⟩ := bcell hbw1; have hzw1 := hbw1.size; (try simp at hzw1))
    go_ret
    exact ⟨rfl, (by repeat (first | with_reducible exact Below.refl _ _ | with_reducible assumption | (with_reducible refine Below.trans ?_ (Below.mono (by assumption) (by first | omega | (simp <;> omega)))) | with_reducible apply Below.drew | with_reducible apply below_drewN | (with_reducible refine Below.alloc ?_ (by first | omega | (simp <;> omega)) _) | (with_reducible refine Below.setCell ?_ (by first | omega | (simp <;> omega)) _)))⟩

/-- The text of a fraction. -/
def ratTxt (n d : Int) : List UInt8 := Lib.itoa n ++ 47 :: Lib.itoa d

set_option maxHeartbeats 400000 in
theorem raText_any (n d : Int) (w : World) (hn1 : -1000000000 ≤ n) (hn2 : n ≤ 1000000000) (hd1 : 0 ≤ d) (hd2 : d ≤ 1000000000) :
    Calls Tryd.prog 21 #[.agg #[.int .i64 n, .int .i64 d]] w fun e w' => e = .returned (.string ⟨(ratTxt n d).toArray⟩) ∧ Below w.heap.size w w' := by
  have hc1 := fun W => l1Int_any n W (by omega) (by omega)
  have hc2 : ∀ W, Calls Tryd.prog 34 #[.int .i64 d] W fun e w' => e = .returned (.string ⟨(Lib.itoa d).toArray⟩) ∧ Below W.heap.size W w' := by
    intro W
    have := l1Num_nat d.toNat W (by omega)
    rwa [show ((d.toNat : Nat) : Int) = d by omega, ← itoa_nonneg (by omega)] at this
  have hl1 := itoa_length (n := n) (by omega) (by omega)
  have hl2 := itoa_length (n := d) (by omega) (by omega)
  unfold ratTxt
  generalize Lib.itoa n = xs at *
  generalize Lib.itoa d = ys at *
  have hadd1 : ∀ (W : World), (Op.stringOp .add ⟨xs.toArray⟩ ⟨#[47]⟩).run Tryd.prog W = .ok (.string ⟨(xs ++ [47]).toArray⟩) W := fun W => run_string_add_lists W xs [47] (by omega) (by simp)
  have hadd2 : ∀ (W : World), (Op.stringOp .add ⟨(xs ++ [47]).toArray⟩ ⟨ys.toArray⟩).run Tryd.prog W = .ok (.string ⟨(xs ++ 47 :: ys).toArray⟩) W := fun W => by
    rw [run_string_add_lists W (xs ++ [47]) ys (by simp; omega) (by omega)]; simp
  have HC1 := hide hc1; have HC2 := hide hc2; clear hc1 hc2 hl1 hl2
  go_enter Tryd.func21, Tryd.ntmps21
  go_wp2_with fail
  go_region_held3 (fun w' => w'.cell? ⟨w.heap.size, 0, none⟩ = some (.int .i64 n) ∧ w'.cell? ⟨w.heap.size, 1, none⟩ = some (.int .i64 d)) (simp [go_sem, *])
    (first
      | (go_at_call 33; (with_reducible refine ((unhide HC1) _).mono ?_); rintro e w1 ⟨rfl, hbw1⟩; obtain ⟨hcw1, hfw1⟩ := bcell hbw1; have hzw1 := hbw1.size; (try simp at hzw1); (try ((have kw1w0 := (bnew hbw1) (w.heap.size) ?pf); (case pf => (first | omega | (simp; done) | (simp; omega))); obtain ⟨kcw1w0, kfw1w0, klw1w0⟩ := kw1w0)))
      | (go_at_call 34; (with_reducible refine ((unhide HC2) _).mono ?_); rintro e w2 ⟨rfl, hbw2⟩; obtain ⟨hcw2, hfw2⟩ := bcell hbw2; have hzw2 := hbw2.size; (try simp at hzw2); (try ((have kw2w0 := (bnew hbw2) (w.heap.size) ?pf); (case pf => (first | omega | (simp; done) | (simp; omega))); obtain ⟨kcw2w0, kfw2w0, klw2w0⟩ := kw2w0))))
  go_wp2
  go_ret
  exact ⟨rfl, (by repeat (first | with_reducible exact Below.refl _ _ | with_reducible assumption | (with_reducible refine Below.trans ?_ (Below.mono (by assumption) (by first | omega | (simp <;> omega)))) | with_reducible apply Below.drew | with_reducible apply below_drewN | (with_reducible refine Below.alloc ?_ (by first | omega | (simp <;> omega)) _) | (with_reducible refine Below.setCell ?_ (by first | omega | (simp <;> omega)) _)))⟩

/-- What RatText returns. -/
def ratTxtOr (k : Bool) (n d : Int) : List UInt8 := if k then ratTxt n d else []

/-! strconv.Itoa, by the library's contract: its table of powers of ten is as the program's text lays it. -/
theorem grow_below (w : World) (os : Array Obj) : Below w.heap.size w (Go.Sort.grow w os) :=
  ⟨rfl, rfl, rfl, by simp [Go.Sort.grow], fun k hk => by simp [Go.Sort.grow, Array.getElem?_append, hk]⟩
def Pow10 (w : World) : Prop := Lib.TabIs Tryd.prog w "internal/strconv.uint64pow10" .u64 Lib.pow10Tab
theorem pow10_below {w w' : World} (h : Pow10 w) (hb : Below w.heap.size w w') : Pow10 w' :=
  Go.Joins.tab_stays (g := 0) (by kernel_rfl) h hb (Nat.le_refl _)
theorem itoa_any (n : Int) (w : World) (h1 : -9223372036854775807 ≤ n) (h2 : n ≤ 9223372036854775807) (ht : Pow10 w) :
    Calls Tryd.prog 40 #[.int .i64 n] w fun e w' => e = .returned (.string ⟨(Lib.itoa n).toArray⟩) ∧ Below w.heap.size w w' :=
  (Tryd.strconv_Itoa n (by omega) h2 w ht).mono fun _ _ ⟨he, k, os, hw⟩ => ⟨he, by subst hw; exact (below_drewN (Below.refl _ _) k).trans ((grow_below (w.drewN k) os).mono (Nat.le_refl _))⟩

set_option maxHeartbeats 400000 in
theorem iRatText_any (n d : Int) (w : World) (ht : Pow10 w) :
    Calls Tryd.prog 25 #[.agg #[.int .i64 n, .int .i64 d]] w fun e w' => e = .returned (.tuple #[.string ⟨(ratTxtOr (good n d) n d).toArray⟩, .bool (good n d)]) ∧ Below w.heap.size w w' := by
  have HT := Lib.hid ht; clear ht
  cases hg : good n d with
  | false =>
    simp only [ratTxtOr, Bool.false_eq_true, if_false]
    go_enter Tryd.func25, Tryd.ntmps25
    go_wp2_with (go_at_call 39; (with_reducible refine (isRat_any _ _ _).mono ?_); rintro e w1 ⟨rfl, hbw1⟩; obtain ⟨hcw1, hfw1⟩ := bcell hbw1; have hzw1 := hbw1.size; (try simp at hzw1); (try ((have kw1w0 := (bnew hbw1) (w.heap.size) ?pf); (case pf => (first | omega | (simp; done) | (simp; omega))); obtain ⟨kcw1w0, kfw1w0, klw1w0⟩ := kw1w0)))
    go_ret2
    exact ⟨rfl, (by repeat (first | with_reducible exact Below.refl _ _ | with_reducible assumption | (with_reducible refine Below.trans ?_ (Below.mono (by assumption) (by first | omega | (simp <;> omega)))) | with_reducible apply Below.drew | with_reducible apply below_drewN | (with_reducible refine Below.alloc ?_ (by first | omega | (simp <;> omega)) _) | (with_reducible refine Below.setCell ?_ (by first | omega | (simp <;> omega)) _)))⟩
  | true =>
    simp only [ratTxtOr, if_true]
    obtain ⟨b1, b2, a1, a2, g1⟩ := good_iff.1 hg
    clear g1
    have hc1 := fun W (hb : Below w.heap.size w W) => itoa_any n W (by omega) (by omega) (pow10_below HT.out hb)
    have hc2 := fun W (hb : Below w.heap.size w W) => itoa_any d W (by omega) (by omega) (pow10_below HT.out hb)
    have hl1 := itoa_length (n := n) (by omega) (by omega)
    have hl2 := itoa_length (n := d) (by omega) (by omega)
    unfold ratTxt
    generalize Lib.itoa n = xs at *
    generalize Lib.itoa d = ys at *
    have hadd1 : ∀ (W : World), (Op.stringOp .add ⟨xs.toArray⟩ ⟨#[47]⟩).run Tryd.prog W = .ok (.string ⟨(xs ++ [47]).toArray⟩) W := fun W => run_string_add_lists W xs [47] (by omega) (by simp)
    have hadd2 : ∀ (W : World), (Op.stringOp .add ⟨(xs ++ [47]).toArray⟩ ⟨ys.toArray⟩).run Tryd.prog W = .ok (.string ⟨(xs ++ 47 :: ys).toArray⟩) W := fun W => by
      rw [run_string_add_lists W (xs ++ [47]) ys (by simp; omega) (by omega)]; simp
    have HC1 := hide hc1; have HC2 := hide hc2; clear hc1 hc2 hl1 hl2
    go_enter Tryd.func25, Tryd.ntmps25
    go_wp2_with (go_at_call 39; (with_reducible refine (isRat_any _ _ _).mono ?_); rintro e w3 ⟨rfl, hbw3⟩; obtain ⟨hcw3, hfw3⟩ := bcell hbw3; have hzw3 := hbw3.size; (try simp at hzw3); (try ((have kw3w0 := (bnew hbw3) (w.heap.size) ?pf); (case pf => (first | omega | (simp; done) | (simp; omega))); obtain ⟨kcw3w0, kfw3w0, klw3w0⟩ := kw3w0)))
    go_region_held3 (fun w' => w'.cell? ⟨w.heap.size, 0, none⟩ = some (.int .i64 n) ∧ w'.cell? ⟨w.heap.size, 1, none⟩ = some (.int .i64 d)) (simp [go_sem, *])
      (first
        | (go_at_call 40; have _t := hbw1; clear _t; (with_reducible refine ((unhide HC2) _ (by repeat (first | with_reducible exact Below.refl _ _ | with_reducible assumption | (with_reducible refine Below.trans ?_ (Below.mono (by assumption) (by first | omega | (simp <;> omega)))) | with_reducible apply Below.drew | with_reducible apply below_drewN | (with_reducible refine Below.alloc ?_ (by first | omega | (simp <;> omega)) _) | (with_reducible refine Below.setCell ?_ (by first | omega | (simp <;> omega)) _)))).mono ?_); rintro e w2 ⟨rfl, hbw2⟩; obtain ⟨hcw2, hfw2⟩ := bcell hbw2; have hzw2 := hbw2.size; (try simp at hzw2); (try ((have kw2w0 := (bnew hbw2) (w.heap.size) ?pf); (case pf => (first | omega | (simp; done) | (simp; omega))); obtain ⟨kcw2w0, kfw2w0, klw2w0⟩ := kw2w0)))
        | (go_at_call 40; (with_reducible refine ((unhide HC1) _ (by repeat (first | with_reducible exact Below.refl _ _ | with_reducible assumption | (with_reducible refine Below.trans ?_ (Below.mono (by assumption) (by first | omega | (simp <;> omega)))) | with_reducible apply Below.drew | with_reducible apply below_drewN | (with_reducible refine Below.alloc ?_ (by first | omega | (simp <;> omega)) _) | (with_reducible refine Below.setCell ?_ (by first | omega | (simp <;> omega)) _)))).mono ?_); rintro e w1 ⟨rfl, hbw1⟩; obtain ⟨hcw1, hfw1⟩ := bcell hbw1; have hzw1 := hbw1.size; (try simp at hzw1); (try ((have kw1w0 := (bnew hbw1) (w.heap.size) ?pf); (case pf => (first | omega | (simp; done) | (simp; omega))); obtain ⟨kcw1w0, kfw1w0, klw1w0⟩ := kw1w0))))
    go_wp2
    go_ret2
    exact ⟨rfl, (by repeat (first | with_reducible exact Below.refl _ _ | with_reducible assumption | (with_reducible refine Below.trans ?_ (Below.mono (by assumption) (by first | omega | (simp <;> omega)))) | with_reducible apply Below.drew | with_reducible apply below_drewN | (with_reducible refine Below.alloc ?_ (by first | omega | (simp <;> omega)) _) | (with_reducible refine Below.setCell ?_ (by first | omega | (simp <;> omega)) _)))⟩

set_option maxHeartbeats 400000 in
theorem toRat_any (a b : Int) (w : World) :
    Calls Tryd.prog 45 #[.agg #[.int .i64 a, .int .i64 b]] w fun e w' => e = .returned (.agg #[.int .i64 a, .int .i64 b]) ∧ Below w.heap.size w w' := by
  go_enter Tryd.func45, Tryd.ntmps45
  go_wp2
  exact bodyPost_ret (v := .agg #[.int .i64 a, .int .i64 b]) (by simp [results, Tryd.results45, go_sem]) rfl ⟨rfl, (by repeat (first | with_reducible exact Below.refl _ _ | with_reducible assumption | (with_reducible refine Below.trans ?_ (Below.mono (by assumption) (by first | omega | (simp <;> omega)))) | with_reducible apply Below.drew | with_reducible apply below_drewN | (with_reducible refine Below.alloc ?_ (by first | omega | (simp <;> omega)) _) | (with_reducible refine Below.setCell ?_ (by first | omega | (simp <;> omega)) _)))⟩

end Go.Proofs.YtafcdlojlfnjbaaDoor

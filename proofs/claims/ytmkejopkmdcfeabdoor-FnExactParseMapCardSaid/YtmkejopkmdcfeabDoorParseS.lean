/-
  Chapter 1: the contract of the model's raParse and ParseRat.
-/
import Derived.Test.YtmkejopkmdcfeabDoorSplit
namespace Go.Proofs.YtmkejopkmdcfeabDoor
open Go.RowKit Rm

/-- What the model's ParseRat returns: the parts of the text, then the fraction that they show, if its text is the text. -/
def fin (l : List UInt8) (n d : Int) : Option (Int × Int) := if good n d = true ∧ ratTxt n d = l then some (n, d) else none
def specP (l : List UInt8) : Option (Int × Int) :=
  if l.length > 22 then none else
    match sp 47 [] l with
    | [x, y] => match x with
      | [] => none
      | c :: r => if c = 45 then fin l (-(rrN r)) (rrN y) else fin l (rrN (c :: r)) (rrN y)
    | _ => none
def oN (o : Option (Int × Int)) : Int := (o.map (·.1)).getD 0
def oD (o : Option (Int × Int)) : Int := (o.map (·.2)).getD 0
theorem fin_yes {l : List UInt8} {n d : Int} (h1 : good n d = true) (h2 : ratTxt n d = l) : fin l n d = some (n, d) := if_pos ⟨h1, h2⟩
theorem fin_no {l : List UInt8} {n d : Int} (h : ¬ (good n d = true ∧ ratTxt n d = l)) : fin l n d = none := if_neg h

theorem sp_pos (b : UInt8) : ∀ (l cur : List UInt8), 1 ≤ (sp b cur l).length := by
  intro l
  induction l with
  | nil => intro cur; simp [sp]
  | cons c r ih =>
    intro cur
    simp only [sp]
    split
    · simp
    · exact ih _
/-- The parts in memory. -/
structure Parts (w w' : World) (g n cap : Nat) (xs : List Value) : Prop where
  lo : w.heap.size ≤ g
  hi : g < w'.heap.size
  cap : n ≤ cap
  at_ : ∀ j u, xs[j]? = some u → w'.cell? ⟨g, j, none⟩ = some u
  free : ∀ j, w'.frozen? ⟨g, j, none⟩ = false
  below : Below w.heap.size w w'
theorem split_form (s : ByteArray) (b : UInt8) (w : World) (hs : s.size ≤ 1048576) :
    Calls Tryd.prog 13 #[.string s, .int .u8 b.toNat] w fun e w' => ∃ g cap, e = .returned (.slice (some ⟨g, 0, none⟩) (sp b [] s.data.toList).length cap) ∧ Parts w w' g (sp b [] s.data.toList).length cap ((sp b [] s.data.toList).map strV) := by
  refine (l1Split_any s b w hs).mono ?_
  rintro e w' ⟨v, rfl, hown, hb⟩
  have hp := sp_pos b s.data.toList []
  have hown' := hown
  rcases hown.2 with ⟨_, h0⟩ | ⟨g, cap, cur, rfl, hg, hh, hc, _, _, _⟩
  · omega
  · refine ⟨g, cap, rfl, hg, ?_, hc, fun j u hj => ?_, fun j => hown'.frozenAt j, hb⟩
    · rcases Nat.lt_or_ge g w'.heap.size with h | h
      · exact h
      · rw [Array.getElem?_eq_none h] at hh; cases hh
    · have hl : j < (sp b [] s.data.toList).length := by
        have := (List.getElem?_eq_some_iff.1 hj).1
        simpa using this
      rw [hown'.cellAt j (by omega)]; exact hj

set_option maxRecDepth 100000 in
set_option maxHeartbeats 1000000 in
theorem raParse_long (s : ByteArray) (w : World) (hs : s.size ≤ 1048576) (h : 22 < s.size) :
    Calls Tryd.prog 14 #[.string s] w fun e w' => e = .returned (.tuple #[.agg #[.int .i64 0, .int .i64 0], .bool false]) ∧ Below w.heap.size w w' := by
  have hsp := fun W => split_form s 47 W hs
  generalize (sp 47 [] s.data.toList).length = n at *
  generalize (sp 47 [] s.data.toList).map strV = xs at *
  have HSP := hide hsp; clear hsp
  go_enter Tryd.func14, Tryd.ntmps14
  go_wp2_with fail
  refine ((unhide HSP) _).mono ?_
  rintro e w1 ⟨g, cap, rfl, hP⟩
  have hb1 := hP.below
  have hz1 := hb1.size
  simp at hz1
  have HP := hide hP; clear hP
  obtain ⟨kc, kf, kl⟩ := bnew hb1 w.heap.size (by simp)
  go_wp2_with fail
  exact bodyPost_ret (v := .tuple #[.agg #[.int .i64 0, .int .i64 0], .bool false]) (by simp [results, Tryd.results14, go_sem, *]) rfl ⟨rfl, (by repeat (first | with_reducible exact Below.refl _ _ | with_reducible assumption | (with_reducible refine Below.trans ?_ (Below.mono (by assumption) (by first | omega | (simp <;> omega)))) | with_reducible apply Below.drew | with_reducible apply below_drewN | (with_reducible refine Below.alloc ?_ (by first | omega | (simp <;> omega)) _) | (with_reducible refine Below.setCell ?_ (by first | omega | (simp <;> omega)) _)))⟩

set_option maxRecDepth 100000 in
set_option maxHeartbeats 1000000 in
theorem raParse_count (s : ByteArray) (w : World) (hs : s.size ≤ 1048576) (h22 : s.size ≤ 22) (h : (sp 47 [] s.data.toList).length ≠ 2) :
    Calls Tryd.prog 14 #[.string s] w fun e w' => e = .returned (.tuple #[.agg #[.int .i64 0, .int .i64 0], .bool false]) ∧ Below w.heap.size w w' := by
  have hsp := fun W => split_form s 47 W hs
  generalize (sp 47 [] s.data.toList).length = n at *
  generalize (sp 47 [] s.data.toList).map strV = xs at *
  have hn : ((n : Int) != 2) = true := by rw [bne_iff_ne]; omega
  have HSP := hide hsp; clear hsp h
  go_enter Tryd.func14, Tryd.ntmps14
  go_wp2_with fail
  refine ((unhide HSP) _).mono ?_
  rintro e w1 ⟨g, cap, rfl, hP⟩
  have hb1 := hP.below
  have hz1 := hb1.size
  simp at hz1
  have HP := hide hP; clear hP
  obtain ⟨kc, kf, kl⟩ := bnew hb1 w.heap.size (by simp)
  go_wp2_with fail
  exact bodyPost_ret (v := .tuple #[.agg #[.int .i64 0, .int .i64 0], .bool false]) (by simp [results, Tryd.results14, go_sem, *]) rfl ⟨rfl, (by repeat (first | with_reducible exact Below.refl _ _ | with_reducible assumption | (with_reducible refine Below.trans ?_ (Below.mono (by assumption) (by first | omega | (simp <;> omega)))) | with_reducible apply Below.drew | with_reducible apply below_drewN | (with_reducible refine Below.alloc ?_ (by first | omega | (simp <;> omega)) _) | (with_reducible refine Below.setCell ?_ (by first | omega | (simp <;> omega)) _)))⟩

set_option maxRecDepth 100000 in
set_option maxHeartbeats 1000000 in
theorem raParse_empty (s X Y : ByteArray) (w : World) (hs : s.size ≤ 1048576) (h22 : s.size ≤ 22) (h : sp 47 [] s.data.toList = [X.data.toList, Y.data.toList]) (hX : X.size = 0) :
    Calls Tryd.prog 14 #[.string s] w fun e w' => e = .returned (.tuple #[.agg #[.int .i64 0, .int .i64 0], .bool false]) ∧ Below w.heap.size w w' := by
  have hsp := fun W => split_form s 47 W hs
  rw [h] at hsp
  have HSP := hide hsp; clear hsp h
  have hx0 : ((X.size : Int) == 0) = true := by simp [hX]
  clear hX
  go_enter Tryd.func14, Tryd.ntmps14
  go_wp2_with fail
  refine ((unhide HSP) _).mono ?_
  rintro e w1 ⟨g, cap, rfl, hP⟩
  have hb1 := hP.below
  have hz1 := hb1.size
  simp at hz1
  have hx : w1.cell? ⟨g, 0, none⟩ = some (.string X) := hP.at_ 0 _ rfl
  have hy : w1.cell? ⟨g, 1, none⟩ = some (.string Y) := hP.at_ 1 _ rfl
  have hf := hP.free 0
  have hg1 := hP.lo
  have hg2 := hP.hi
  simp at hg1
  have hgn1 : ¬ g = w.heap.size := by omega
  have hgn2 : ¬ w.heap.size = g := by omega
  have HP := hide hP; clear hP
  obtain ⟨kc, kf, kl⟩ := bnew hb1 w.heap.size (by simp)
  go_wp2_with fail
  exact bodyPost_ret (v := .tuple #[.agg #[.int .i64 0, .int .i64 0], .bool false]) (by simp [results, Tryd.results14, go_sem, *]) rfl ⟨rfl, (by repeat (first | with_reducible exact Below.refl _ _ | with_reducible assumption | (with_reducible refine Below.trans ?_ (Below.mono (by assumption) (by first | omega | (simp <;> omega)))) | with_reducible apply Below.drew | with_reducible apply below_drewN | (with_reducible refine Below.alloc ?_ (by first | omega | (simp <;> omega)) _) | (with_reducible refine Below.setCell ?_ (by first | omega | (simp <;> omega)) _)))⟩

set_option maxRecDepth 100000 in
set_option maxHeartbeats 1000000 in
theorem raParse_neg (s X Y : ByteArray) (w : World) (hs : s.size ≤ 1048576) (h22 : s.size ≤ 22) (h : sp 47 [] s.data.toList = [X.data.toList, Y.data.toList]) (hX : 0 < X.size) (hXs : X.size ≤ 9223372036854775807) (hYs : Y.size ≤ 9223372036854775807) (hn : ((X[0]'hX).toNat : Int) = 45) :
    Calls Tryd.prog 14 #[.string s] w fun e w' => e = .returned (.tuple #[.agg #[.int .i64 (oN (fin s.data.toList (-(rrN (X.data.toList.drop 1))) (rrN Y.data.toList))), .int .i64 (oD (fin s.data.toList (-(rrN (X.data.toList.drop 1))) (rrN Y.data.toList)))], .bool (fin s.data.toList (-(rrN (X.data.toList.drop 1))) (rrN Y.data.toList)).isSome]) ∧ Below w.heap.size w w' := by
  have hsp := fun W => split_form s 47 W hs
  rw [h] at hsp
  have HSP := hide hsp; clear hsp h
  have hx0 : ((X.size : Int) == 0) = false := beq_eq_false_iff_ne.2 (by omega)
  have hx1 : (((X[0]'hX).toNat : Int) == 45) = true := by simpa using hn
  have hrx : ∀ W, Calls Tryd.prog 25 #[.string (X.extract 1 X.size)] W fun e w' => e = .returned (.int .i64 (rrN (X.data.toList.drop 1))) ∧ W = w' := fun W => by
    have := raRead_any (X.extract 1 X.size) W (by simp; omega)
    rwa [Lib.extract_to_end] at this
  have hry : ∀ W, Calls Tryd.prog 25 #[.string Y] W fun e w' => e = .returned (.int .i64 (rrN Y.data.toList)) ∧ W = w' := fun W => raRead_any Y W hYs
  have hb := rrN_bd (X.data.toList.drop 1)
  have hb' := rrN_bd Y.data.toList
  obtain ⟨hb2, hb3⟩ := hb
  obtain ⟨hb4, hb5⟩ := hb'
  clear hn
  generalize rrN (X.data.toList.drop 1) = m at *
  generalize rrN Y.data.toList = d at *
  have HRX := hide hrx; have HRY := hide hry; clear hrx hry
  have q1 : IntKind.i64.wrap (-m) = -m := IntWalk.i64_in _ (by omega)
  have q2 : IntKind.i64.wrap m = m := IntWalk.i64_in _ (by omega)
  go_enter Tryd.func14, Tryd.ntmps14
  go_wp2_with fail
  refine ((unhide HSP) _).mono ?_
  rintro e w1 ⟨g, cap, rfl, hP⟩
  have hb1 := hP.below
  have hz1 := hb1.size
  simp at hz1
  have hx : w1.cell? ⟨g, 0, none⟩ = some (.string X) := hP.at_ 0 _ rfl
  have hy : w1.cell? ⟨g, 1, none⟩ = some (.string Y) := hP.at_ 1 _ rfl
  have hf := hP.free 0
  have hg1 := hP.lo
  have hg2 := hP.hi
  simp at hg1
  have hgn1 : ¬ g = w.heap.size := by omega
  have hgn2 : ¬ w.heap.size = g := by omega
  have HP := hide hP; clear hP
  obtain ⟨kc, kf, kl⟩ := bnew hb1 w.heap.size (by simp)
  go_wp2_with fail
  go_region_held3 (fun w' => w'.cell? ⟨g, 0, none⟩ = some (.string (X.extract 1 X.size)) ∧ w'.cell? ⟨g, 1, none⟩ = some (.string Y)) (simp [go_sem, *])
    (first
      | (go_at_call 25; (with_reducible refine ((unhide HRX) _).mono ?_); rintro e w2 ⟨rfl, rfl⟩)
      | (go_at_call 25; (with_reducible refine ((unhide HRY) _).mono ?_); rintro e w2 ⟨rfl, rfl⟩))
  all_goals
    cases hg : good (-m) d with
    | false =>
      have HF := Lib.hid (fin_no (l := s.data.toList) (n := -m) (d := d) (by simp [hg]))
      go_wp2_with (go_at_call 26; (with_reducible refine (raGood_any _ _ _).mono ?_); rintro e w5 ⟨rfl, hbw5⟩; obtain ⟨hcw5, hfw5⟩ := bcell hbw5; have hzw5 := hbw5.size; (try simp at hzw5); (try ((have kw5w0 := (bnew hbw5) (w.heap.size) ?pf); (case pf => (first | omega | (simp; done) | (simp; omega))); obtain ⟨kcw5w0, kfw5w0, klw5w0⟩ := kw5w0)); (try ((have kw5w10 := (bnew hbw5) (w1.heap.size) ?pf); (case pf => (first | omega | (simp; done) | (simp; omega))); obtain ⟨kcw5w10, kfw5w10, klw5w10⟩ := kw5w10)))
      exact bodyPost_ret (v := .tuple #[.agg #[.int .i64 0, .int .i64 0], .bool false]) (by simp [results, Tryd.results14, go_sem, *]) rfl ⟨ret_rat (by rw [HF.out]; rfl) (by rw [HF.out]; rfl) (by rw [HF.out]; rfl), (by repeat (first | with_reducible exact Below.refl _ _ | with_reducible assumption | (with_reducible refine Below.trans ?_ (Below.mono (by assumption) (by first | omega | (simp <;> omega)))) | with_reducible apply Below.drew | with_reducible apply below_drewN | (with_reducible refine Below.alloc ?_ (by first | omega | (simp <;> omega)) _) | (with_reducible refine Below.setCell ?_ (by first | omega | (simp <;> omega)) _)))⟩
    | true =>
      obtain ⟨b1, b2, a1, a2, g1⟩ := good_iff.1 hg
      clear g1
      by_cases ht : ratTxt (-m) d = s.data.toList
      · have HF := Lib.hid (fin_yes hg ht)
        have hq : (ratTxt (-m) d == s.toList) = true := by rw [Lib.toList_data]; simpa using ht
        clear ht
        have HT := hide (fun W => raText_any (-m) d W a1 a2 (by omega) b2)
        generalize ratTxt (-m) d = tx at *
        go_wp2_with (first | (go_at_call 26; (with_reducible refine (raGood_any _ _ _).mono ?_); rintro e w5 ⟨rfl, hbw5⟩; obtain ⟨hcw5, hfw5⟩ := bcell hbw5; have hzw5 := hbw5.size; (try simp at hzw5); (try ((have kw5w0 := (bnew hbw5) (w.heap.size) ?pf); (case pf => (first | omega | (simp; done) | (simp; omega))); obtain ⟨kcw5w0, kfw5w0, klw5w0⟩ := kw5w0)); (try ((have kw5w10 := (bnew hbw5) (w1.heap.size) ?pf); (case pf => (first | omega | (simp; done) | (simp; omega))); obtain ⟨kcw5w10, kfw5w10, klw5w10⟩ := kw5w10))) | (go_at_call 27; (with_reducible refine (unhide HT _).mono ?_); rintro e w6 ⟨rfl, hbw6⟩; obtain ⟨hcw6, hfw6⟩ := bcell hbw6; have hzw6 := hbw6.size; (try simp at hzw6); (try ((have kw6w0 := (bnew hbw6) (w.heap.size) ?pf); (case pf => (first | omega | (simp; done) | (simp; omega))); obtain ⟨kcw6w0, kfw6w0, klw6w0⟩ := kw6w0)); (try ((have kw6w10 := (bnew hbw6) (w1.heap.size) ?pf); (case pf => (first | omega | (simp; done) | (simp; omega))); obtain ⟨kcw6w10, kfw6w10, klw6w10⟩ := kw6w10))))
        exact bodyPost_ret (v := .tuple #[.agg #[.int .i64 (-m), .int .i64 d], .bool true]) (by simp [results, Tryd.results14, go_sem, *]) rfl ⟨ret_rat (by rw [HF.out]; rfl) (by rw [HF.out]; rfl) (by rw [HF.out]; rfl), (by repeat (first | with_reducible exact Below.refl _ _ | with_reducible assumption | (with_reducible refine Below.trans ?_ (Below.mono (by assumption) (by first | omega | (simp <;> omega)))) | with_reducible apply Below.drew | with_reducible apply below_drewN | (with_reducible refine Below.alloc ?_ (by first | omega | (simp <;> omega)) _) | (with_reducible refine Below.setCell ?_ (by first | omega | (simp <;> omega)) _)))⟩
      · have HF := Lib.hid (fin_no (l := s.data.toList) (n := -m) (d := d) (by simp [ht]))
        have hq : (ratTxt (-m) d == s.toList) = false := by rw [Lib.toList_data]; simpa using ht
        clear ht
        have HT := hide (fun W => raText_any (-m) d W a1 a2 (by omega) b2)
        generalize ratTxt (-m) d = tx at *
        go_wp2_with (first | (go_at_call 26; (with_reducible refine (raGood_any _ _ _).mono ?_); rintro e w5 ⟨rfl, hbw5⟩; obtain ⟨hcw5, hfw5⟩ := bcell hbw5; have hzw5 := hbw5.size; (try simp at hzw5); (try ((have kw5w0 := (bnew hbw5) (w.heap.size) ?pf); (case pf => (first | omega | (simp; done) | (simp; omega))); obtain ⟨kcw5w0, kfw5w0, klw5w0⟩ := kw5w0)); (try ((have kw5w10 := (bnew hbw5) (w1.heap.size) ?pf); (case pf => (first | omega | (simp; done) | (simp; omega))); obtain ⟨kcw5w10, kfw5w10, klw5w10⟩ := kw5w10))) | (go_at_call 27; (with_reducible refine (unhide HT _).mono ?_); rintro e w6 ⟨rfl, hbw6⟩; obtain ⟨hcw6, hfw6⟩ := bcell hbw6; have hzw6 := hbw6.size; (try simp at hzw6); (try ((have kw6w0 := (bnew hbw6) (w.heap.size) ?pf); (case pf => (first | omega | (simp; done) | (simp; omega))); obtain ⟨kcw6w0, kfw6w0, klw6w0⟩ := kw6w0)); (try ((have kw6w10 := (bnew hbw6) (w1.heap.size) ?pf); (case pf => (first | omega | (simp; done) | (simp; omega))); obtain ⟨kcw6w10, kfw6w10, klw6w10⟩ := kw6w10))))
        exact bodyPost_ret (v := .tuple #[.agg #[.int .i64 0, .int .i64 0], .bool false]) (by simp [results, Tryd.results14, go_sem, *]) rfl ⟨ret_rat (by rw [HF.out]; rfl) (by rw [HF.out]; rfl) (by rw [HF.out]; rfl), (by repeat (first | with_reducible exact Below.refl _ _ | with_reducible assumption | (with_reducible refine Below.trans ?_ (Below.mono (by assumption) (by first | omega | (simp <;> omega)))) | with_reducible apply Below.drew | with_reducible apply below_drewN | (with_reducible refine Below.alloc ?_ (by first | omega | (simp <;> omega)) _) | (with_reducible refine Below.setCell ?_ (by first | omega | (simp <;> omega)) _)))⟩

set_option maxRecDepth 100000 in
set_option maxHeartbeats 1000000 in
theorem raParse_pos (s X Y : ByteArray) (w : World) (hs : s.size ≤ 1048576) (h22 : s.size ≤ 22) (h : sp 47 [] s.data.toList = [X.data.toList, Y.data.toList]) (hX : 0 < X.size) (hXs : X.size ≤ 9223372036854775807) (hYs : Y.size ≤ 9223372036854775807) (hn : ((X[0]'hX).toNat : Int) ≠ 45) :
    Calls Tryd.prog 14 #[.string s] w fun e w' => e = .returned (.tuple #[.agg #[.int .i64 (oN (fin s.data.toList (rrN X.data.toList) (rrN Y.data.toList))), .int .i64 (oD (fin s.data.toList (rrN X.data.toList) (rrN Y.data.toList)))], .bool (fin s.data.toList (rrN X.data.toList) (rrN Y.data.toList)).isSome]) ∧ Below w.heap.size w w' := by
  have hsp := fun W => split_form s 47 W hs
  rw [h] at hsp
  have HSP := hide hsp; clear hsp h
  have hx0 : ((X.size : Int) == 0) = false := beq_eq_false_iff_ne.2 (by omega)
  have hx1 : (((X[0]'hX).toNat : Int) == 45) = false := by simpa using hn
  have hrx : ∀ W, Calls Tryd.prog 25 #[.string X] W fun e w' => e = .returned (.int .i64 (rrN X.data.toList)) ∧ W = w' := fun W => by
    have := raRead_any X W (by omega)
    exact this
  have hry : ∀ W, Calls Tryd.prog 25 #[.string Y] W fun e w' => e = .returned (.int .i64 (rrN Y.data.toList)) ∧ W = w' := fun W => raRead_any Y W hYs
  have hb := rrN_bd (X.data.toList)
  have hb' := rrN_bd Y.data.toList
  obtain ⟨hb2, hb3⟩ := hb
  obtain ⟨hb4, hb5⟩ := hb'
  clear hn
  generalize rrN (X.data.toList) = m at *
  generalize rrN Y.data.toList = d at *
  have HRX := hide hrx; have HRY := hide hry; clear hrx hry
  have q1 : IntKind.i64.wrap (-m) = -m := IntWalk.i64_in _ (by omega)
  have q2 : IntKind.i64.wrap m = m := IntWalk.i64_in _ (by omega)
  go_enter Tryd.func14, Tryd.ntmps14
  go_wp2_with fail
  refine ((unhide HSP) _).mono ?_
  rintro e w1 ⟨g, cap, rfl, hP⟩
  have hb1 := hP.below
  have hz1 := hb1.size
  simp at hz1
  have hx : w1.cell? ⟨g, 0, none⟩ = some (.string X) := hP.at_ 0 _ rfl
  have hy : w1.cell? ⟨g, 1, none⟩ = some (.string Y) := hP.at_ 1 _ rfl
  have hf := hP.free 0
  have hg1 := hP.lo
  have hg2 := hP.hi
  simp at hg1
  have hgn1 : ¬ g = w.heap.size := by omega
  have hgn2 : ¬ w.heap.size = g := by omega
  have HP := hide hP; clear hP
  obtain ⟨kc, kf, kl⟩ := bnew hb1 w.heap.size (by simp)
  go_wp2_with fail
  go_region_held3 (fun w' => w'.cell? ⟨g, 0, none⟩ = some (.string X) ∧ w'.cell? ⟨g, 1, none⟩ = some (.string Y)) (simp [go_sem, *])
    (first
      | (go_at_call 25; (with_reducible refine ((unhide HRX) _).mono ?_); rintro e w2 ⟨rfl, rfl⟩)
      | (go_at_call 25; (with_reducible refine ((unhide HRY) _).mono ?_); rintro e w2 ⟨rfl, rfl⟩))
  all_goals
    cases hg : good m d with
    | false =>
      have HF := Lib.hid (fin_no (l := s.data.toList) (n := m) (d := d) (by simp [hg]))
      go_wp2_with (go_at_call 26; (with_reducible refine (raGood_any _ _ _).mono ?_); rintro e w5 ⟨rfl, hbw5⟩; obtain ⟨hcw5, hfw5⟩ := bcell hbw5; have hzw5 := hbw5.size; (try simp at hzw5); (try ((have kw5w0 := (bnew hbw5) (w.heap.size) ?pf); (case pf => (first | omega | (simp; done) | (simp; omega))); obtain ⟨kcw5w0, kfw5w0, klw5w0⟩ := kw5w0)); (try ((have kw5w10 := (bnew hbw5) (w1.heap.size) ?pf); (case pf => (first | omega | (simp; done) | (simp; omega))); obtain ⟨kcw5w10, kfw5w10, klw5w10⟩ := kw5w10)))
      exact bodyPost_ret (v := .tuple #[.agg #[.int .i64 0, .int .i64 0], .bool false]) (by simp [results, Tryd.results14, go_sem, *]) rfl ⟨ret_rat (by rw [HF.out]; rfl) (by rw [HF.out]; rfl) (by rw [HF.out]; rfl), (by repeat (first | with_reducible exact Below.refl _ _ | with_reducible assumption | (with_reducible refine Below.trans ?_ (Below.mono (by assumption) (by first | omega | (simp <;> omega)))) | with_reducible apply Below.drew | with_reducible apply below_drewN | (with_reducible refine Below.alloc ?_ (by first | omega | (simp <;> omega)) _) | (with_reducible refine Below.setCell ?_ (by first | omega | (simp <;> omega)) _)))⟩
    | true =>
      obtain ⟨b1, b2, a1, a2, g1⟩ := good_iff.1 hg
      clear g1
      by_cases ht : ratTxt m d = s.data.toList
      · have HF := Lib.hid (fin_yes hg ht)
        have hq : (ratTxt m d == s.toList) = true := by rw [Lib.toList_data]; simpa using ht
        clear ht
        have HT := hide (fun W => raText_any m d W a1 a2 (by omega) b2)
        generalize ratTxt m d = tx at *
        go_wp2_with (first | (go_at_call 26; (with_reducible refine (raGood_any _ _ _).mono ?_); rintro e w5 ⟨rfl, hbw5⟩; obtain ⟨hcw5, hfw5⟩ := bcell hbw5; have hzw5 := hbw5.size; (try simp at hzw5); (try ((have kw5w0 := (bnew hbw5) (w.heap.size) ?pf); (case pf => (first | omega | (simp; done) | (simp; omega))); obtain ⟨kcw5w0, kfw5w0, klw5w0⟩ := kw5w0)); (try ((have kw5w10 := (bnew hbw5) (w1.heap.size) ?pf); (case pf => (first | omega | (simp; done) | (simp; omega))); obtain ⟨kcw5w10, kfw5w10, klw5w10⟩ := kw5w10))) | (go_at_call 27; (with_reducible refine (unhide HT _).mono ?_); rintro e w6 ⟨rfl, hbw6⟩; obtain ⟨hcw6, hfw6⟩ := bcell hbw6; have hzw6 := hbw6.size; (try simp at hzw6); (try ((have kw6w0 := (bnew hbw6) (w.heap.size) ?pf); (case pf => (first | omega | (simp; done) | (simp; omega))); obtain ⟨kcw6w0, kfw6w0, klw6w0⟩ := kw6w0)); (try ((have kw6w10 := (bnew hbw6) (w1.heap.size) ?pf); (case pf => (first | omega | (simp; done) | (simp; omega))); obtain ⟨kcw6w10, kfw6w10, klw6w10⟩ := kw6w10))))
        exact bodyPost_ret (v := .tuple #[.agg #[.int .i64 m, .int .i64 d], .bool true]) (by simp [results, Tryd.results14, go_sem, *]) rfl ⟨ret_rat (by rw [HF.out]; rfl) (by rw [HF.out]; rfl) (by rw [HF.out]; rfl), (by repeat (first | with_reducible exact Below.refl _ _ | with_reducible assumption | (with_reducible refine Below.trans ?_ (Below.mono (by assumption) (by first | omega | (simp <;> omega)))) | with_reducible apply Below.drew | with_reducible apply below_drewN | (with_reducible refine Below.alloc ?_ (by first | omega | (simp <;> omega)) _) | (with_reducible refine Below.setCell ?_ (by first | omega | (simp <;> omega)) _)))⟩
      · have HF := Lib.hid (fin_no (l := s.data.toList) (n := m) (d := d) (by simp [ht]))
        have hq : (ratTxt m d == s.toList) = false := by rw [Lib.toList_data]; simpa using ht
        clear ht
        have HT := hide (fun W => raText_any m d W a1 a2 (by omega) b2)
        generalize ratTxt m d = tx at *
        go_wp2_with (first | (go_at_call 26; (with_reducible refine (raGood_any _ _ _).mono ?_); rintro e w5 ⟨rfl, hbw5⟩; obtain ⟨hcw5, hfw5⟩ := bcell hbw5; have hzw5 := hbw5.size; (try simp at hzw5); (try ((have kw5w0 := (bnew hbw5) (w.heap.size) ?pf); (case pf => (first | omega | (simp; done) | (simp; omega))); obtain ⟨kcw5w0, kfw5w0, klw5w0⟩ := kw5w0)); (try ((have kw5w10 := (bnew hbw5) (w1.heap.size) ?pf); (case pf => (first | omega | (simp; done) | (simp; omega))); obtain ⟨kcw5w10, kfw5w10, klw5w10⟩ := kw5w10))) | (go_at_call 27; (with_reducible refine (unhide HT _).mono ?_); rintro e w6 ⟨rfl, hbw6⟩; obtain ⟨hcw6, hfw6⟩ := bcell hbw6; have hzw6 := hbw6.size; (try simp at hzw6); (try ((have kw6w0 := (bnew hbw6) (w.heap.size) ?pf); (case pf => (first | omega | (simp; done) | (simp; omega))); obtain ⟨kcw6w0, kfw6w0, klw6w0⟩ := kw6w0)); (try ((have kw6w10 := (bnew hbw6) (w1.heap.size) ?pf); (case pf => (first | omega | (simp; done) | (simp; omega))); obtain ⟨kcw6w10, kfw6w10, klw6w10⟩ := kw6w10))))
        exact bodyPost_ret (v := .tuple #[.agg #[.int .i64 0, .int .i64 0], .bool false]) (by simp [results, Tryd.results14, go_sem, *]) rfl ⟨ret_rat (by rw [HF.out]; rfl) (by rw [HF.out]; rfl) (by rw [HF.out]; rfl), (by repeat (first | with_reducible exact Below.refl _ _ | with_reducible assumption | (with_reducible refine Below.trans ?_ (Below.mono (by assumption) (by first | omega | (simp <;> omega)))) | with_reducible apply Below.drew | with_reducible apply below_drewN | (with_reducible refine Below.alloc ?_ (by first | omega | (simp <;> omega)) _) | (with_reducible refine Below.setCell ?_ (by first | omega | (simp <;> omega)) _)))⟩

end Go.Proofs.YtmkejopkmdcfeabDoor

/-
  Chapter 1: the contract of the program's ParseRat.
-/
import Derived.Test.YtmkejopkmdcfeabDoorParseS
namespace Go.Proofs.YtmkejopkmdcfeabDoor
open Go.RowKit Rm

theorem indexByte_bd (c : UInt8) : ∀ l : List UInt8, -1 ≤ Lib.indexByte l c ∧ Lib.indexByte l c < l.length := by
  intro l
  induction l with
  | nil => simp [Lib.indexByte]
  | cons b r ih =>
    simp only [Lib.indexByte]
    have hl : (b :: r).length = r.length + 1 := rfl
    split
    · omega
    · split
      · omega
      · omega
def cutT (s : ByteArray) : ByteArray := if 0 ≤ Lib.indexByte s.data.toList 47 then s.extract 0 (Lib.indexByte s.data.toList 47).toNat else s
def cutB (s : ByteArray) : ByteArray := if 0 ≤ Lib.indexByte s.data.toList 47 then s.extract ((Lib.indexByte s.data.toList 47).toNat + 1) s.size else ⟨#[]⟩
def cutF (s : ByteArray) : Bool := decide (0 ≤ Lib.indexByte s.data.toList 47)

set_option maxRecDepth 100000 in
set_option maxHeartbeats 400000 in
theorem slcut_any (s : ByteArray) (w : World) (hs : s.size ≤ 1048576) :
    Calls Tryd.prog 32 #[.string s, .string ⟨#[47]⟩] w fun e w' => e = .returned (.tuple #[.string (cutT s), .string (cutB s), .bool (cutF s)]) ∧ ∃ n, w.drewN n = w' := by
  have hc := fun W => Tryd.stringslite_Index_one s 47 W
  have hbd := indexByte_bd 47 s.data.toList
  unfold cutT cutB cutF
  have hlen : s.data.toList.length = s.size := by simp
  rw [hlen] at hbd
  clear hlen
  by_cases h0 : 0 ≤ Lib.indexByte s.data.toList 47
  · rw [if_pos h0, if_pos h0, decide_eq_true h0]
    obtain ⟨i, hi⟩ := Int.eq_ofNat_of_zero_le h0
    rw [hi] at hc hbd ⊢
    simp only [Int.toNat_natCast]
    have HC := hide hc; clear hc hi h0
    have hi2 : i < s.size := by omega
    have hi3 : (i : Int) < (s.size : Int) := by omega
    have q1 : IntKind.i64.wrap ((i : Int) + 1) = (i : Int) + 1 := IntWalk.i64_in _ (by omega)
    have q2 : ((i : Int) + 1).toNat = i + 1 := by omega
    have q3 : (i : Int) + 1 ≤ (s.size : Int) := by omega
    have q4 : 0 ≤ (i : Int) + 1 := by omega
    go_enter Tryd.func32, Tryd.ntmps32
    go_wp2_with (go_at_call 45; refine ((unhide HC) _).mono ?_; rintro e w1 ⟨rfl, rfl⟩)
    go_quiet (fail)
    go_wp2
    go_ret3
    exact ⟨rfl, _, rfl⟩
  · rw [if_neg h0, if_neg h0, decide_eq_false h0]
    obtain hi : Lib.indexByte s.data.toList 47 = -1 := by omega
    rw [hi] at hc
    have HC := hide hc; clear hc hi h0
    go_enter Tryd.func32, Tryd.ntmps32
    go_wp2_with (go_at_call 45; refine ((unhide HC) _).mono ?_; rintro e w1 ⟨rfl, rfl⟩)
    go_ret3
    exact ⟨rfl, 0, rfl⟩
set_option maxHeartbeats 400000 in
theorem cut_any (s : ByteArray) (w : World) (hs : s.size ≤ 1048576) :
    Calls Tryd.prog 17 #[.string s, .string ⟨#[47]⟩] w fun e w' => e = .returned (.tuple #[.string (cutT s), .string (cutB s), .bool (cutF s)]) ∧ ∃ n, w.drewN n = w' := by
  have hc := fun W => slcut_any s W hs
  generalize cutT s = x at *
  generalize cutB s = y at *
  generalize cutF s = z at *
  have HC := hide hc; clear hc
  go_enter Tryd.func17, Tryd.ntmps17
  go_wp2_with (go_at_call 32; refine ((unhide HC) _).mono ?_; rintro e w1 ⟨rfl, n, rfl⟩)
  go_ret3
  exact ⟨rfl, _, rfl⟩

/-- What the program's ParseRat returns. -/
def implP (s : ByteArray) : Option (Int × Int) :=
  if rdOk (Lib.trimPrefix (cutT s).data.toList [45]) then
    if rdOk (cutB s).data.toList then
      fin s.data.toList (if Lib.hasPrefix (cutT s).data.toList [45] then -(rdN (Lib.trimPrefix (cutT s).data.toList [45])) else rdN (Lib.trimPrefix (cutT s).data.toList [45])) (rdN (cutB s).data.toList)
    else none
  else none
theorem rdN_bd (l : List UInt8) : 0 ≤ rdN l ∧ rdN l ≤ 1000000000 := rd_bd l 0 (by omega) (by omega)

set_option maxRecDepth 100000 in
set_option maxHeartbeats 1000000 in
theorem iParse_any (s T B : ByteArray) (D : List UInt8) (hp ok1 ok2 : Bool) (n d : Int) (w : World) (ht : Pow10 w) (hs : s.size ≤ 1048576) 
    (hT : cutT s = T) (hB : cutB s = B) (hD : Lib.trimPrefix T.data.toList [45] = D) (hhp : Lib.hasPrefix T.data.toList [45] = hp)
    (h1 : rdN D = n) (h2 : rdOk D = ok1) (h3 : rdN B.data.toList = d) (h4 : rdOk B.data.toList = ok2) (hDs : D.length ≤ 1048576) (hBs : B.size ≤ 1048576) :
    Calls Tryd.prog 10 #[.string s] w fun e w' => e = .returned (.tuple #[.agg #[.int .i64 (oN (implP s)), .int .i64 (oD (implP s))], .bool (implP s).isSome]) ∧ Below w.heap.size w w' := by
  have hcut := fun W => cut_any s W hs
  rw [hT, hB] at hcut
  have hpre := fun W => Tryd.strings_CutPrefix T ⟨#[45]⟩ W
  rw [show (⟨#[45]⟩ : ByteArray).data.toList = [45] from rfl, hD, hhp] at hpre
  have hr1 := fun W => readDigits_any ⟨D.toArray⟩ W (by simp [ByteArray.size]; omega)
  rw [show (⟨D.toArray⟩ : ByteArray).data.toList = D by simp, h1, h2] at hr1
  have hr2 := fun W => readDigits_any B W (by omega)
  rw [h3, h4] at hr2
  have hP : implP s = if ok1 then if ok2 then fin s.data.toList (if hp then -n else n) d else none else none := by
    unfold implP; rw [hT, hB, hD, hhp, h1, h2, h3, h4]
  have hbn := rdN_bd D
  have hbd := rdN_bd B.data.toList
  rw [h1] at hbn; rw [h3] at hbd
  obtain ⟨n1, n2⟩ := hbn
  obtain ⟨d1, d2⟩ := hbd
  have HT := Lib.hid ht
  have HPP := Lib.hid hP
  have HCUT := hide hcut; have HPRE := hide hpre; have HR1 := hide hr1; have HR2 := hide hr2
  clear hcut hpre hr1 hr2 hP ht h1 h2 h3 h4 hD hhp hT hB hDs hBs
  cases ok1
  · have HF : Hid (implP s = none) := HPP.out
    cases hp
    all_goals
      go_enter Tryd.func10, Tryd.ntmps10
      go_wp2_with (first | (go_at_call 17; refine ((unhide HCUT) _).mono ?_; rintro e w1 ⟨rfl, n1, rfl⟩) | (go_at_call 18; refine ((unhide HPRE) _).mono ?_; rintro e w1 ⟨rfl, rfl⟩) | (go_at_call 19; (with_reducible refine ((unhide HR1) _).mono ?_); rintro e w2 ⟨rfl, hbw2⟩; obtain ⟨hcw2, hfw2⟩ := bcell hbw2; have hzw2 := hbw2.size; (try simp at hzw2); (try ((have kw2w0 := (bnew hbw2) (w.heap.size) ?pf); (case pf => (first | omega | (simp; done) | (simp; omega))); obtain ⟨kcw2w0, kfw2w0, klw2w0⟩ := kw2w0))))
      exact bodyPost_ret (v := .tuple #[.agg #[.int .i64 0, .int .i64 0], .bool false]) (by simp [results, Tryd.results10, go_sem, *]) rfl ⟨ret_rat (by rw [HF.out]; rfl) (by rw [HF.out]; rfl) (by rw [HF.out]; rfl), (by repeat (first | with_reducible exact Below.refl _ _ | with_reducible assumption | (with_reducible refine Below.trans ?_ (Below.mono (by assumption) (by first | omega | (simp <;> omega)))) | with_reducible apply Below.drew | with_reducible apply below_drewN | (with_reducible refine Below.alloc ?_ (by first | omega | (simp <;> omega)) _) | (with_reducible refine Below.setCell ?_ (by first | omega | (simp <;> omega)) _)))⟩
  · cases ok2
    · have HF : Hid (implP s = none) := HPP.out
      cases hp
      all_goals
        go_enter Tryd.func10, Tryd.ntmps10
        go_wp2_with (first | (go_at_call 17; refine ((unhide HCUT) _).mono ?_; rintro e w1 ⟨rfl, n1, rfl⟩) | (go_at_call 18; refine ((unhide HPRE) _).mono ?_; rintro e w1 ⟨rfl, rfl⟩) | (go_at_call 19; (with_reducible refine ((unhide HR1) _).mono ?_); rintro e w2 ⟨rfl, hbw2⟩; obtain ⟨hcw2, hfw2⟩ := bcell hbw2; have hzw2 := hbw2.size; (try simp at hzw2); (try ((have kw2w0 := (bnew hbw2) (w.heap.size) ?pf); (case pf => (first | omega | (simp; done) | (simp; omega))); obtain ⟨kcw2w0, kfw2w0, klw2w0⟩ := kw2w0))) | (go_at_call 19; (with_reducible refine ((unhide HR2) _).mono ?_); rintro e w3 ⟨rfl, hbw3⟩; obtain ⟨hcw3, hfw3⟩ := bcell hbw3; have hzw3 := hbw3.size; (try simp at hzw3); (try ((have kw3w0 := (bnew hbw3) (w.heap.size) ?pf); (case pf => (first | omega | (simp; done) | (simp; omega))); obtain ⟨kcw3w0, kfw3w0, klw3w0⟩ := kw3w0))))
        exact bodyPost_ret (v := .tuple #[.agg #[.int .i64 0, .int .i64 0], .bool false]) (by simp [results, Tryd.results10, go_sem, *]) rfl ⟨ret_rat (by rw [HF.out]; rfl) (by rw [HF.out]; rfl) (by rw [HF.out]; rfl), (by repeat (first | with_reducible exact Below.refl _ _ | with_reducible assumption | (with_reducible refine Below.trans ?_ (Below.mono (by assumption) (by first | omega | (simp <;> omega)))) | with_reducible apply Below.drew | with_reducible apply below_drewN | (with_reducible refine Below.alloc ?_ (by first | omega | (simp <;> omega)) _) | (with_reducible refine Below.setCell ?_ (by first | omega | (simp <;> omega)) _)))⟩
    · cases hp
      · have hrt := fun W (hb : Below w.heap.size w W) => iRatText_any n d W (pow10_below HT.out hb)
        have HPQ : Hid (implP s = fin s.data.toList n d) := HPP.out
        cases hg : good n d with
        | false =>
          have HF : Hid (implP s = none) := by rw [HPQ.out]; exact fin_no (by simp [hg])
          rw [hg] at hrt
          have HRT := hide hrt; clear hrt hg
          go_enter Tryd.func10, Tryd.ntmps10
          go_wp2_with (first | (go_at_call 17; refine ((unhide HCUT) _).mono ?_; rintro e w1 ⟨rfl, n1, rfl⟩) | (go_at_call 18; refine ((unhide HPRE) _).mono ?_; rintro e w1 ⟨rfl, rfl⟩) | (go_at_call 19; (with_reducible refine ((unhide HR1) _).mono ?_); rintro e w2 ⟨rfl, hbw2⟩; obtain ⟨hcw2, hfw2⟩ := bcell hbw2; have hzw2 := hbw2.size; (try simp at hzw2); (try ((have kw2w0 := (bnew hbw2) (w.heap.size) ?pf); (case pf => (first | omega | (simp; done) | (simp; omega))); obtain ⟨kcw2w0, kfw2w0, klw2w0⟩ := kw2w0))) | (go_at_call 19; (with_reducible refine ((unhide HR2) _).mono ?_); rintro e w3 ⟨rfl, hbw3⟩; obtain ⟨hcw3, hfw3⟩ := bcell hbw3; have hzw3 := hbw3.size; (try simp at hzw3); (try ((have kw3w0 := (bnew hbw3) (w.heap.size) ?pf); (case pf => (first | omega | (simp; done) | (simp; omega))); obtain ⟨kcw3w0, kfw3w0, klw3w0⟩ := kw3w0))) | (go_at_call 20; (with_reducible refine ((unhide HRT) _ (by repeat (first | with_reducible exact Below.refl _ _ | with_reducible assumption | (with_reducible refine Below.trans ?_ (Below.mono (by assumption) (by first | omega | (simp <;> omega)))) | with_reducible apply Below.drew | with_reducible apply below_drewN | (with_reducible refine Below.alloc ?_ (by first | omega | (simp <;> omega)) _) | (with_reducible refine Below.setCell ?_ (by first | omega | (simp <;> omega)) _)))).mono ?_); rintro e w4 ⟨rfl, hbw4⟩; obtain ⟨hcw4, hfw4⟩ := bcell hbw4; have hzw4 := hbw4.size; (try simp at hzw4); (try ((have kw4w0 := (bnew hbw4) (w.heap.size) ?pf); (case pf => (first | omega | (simp; done) | (simp; omega))); obtain ⟨kcw4w0, kfw4w0, klw4w0⟩ := kw4w0)); (try ((have kw4w30 := (bnew hbw4) (w3.heap.size) ?pf); (case pf => (first | omega | (simp; done) | (simp; omega))); obtain ⟨kcw4w30, kfw4w30, klw4w30⟩ := kw4w30))))
          exact bodyPost_ret (v := .tuple #[.agg #[.int .i64 0, .int .i64 0], .bool false]) (by simp [results, Tryd.results10, go_sem, *]) rfl ⟨ret_rat (by rw [HF.out]; rfl) (by rw [HF.out]; rfl) (by rw [HF.out]; rfl), (by repeat (first | with_reducible exact Below.refl _ _ | with_reducible assumption | (with_reducible refine Below.trans ?_ (Below.mono (by assumption) (by first | omega | (simp <;> omega)))) | with_reducible apply Below.drew | with_reducible apply below_drewN | (with_reducible refine Below.alloc ?_ (by first | omega | (simp <;> omega)) _) | (with_reducible refine Below.setCell ?_ (by first | omega | (simp <;> omega)) _)))⟩
        | true =>
          rw [hg] at hrt
          simp only [ratTxtOr, if_true] at hrt
          by_cases hq0 : ratTxt n d = s.data.toList
          · have HF : Hid (implP s = some (n, d)) := by rw [HPQ.out]; exact fin_yes hg hq0
            have hq : (ratTxt n d == s.toList) = true := by rw [Lib.toList_data]; simpa using hq0
            clear hq0 hg
            generalize ratTxt n d = tx at *
            have HRT := hide hrt; clear hrt
            go_enter Tryd.func10, Tryd.ntmps10
            go_wp2_with (first | (go_at_call 17; refine ((unhide HCUT) _).mono ?_; rintro e w1 ⟨rfl, n1, rfl⟩) | (go_at_call 18; refine ((unhide HPRE) _).mono ?_; rintro e w1 ⟨rfl, rfl⟩) | (go_at_call 19; (with_reducible refine ((unhide HR1) _).mono ?_); rintro e w2 ⟨rfl, hbw2⟩; obtain ⟨hcw2, hfw2⟩ := bcell hbw2; have hzw2 := hbw2.size; (try simp at hzw2); (try ((have kw2w0 := (bnew hbw2) (w.heap.size) ?pf); (case pf => (first | omega | (simp; done) | (simp; omega))); obtain ⟨kcw2w0, kfw2w0, klw2w0⟩ := kw2w0))) | (go_at_call 19; (with_reducible refine ((unhide HR2) _).mono ?_); rintro e w3 ⟨rfl, hbw3⟩; obtain ⟨hcw3, hfw3⟩ := bcell hbw3; have hzw3 := hbw3.size; (try simp at hzw3); (try ((have kw3w0 := (bnew hbw3) (w.heap.size) ?pf); (case pf => (first | omega | (simp; done) | (simp; omega))); obtain ⟨kcw3w0, kfw3w0, klw3w0⟩ := kw3w0))) | (go_at_call 20; (with_reducible refine ((unhide HRT) _ (by repeat (first | with_reducible exact Below.refl _ _ | with_reducible assumption | (with_reducible refine Below.trans ?_ (Below.mono (by assumption) (by first | omega | (simp <;> omega)))) | with_reducible apply Below.drew | with_reducible apply below_drewN | (with_reducible refine Below.alloc ?_ (by first | omega | (simp <;> omega)) _) | (with_reducible refine Below.setCell ?_ (by first | omega | (simp <;> omega)) _)))).mono ?_); rintro e w4 ⟨rfl, hbw4⟩; obtain ⟨hcw4, hfw4⟩ := bcell hbw4; have hzw4 := hbw4.size; (try simp at hzw4); (try ((have kw4w0 := (bnew hbw4) (w.heap.size) ?pf); (case pf => (first | omega | (simp; done) | (simp; omega))); obtain ⟨kcw4w0, kfw4w0, klw4w0⟩ := kw4w0)); (try ((have kw4w30 := (bnew hbw4) (w3.heap.size) ?pf); (case pf => (first | omega | (simp; done) | (simp; omega))); obtain ⟨kcw4w30, kfw4w30, klw4w30⟩ := kw4w30))))
            exact bodyPost_ret (v := .tuple #[.agg #[.int .i64 n, .int .i64 d], .bool true]) (by simp [results, Tryd.results10, go_sem, *]) rfl ⟨ret_rat (by rw [HF.out]; rfl) (by rw [HF.out]; rfl) (by rw [HF.out]; rfl), (by repeat (first | with_reducible exact Below.refl _ _ | with_reducible assumption | (with_reducible refine Below.trans ?_ (Below.mono (by assumption) (by first | omega | (simp <;> omega)))) | with_reducible apply Below.drew | with_reducible apply below_drewN | (with_reducible refine Below.alloc ?_ (by first | omega | (simp <;> omega)) _) | (with_reducible refine Below.setCell ?_ (by first | omega | (simp <;> omega)) _)))⟩
          · have HF : Hid (implP s = none) := by rw [HPQ.out]; exact fin_no (by simp [hq0])
            have hq : (ratTxt n d == s.toList) = false := by rw [Lib.toList_data]; simpa using hq0
            clear hq0 hg
            generalize ratTxt n d = tx at *
            have HRT := hide hrt; clear hrt
            go_enter Tryd.func10, Tryd.ntmps10
            go_wp2_with (first | (go_at_call 17; refine ((unhide HCUT) _).mono ?_; rintro e w1 ⟨rfl, n1, rfl⟩) | (go_at_call 18; refine ((unhide HPRE) _).mono ?_; rintro e w1 ⟨rfl, rfl⟩) | (go_at_call 19; (with_reducible refine ((unhide HR1) _).mono ?_); rintro e w2 ⟨rfl, hbw2⟩; obtain ⟨hcw2, hfw2⟩ := bcell hbw2; have hzw2 := hbw2.size; (try simp at hzw2); (try ((have kw2w0 := (bnew hbw2) (w.heap.size) ?pf); (case pf => (first | omega | (simp; done) | (simp; omega))); obtain ⟨kcw2w0, kfw2w0, klw2w0⟩ := kw2w0))) | (go_at_call 19; (with_reducible refine ((unhide HR2) _).mono ?_); rintro e w3 ⟨rfl, hbw3⟩; obtain ⟨hcw3, hfw3⟩ := bcell hbw3; have hzw3 := hbw3.size; (try simp at hzw3); (try ((have kw3w0 := (bnew hbw3) (w.heap.size) ?pf); (case pf => (first | omega | (simp; done) | (simp; omega))); obtain ⟨kcw3w0, kfw3w0, klw3w0⟩ := kw3w0))) | (go_at_call 20; (with_reducible refine ((unhide HRT) _ (by repeat (first | with_reducible exact Below.refl _ _ | with_reducible assumption | (with_reducible refine Below.trans ?_ (Below.mono (by assumption) (by first | omega | (simp <;> omega)))) | with_reducible apply Below.drew | with_reducible apply below_drewN | (with_reducible refine Below.alloc ?_ (by first | omega | (simp <;> omega)) _) | (with_reducible refine Below.setCell ?_ (by first | omega | (simp <;> omega)) _)))).mono ?_); rintro e w4 ⟨rfl, hbw4⟩; obtain ⟨hcw4, hfw4⟩ := bcell hbw4; have hzw4 := hbw4.size; (try simp at hzw4); (try ((have kw4w0 := (bnew hbw4) (w.heap.size) ?pf); (case pf => (first | omega | (simp; done) | (simp; omega))); obtain ⟨kcw4w0, kfw4w0, klw4w0⟩ := kw4w0)); (try ((have kw4w30 := (bnew hbw4) (w3.heap.size) ?pf); (case pf => (first | omega | (simp; done) | (simp; omega))); obtain ⟨kcw4w30, kfw4w30, klw4w30⟩ := kw4w30))))
            exact bodyPost_ret (v := .tuple #[.agg #[.int .i64 0, .int .i64 0], .bool false]) (by simp [results, Tryd.results10, go_sem, *]) rfl ⟨ret_rat (by rw [HF.out]; rfl) (by rw [HF.out]; rfl) (by rw [HF.out]; rfl), (by repeat (first | with_reducible exact Below.refl _ _ | with_reducible assumption | (with_reducible refine Below.trans ?_ (Below.mono (by assumption) (by first | omega | (simp <;> omega)))) | with_reducible apply Below.drew | with_reducible apply below_drewN | (with_reducible refine Below.alloc ?_ (by first | omega | (simp <;> omega)) _) | (with_reducible refine Below.setCell ?_ (by first | omega | (simp <;> omega)) _)))⟩
      · have hrt := fun W (hb : Below w.heap.size w W) => iRatText_any (-n) d W (pow10_below HT.out hb)
        have HPQ : Hid (implP s = fin s.data.toList (-n) d) := HPP.out
        cases hg : good (-n) d with
        | false =>
          have HF : Hid (implP s = none) := by rw [HPQ.out]; exact fin_no (by simp [hg])
          rw [hg] at hrt
          have HRT := hide hrt; clear hrt hg
          go_enter Tryd.func10, Tryd.ntmps10
          go_wp2_with (first | (go_at_call 17; refine ((unhide HCUT) _).mono ?_; rintro e w1 ⟨rfl, n1, rfl⟩) | (go_at_call 18; refine ((unhide HPRE) _).mono ?_; rintro e w1 ⟨rfl, rfl⟩) | (go_at_call 19; (with_reducible refine ((unhide HR1) _).mono ?_); rintro e w2 ⟨rfl, hbw2⟩; obtain ⟨hcw2, hfw2⟩ := bcell hbw2; have hzw2 := hbw2.size; (try simp at hzw2); (try ((have kw2w0 := (bnew hbw2) (w.heap.size) ?pf); (case pf => (first | omega | (simp; done) | (simp; omega))); obtain ⟨kcw2w0, kfw2w0, klw2w0⟩ := kw2w0))) | (go_at_call 19; (with_reducible refine ((unhide HR2) _).mono ?_); rintro e w3 ⟨rfl, hbw3⟩; obtain ⟨hcw3, hfw3⟩ := bcell hbw3; have hzw3 := hbw3.size; (try simp at hzw3); (try ((have kw3w0 := (bnew hbw3) (w.heap.size) ?pf); (case pf => (first | omega | (simp; done) | (simp; omega))); obtain ⟨kcw3w0, kfw3w0, klw3w0⟩ := kw3w0))) | (go_at_call 20; (with_reducible refine ((unhide HRT) _ (by repeat (first | with_reducible exact Below.refl _ _ | with_reducible assumption | (with_reducible refine Below.trans ?_ (Below.mono (by assumption) (by first | omega | (simp <;> omega)))) | with_reducible apply Below.drew | with_reducible apply below_drewN | (with_reducible refine Below.alloc ?_ (by first | omega | (simp <;> omega)) _) | (with_reducible refine Below.setCell ?_ (by first | omega | (simp <;> omega)) _)))).mono ?_); rintro e w4 ⟨rfl, hbw4⟩; obtain ⟨hcw4, hfw4⟩ := bcell hbw4; have hzw4 := hbw4.size; (try simp at hzw4); (try ((have kw4w0 := (bnew hbw4) (w.heap.size) ?pf); (case pf => (first | omega | (simp; done) | (simp; omega))); obtain ⟨kcw4w0, kfw4w0, klw4w0⟩ := kw4w0)); (try ((have kw4w30 := (bnew hbw4) (w3.heap.size) ?pf); (case pf => (first | omega | (simp; done) | (simp; omega))); obtain ⟨kcw4w30, kfw4w30, klw4w30⟩ := kw4w30))))
          exact bodyPost_ret (v := .tuple #[.agg #[.int .i64 0, .int .i64 0], .bool false]) (by simp [results, Tryd.results10, go_sem, *]) rfl ⟨ret_rat (by rw [HF.out]; rfl) (by rw [HF.out]; rfl) (by rw [HF.out]; rfl), (by repeat (first | with_reducible exact Below.refl _ _ | with_reducible assumption | (with_reducible refine Below.trans ?_ (Below.mono (by assumption) (by first | omega | (simp <;> omega)))) | with_reducible apply Below.drew | with_reducible apply below_drewN | (with_reducible refine Below.alloc ?_ (by first | omega | (simp <;> omega)) _) | (with_reducible refine Below.setCell ?_ (by first | omega | (simp <;> omega)) _)))⟩
        | true =>
          rw [hg] at hrt
          simp only [ratTxtOr, if_true] at hrt
          by_cases hq0 : ratTxt (-n) d = s.data.toList
          · have HF : Hid (implP s = some ((-n), d)) := by rw [HPQ.out]; exact fin_yes hg hq0
            have hq : (ratTxt (-n) d == s.toList) = true := by rw [Lib.toList_data]; simpa using hq0
            clear hq0 hg
            generalize ratTxt (-n) d = tx at *
            have HRT := hide hrt; clear hrt
            go_enter Tryd.func10, Tryd.ntmps10
            go_wp2_with (first | (go_at_call 17; refine ((unhide HCUT) _).mono ?_; rintro e w1 ⟨rfl, n1, rfl⟩) | (go_at_call 18; refine ((unhide HPRE) _).mono ?_; rintro e w1 ⟨rfl, rfl⟩) | (go_at_call 19; (with_reducible refine ((unhide HR1) _).mono ?_); rintro e w2 ⟨rfl, hbw2⟩; obtain ⟨hcw2, hfw2⟩ := bcell hbw2; have hzw2 := hbw2.size; (try simp at hzw2); (try ((have kw2w0 := (bnew hbw2) (w.heap.size) ?pf); (case pf => (first | omega | (simp; done) | (simp; omega))); obtain ⟨kcw2w0, kfw2w0, klw2w0⟩ := kw2w0))) | (go_at_call 19; (with_reducible refine ((unhide HR2) _).mono ?_); rintro e w3 ⟨rfl, hbw3⟩; obtain ⟨hcw3, hfw3⟩ := bcell hbw3; have hzw3 := hbw3.size; (try simp at hzw3); (try ((have kw3w0 := (bnew hbw3) (w.heap.size) ?pf); (case pf => (first | omega | (simp; done) | (simp; omega))); obtain ⟨kcw3w0, kfw3w0, klw3w0⟩ := kw3w0))) | (go_at_call 20; (with_reducible refine ((unhide HRT) _ (by repeat (first | with_reducible exact Below.refl _ _ | with_reducible assumption | (with_reducible refine Below.trans ?_ (Below.mono (by assumption) (by first | omega | (simp <;> omega)))) | with_reducible apply Below.drew | with_reducible apply below_drewN | (with_reducible refine Below.alloc ?_ (by first | omega | (simp <;> omega)) _) | (with_reducible refine Below.setCell ?_ (by first | omega | (simp <;> omega)) _)))).mono ?_); rintro e w4 ⟨rfl, hbw4⟩; obtain ⟨hcw4, hfw4⟩ := bcell hbw4; have hzw4 := hbw4.size; (try simp at hzw4); (try ((have kw4w0 := (bnew hbw4) (w.heap.size) ?pf); (case pf => (first | omega | (simp; done) | (simp; omega))); obtain ⟨kcw4w0, kfw4w0, klw4w0⟩ := kw4w0)); (try ((have kw4w30 := (bnew hbw4) (w3.heap.size) ?pf); (case pf => (first | omega | (simp; done) | (simp; omega))); obtain ⟨kcw4w30, kfw4w30, klw4w30⟩ := kw4w30))))
            exact bodyPost_ret (v := .tuple #[.agg #[.int .i64 (-n), .int .i64 d], .bool true]) (by simp [results, Tryd.results10, go_sem, *]) rfl ⟨ret_rat (by rw [HF.out]; rfl) (by rw [HF.out]; rfl) (by rw [HF.out]; rfl), (by repeat (first | with_reducible exact Below.refl _ _ | with_reducible assumption | (with_reducible refine Below.trans ?_ (Below.mono (by assumption) (by first | omega | (simp <;> omega)))) | with_reducible apply Below.drew | with_reducible apply below_drewN | (with_reducible refine Below.alloc ?_ (by first | omega | (simp <;> omega)) _) | (with_reducible refine Below.setCell ?_ (by first | omega | (simp <;> omega)) _)))⟩
          · have HF : Hid (implP s = none) := by rw [HPQ.out]; exact fin_no (by simp [hq0])
            have hq : (ratTxt (-n) d == s.toList) = false := by rw [Lib.toList_data]; simpa using hq0
            clear hq0 hg
            generalize ratTxt (-n) d = tx at *
            have HRT := hide hrt; clear hrt
            go_enter Tryd.func10, Tryd.ntmps10
            go_wp2_with (first | (go_at_call 17; refine ((unhide HCUT) _).mono ?_; rintro e w1 ⟨rfl, n1, rfl⟩) | (go_at_call 18; refine ((unhide HPRE) _).mono ?_; rintro e w1 ⟨rfl, rfl⟩) | (go_at_call 19; (with_reducible refine ((unhide HR1) _).mono ?_); rintro e w2 ⟨rfl, hbw2⟩; obtain ⟨hcw2, hfw2⟩ := bcell hbw2; have hzw2 := hbw2.size; (try simp at hzw2); (try ((have kw2w0 := (bnew hbw2) (w.heap.size) ?pf); (case pf => (first | omega | (simp; done) | (simp; omega))); obtain ⟨kcw2w0, kfw2w0, klw2w0⟩ := kw2w0))) | (go_at_call 19; (with_reducible refine ((unhide HR2) _).mono ?_); rintro e w3 ⟨rfl, hbw3⟩; obtain ⟨hcw3, hfw3⟩ := bcell hbw3; have hzw3 := hbw3.size; (try simp at hzw3); (try ((have kw3w0 := (bnew hbw3) (w.heap.size) ?pf); (case pf => (first | omega | (simp; done) | (simp; omega))); obtain ⟨kcw3w0, kfw3w0, klw3w0⟩ := kw3w0))) | (go_at_call 20; (with_reducible refine ((unhide HRT) _ (by repeat (first | with_reducible exact Below.refl _ _ | with_reducible assumption | (with_reducible refine Below.trans ?_ (Below.mono (by assumption) (by first | omega | (simp <;> omega)))) | with_reducible apply Below.drew | with_reducible apply below_drewN | (with_reducible refine Below.alloc ?_ (by first | omega | (simp <;> omega)) _) | (with_reducible refine Below.setCell ?_ (by first | omega | (simp <;> omega)) _)))).mono ?_); rintro e w4 ⟨rfl, hbw4⟩; obtain ⟨hcw4, hfw4⟩ := bcell hbw4; have hzw4 := hbw4.size; (try simp at hzw4); (try ((have kw4w0 := (bnew hbw4) (w.heap.size) ?pf); (case pf => (first | omega | (simp; done) | (simp; omega))); obtain ⟨kcw4w0, kfw4w0, klw4w0⟩ := kw4w0)); (try ((have kw4w30 := (bnew hbw4) (w3.heap.size) ?pf); (case pf => (first | omega | (simp; done) | (simp; omega))); obtain ⟨kcw4w30, kfw4w30, klw4w30⟩ := kw4w30))))
            exact bodyPost_ret (v := .tuple #[.agg #[.int .i64 0, .int .i64 0], .bool false]) (by simp [results, Tryd.results10, go_sem, *]) rfl ⟨ret_rat (by rw [HF.out]; rfl) (by rw [HF.out]; rfl) (by rw [HF.out]; rfl), (by repeat (first | with_reducible exact Below.refl _ _ | with_reducible assumption | (with_reducible refine Below.trans ?_ (Below.mono (by assumption) (by first | omega | (simp <;> omega)))) | with_reducible apply Below.drew | with_reducible apply below_drewN | (with_reducible refine Below.alloc ?_ (by first | omega | (simp <;> omega)) _) | (with_reducible refine Below.setCell ?_ (by first | omega | (simp <;> omega)) _)))⟩
end Go.Proofs.YtmkejopkmdcfeabDoor

/-
  Chapter 7: IsMaximalWord of both.
-/
import Derived.Test.YtldmgjeecomddaaDoorTk
import Derived.Lib.OthersKept
import Derived.WalkSmall
import Derived.Lib.IndexBytes
import Derived.Lib.PathFns
namespace Go.Proofs.YtldmgjeecomddaaDoor
open Go.RowKit Rm

/-- The comparison of the word from place i on with the word's beginning. -/
def mxK (l : List UInt8) (i : Nat) : Int := ckF (l.drop i) (l.take (l.length - i)) (l.length - i) 0
def mxB (l : List UInt8) : Bool := (List.range l.length).all fun i => decide (mxK l i ≤ 0)
theorem mx_zero (l : List UInt8) : mxK l 0 = 0 := by
  unfold mxK
  rw [Nat.sub_zero, List.drop_zero, List.take_length]
  exact ckF_eq _ _ fun j _ _ => rfl
theorem mx_no {l : List UInt8} {i : Nat} (hi : i < l.length) (h : 0 < mxK l i) : mxB l = false := by
  unfold mxB
  exact List.all_eq_false.2 ⟨i, List.mem_range.2 hi, by simpa using h⟩
theorem mx_yes {l : List UInt8} (h : ∀ i, i < l.length → mxK l i ≤ 0) : mxB l = true := by
  unfold mxB
  rw [List.all_eq_true]
  exact fun i hi => decide_eq_true (h i (List.mem_range.1 hi))
theorem all_drop {p : UInt8 → Bool} {l : List UInt8} (h : l.all p = true) (k : Nat) : (l.drop k).all p = true := by
  rw [List.all_eq_true] at h ⊢
  exact fun x hx => h x (List.mem_of_mem_drop hx)
theorem all_take {p : UInt8 → Bool} {l : List UInt8} (h : l.all p = true) (k : Nat) : (l.take k).all p = true := by
  rw [List.all_eq_true] at h ⊢
  exact fun x hx => h x (List.mem_of_mem_take hx)
theorem gd_in' {t s : ByteArray} (h : gdB t s = true) : inB t s = true := by
  unfold gdB at h
  rw [Bool.and_eq_true] at h
  exact h.1
theorem sub_from {s : ByteArray} (h : gdB sLCR s = true) {i m : Nat} (hm : s.size = i + m) (h1 : 1 ≤ m) : (s.extract i s.size).data.toList = s.data.toList.drop i ∧ (s.extract i s.size).size = m ∧ gdB sLCR (s.extract i s.size) = true := by
  have e := Lib.extract_to_end s i
  have e2 : (s.extract i s.size).size = m := by rw [← sz_list, e, List.length_drop, sz_list]; omega
  have h30 := gd_size' h
  refine ⟨e, e2, ?_⟩
  unfold gdB
  rw [e2, decide_eq_true (by omega), Bool.and_true]
  unfold inB
  rw [e]
  exact all_drop (gd_in' h) i
theorem sub_to {s : ByteArray} (h : gdB sLCR s = true) {i m : Nat} (hm : s.size = i + m) (h1 : 1 ≤ m) : (s.extract 0 m).data.toList = s.data.toList.take m ∧ (s.extract 0 m).size = m ∧ gdB sLCR (s.extract 0 m) = true := by
  have e : (s.extract 0 m).data.toList = s.data.toList.take m := by rw [Lib.extract_upto]
  have e2 : (s.extract 0 m).size = m := by rw [← sz_list, e, List.length_take, sz_list]; omega
  have h30 := gd_size' h
  refine ⟨e, e2, ?_⟩
  unfold gdB
  rw [e2, decide_eq_true (by omega), Bool.and_true]
  unfold inB
  rw [e]
  exact all_take (gd_in' h) m
theorem sub_cmp {s : ByteArray} (h : gdB sLCR s = true) {i m : Nat} (hm : s.size = i + m) (h1 : 1 ≤ m) : ckZ (s.extract i s.size) (s.extract 0 m) = true ∧ ckI (s.extract i s.size) (s.extract 0 m) = mxK s.data.toList i := by
  obtain ⟨a1, a2, a3⟩ := sub_from h hm h1
  obtain ⟨b1, b2, b3⟩ := sub_to h hm h1
  have hz : ckZ (s.extract i s.size) (s.extract 0 m) = true := by unfold ckZ; rw [a3, b3, a2, b2]; simp
  refine ⟨hz, ?_⟩
  unfold ckI mxK
  rw [hz, a1, b1, a2, sz_list, show s.size - i = m by omega]

set_option maxRecDepth 100000 in
set_option maxHeartbeats 1600000 in
theorem knMaximal_any (s : ByteArray) (w : World) (h : gdB sLCR s = true) :
    Calls Tryd.prog 30 #[.string s] w fun e w' => e = .returned (.bool (mxB s.data.toList)) ∧ Below w.heap.size w w' := by
  have h30 := gd_size' h
  obtain ⟨z, hz⟩ : ∃ z, z = mxB s.data.toList := ⟨_, rfl⟩
  rw [← hz]
  have hcp : ∀ (i m : Nat) (hm : s.size = i + m) (h1 : 1 ≤ m) (W : World), Calls Tryd.prog 26 #[.string (s.extract i s.size), .string (s.extract 0 m)] W fun e w' => e = .returned (.int .i64 (mxK s.data.toList i)) ∧ Below W.heap.size W w' := fun i m hm h1 W => by
    obtain ⟨a1, a2, a3⟩ := sub_from h hm h1
    obtain ⟨b1, b2, b3⟩ := sub_to h hm h1
    have := knCompare_any (s.extract i s.size) (s.extract 0 m) W (by omega) (by omega)
    rw [a1, b1, a2] at this
    unfold mxK
    rw [sz_list, show s.size - i = m by omega]
    exact this
  have HCP := hide hcp; have HZ := Lib.hid hz
  have hll := sz_list s
  have HLL := Lib.hid hll
  have h0 := mx_zero s.data.toList
  have H0 := Lib.hid h0
  clear hcp hz h hll h0
  go_enter Tryd.func30, Tryd.ntmps30
  go_wp2_with fail
  go_loopw [3] (fun i wr => ∃ k : Nat, i = .int .i64 k ∧ 1 ≤ k ∧ k ≤ s.size ∧ Hid (∀ j, j < k → mxK s.data.toList j ≤ 0) ∧ Below w.heap.size w wr) (fun i _ => s.size - (intOf i).toNat)
  case atStart => exact ⟨1, rfl, Nat.le_refl _, h30.1, hide (fun j hj => by obtain rfl : j = 0 := by omega
                                                                            rw [H0.out]; omega), Below.refl _ _⟩
  case round =>
    obtain ⟨k, rfl, hk1, hk, hpre, hb⟩ := hrel
    have hzr := hb.size
    have HB := hide hb
    clear hb
    by_cases hlt : k < s.size
    · obtain ⟨m, hm⟩ : ∃ m, s.size = k + m := ⟨s.size - k, by omega⟩
      have hcp := (unhide HCP) k m hm (by omega)
      have hbad : 0 < mxK s.data.toList k → z = false := fun h => HZ.out.trans (mx_no (by rw [HLL.out]; exact hlt) h)
      have hgo : mxK s.data.toList k ≤ 0 → ∀ j, j < k + 1 → mxK s.data.toList j ≤ 0 := fun h j hj => by
        rcases Nat.lt_or_ge j k with h1 | h1
        · exact (unhide hpre) j h1
        · obtain rfl : j = k := by omega
          exact h
      have w1 : IntKind.i64.wrap ((s.size : Int) - (k : Int)) = (m : Int) := by rw [show (s.size : Int) - (k : Int) = m by omega]; exact IntWalk.i64_in _ (by omega)
      have w2 : (k : Int) ≤ (s.size : Int) := by omega
      have w3 : (m : Int) ≤ (s.size : Int) := by omega
      have HC := hide hcp; have HBAD := hide hbad; have HGO := hide hgo
      clear hcp hbad hgo hpre hm
      generalize mxK s.data.toList k = x at *
      by_cases hx : 0 < x
      · obtain rfl := (unhide HBAD) hx
        have d1 : decide (x > 0) = true := decide_eq_true hx
        go_wp2_with fail
        go_region_held3 (fun w' => True) (trivial) ((go_at_call 26; (with_reducible refine ((unhide HC) _).mono ?_); rintro e w5 ⟨rfl, hbw5⟩; obtain ⟨hcw5, hfw5⟩ := bcell hbw5; have hzw5 := hbw5.size; (try simp at hzw5)))
        all_goals
          go_wp2_with fail
          have hb := unhide HB
          go_ret
          exact ⟨rfl, (by repeat (first | with_reducible exact Below.refl _ _ | with_reducible assumption | (with_reducible refine Below.trans ?_ (Below.mono (by assumption) (by first | omega | (simp <;> omega)))) | with_reducible apply Below.drew | with_reducible apply below_drewN | (with_reducible refine Below.alloc ?_ (by first | omega | (simp <;> omega)) _) | (with_reducible refine Below.setCell ?_ (by first | omega | (simp <;> omega)) _)))⟩
      · have d1 : decide (x > 0) = false := decide_eq_false hx
        have HG1 := hide ((unhide HGO) (by omega))
        go_wp2_with fail
        go_upto_region 4 with fail
        go_cut [20] (fun s20 wx => s20 = .bool false ∧ Below wr.heap.size wr wx)
        case first =>
          go_region_held3 (fun w' => True) (trivial) ((go_at_call 26; (with_reducible refine ((unhide HC) _).mono ?_); rintro e w5 ⟨rfl, hbw5⟩; obtain ⟨hcw5, hfw5⟩ := bcell hbw5; have hzw5 := hbw5.size; (try simp at hzw5)))
          all_goals
            go_wp2_with fail
            go_meet
            exact ⟨rfl, (by repeat (first | with_reducible exact Below.refl _ _ | with_reducible assumption | (with_reducible refine Below.trans ?_ (Below.mono (by assumption) (by first | omega | (simp <;> omega)))) | with_reducible apply Below.drew | with_reducible apply below_drewN | (with_reducible refine Below.alloc ?_ (by first | omega | (simp <;> omega)) _) | (with_reducible refine Below.setCell ?_ (by first | omega | (simp <;> omega)) _)))⟩
        case rest =>
          obtain ⟨rfl, hbx⟩ := hcut
          have hb := (unhide HB).trans (hbx.mono hzr)
          clear hbx
          go_wp2_with fail
          go_roundw
          case rel => exact ⟨k + 1, by go_num, by omega, by omega, HG1, hb⟩
          case measure => (simp [intOf] <;> omega)
    · obtain rfl : k = s.size := by omega
      have hy := mx_yes (l := s.data.toList) (fun i hi => (unhide hpre) i (by rw [← HLL.out]; exact hi))
      obtain rfl : z = true := HZ.out.trans hy
      clear hy hpre
      go_wp2_with fail
      go_ret
      exact ⟨rfl, unhide HB⟩

def mxZ (s : ByteArray) : Bool := gdB sLCR s && mxB s.data.toList
set_option maxRecDepth 100000 in
theorem sIsMaximalWord_any (s : ByteArray) (w : World) (hs : s.size ≤ 1048576) :
    Calls Tryd.prog 13 #[.string s] w fun e w' => e = .returned (.tuple #[.bool (mxZ s), .bool (gdB sLCR s)]) ∧ Below w.heap.size w w' := by
  have hg := fun W => knGood_any sLCR s W (by decide) hs
  rcases h1 : gdB sLCR s with _ | _
  · rw [show mxZ s = false by unfold mxZ; rw [h1]; rfl]
    rw [h1] at hg
    have HG := hide hg
    clear hg h1
    go_enter Tryd.func13, Tryd.ntmps13
    go_wp2_with (go_at_call 24; (with_reducible refine ((unhide HG) _).mono ?_); rintro e w1 ⟨rfl, hbw1⟩; obtain ⟨hcw1, hfw1⟩ := bcell hbw1; have hzw1 := hbw1.size; (try simp at hzw1))
    go_ret2
    exact ⟨rfl, (by repeat (first | with_reducible exact Below.refl _ _ | with_reducible assumption | (with_reducible refine Below.trans ?_ (Below.mono (by assumption) (by first | omega | (simp <;> omega)))) | with_reducible apply Below.drew | with_reducible apply below_drewN | (with_reducible refine Below.alloc ?_ (by first | omega | (simp <;> omega)) _) | (with_reducible refine Below.setCell ?_ (by first | omega | (simp <;> omega)) _)))⟩
  · rw [show mxZ s = mxB s.data.toList by unfold mxZ; rw [h1]; rfl]
    have hm := fun W => knMaximal_any s W h1
    rw [h1] at hg
    have HG := hide hg; have HM := hide hm
    clear hg h1 hm
    generalize mxB s.data.toList = z at *
    go_enter Tryd.func13, Tryd.ntmps13
    go_wp2_with (first
      | (go_at_call 24; (with_reducible refine ((unhide HG) _).mono ?_); rintro e w1 ⟨rfl, hbw1⟩; obtain ⟨hcw1, hfw1⟩ := bcell hbw1; have hzw1 := hbw1.size; (try simp at hzw1))
      | (go_at_call 30; (with_reducible refine ((unhide HM) _).mono ?_); rintro e w2 ⟨rfl, hbw2⟩; obtain ⟨hcw2, hfw2⟩ := bcell hbw2; have hzw2 := hbw2.size; (try simp at hzw2)))
    go_ret2
    exact ⟨rfl, (by repeat (first | with_reducible exact Below.refl _ _ | with_reducible assumption | (with_reducible refine Below.trans ?_ (Below.mono (by assumption) (by first | omega | (simp <;> omega)))) | with_reducible apply Below.drew | with_reducible apply below_drewN | (with_reducible refine Below.alloc ?_ (by first | omega | (simp <;> omega)) _) | (with_reducible refine Below.setCell ?_ (by first | omega | (simp <;> omega)) _)))⟩

theorem iterPos_of {w : World} {I : Nat} {s : ByteArray} {pos : Nat} (h : w.heap[I]? = some (.stringIter s pos)) : w.iterPos I = pos := by
  simp [World.iterPos, h]

set_option maxRecDepth 100000 in
set_option maxHeartbeats 1600000 in
theorem iIsMaximalWord_any (s : ByteArray) (w : World) (hs : s.size ≤ 1048576) :
    Calls Tryd.prog 14 #[.string s] w fun e w' => e = .returned (.tuple #[.bool (mxZ s), .bool (gdB sLCR s)]) ∧ Below w.heap.size w w' := by
  have hg := fun W => iIsKneadingWord_any s W hs
  rcases h : gdB sLCR s with _ | _
  · rw [show mxZ s = false by unfold mxZ; rw [h]; rfl]
    rw [h] at hg
    have HG := hide hg
    clear hg h
    go_enter Tryd.func14, Tryd.ntmps14
    go_wp2_with (go_at_call 10; (with_reducible refine ((unhide HG) _).mono ?_); rintro e w1 ⟨rfl, hbw1⟩; obtain ⟨hcw1, hfw1⟩ := bcell hbw1; have hzw1 := hbw1.size; (try simp at hzw1))
    go_ret2
    exact ⟨rfl, (by repeat (first | with_reducible exact Below.refl _ _ | with_reducible assumption | (with_reducible refine Below.trans ?_ (Below.mono (by assumption) (by first | omega | (simp <;> omega)))) | with_reducible apply Below.drew | with_reducible apply below_drewN | (with_reducible refine Below.alloc ?_ (by first | omega | (simp <;> omega)) _) | (with_reducible refine Below.setCell ?_ (by first | omega | (simp <;> omega)) _)))⟩
  · rw [show mxZ s = mxB s.data.toList by unfold mxZ; rw [h]; rfl]
    have h30 := gd_size' h
    obtain ⟨z, hz⟩ : ∃ z, z = mxB s.data.toList := ⟨_, rfl⟩
    rw [← hz]
    have hcp : ∀ (i m : Nat) (hm : s.size = i + m) (h1 : 1 ≤ m) (W : World), Calls Tryd.prog 12 #[.string (s.extract i s.size), .string (s.extract 0 m)] W fun e w' => e = .returned (.tuple #[.int .i64 (mxK s.data.toList i), .bool true]) ∧ Below W.heap.size W w' := fun i m hm h1 W => by
      obtain ⟨c1, c2⟩ := sub_cmp h hm h1
      obtain ⟨_, a2, _⟩ := sub_from h hm h1
      obtain ⟨_, b2, _⟩ := sub_to h hm h1
      have := iCompareKneading_any (s.extract i s.size) (s.extract 0 m) W (by omega) (by omega)
      rw [c1, c2] at this
      exact this
    have hasc : ∀ k (hk : k < s.size), (s[k]'hk).toNat < 128 := fun k hk => by
      have h1 := gd_at h hk
      rw [getD_at s hk] at h1
      rcases h1 with e | e | e <;> rw [e] <;> decide
    rw [h] at hg
    have hll := sz_list s
    have HG := hide hg; have HCP := hide hcp; have HZ := Lib.hid hz; have HLL := Lib.hid hll; have HASC := hide hasc
    clear hcp hz h hll hg hasc
    go_enter Tryd.func14, Tryd.ntmps14
    go_wp2_with (go_at_call 10; (with_reducible refine ((unhide HG) _).mono ?_); rintro e w1 ⟨rfl, hbw1⟩; obtain ⟨hcw1, hfw1⟩ := bcell hbw1; have hzw1 := hbw1.size; (try simp at hzw1))
    have hih := World.iter_heap w1 s 0
    have hbi : Below w1.heap.size w1 (w1.iter s 0) := (Below.refl _ _).alloc (Nat.le_refl _) _
    generalize hw2 : w1.iter s 0 = w2 at *
    have HIH := hide hih; have HBI := hide hbi; have HB1 := hide hbw1
    have hsz1 := hbw1.size
    clear hih hbi hbw1 hcw1 hfw1 hw2
    obtain ⟨I, hI⟩ : ∃ I, I = w1.heap.size := ⟨_, rfl⟩
    rw [← hI] at HIH hsz1 ⊢
    have HI := Lib.hid hI
    clear hI
    have hB0 : Below I w1 w2 := by have := unhide HBI; rwa [← HI.out] at this
    have HB0 := hide hB0
    clear hB0 HBI
    go_loopw [4] (fun v wr => ∃ pos : Nat, v = v ∧ pos ≤ s.size ∧ Hid (wr.heap[I]? = some (.stringIter s pos)) ∧ Hid (∀ j, j < pos → mxK s.data.toList j ≤ 0) ∧ Hid (Below I w1 wr)) (fun _ wr => s.size - wr.iterPos I)
    case atStart => exact ⟨0, rfl, Nat.zero_le _, HIH, hide (fun j h => by omega), HB0⟩
    case round =>
      obtain ⟨pos, -, hps, HIT, hpre, HB⟩ := hrel
      clear HIH HB0
      have hit := unhide HIT
      have hpos : wr.iterPos I = pos := iterPos_of hit
      have hIl : I < wr.heap.size := (Array.getElem?_eq_some_iff.1 hit).1
      by_cases hlt : pos < s.size
      · have hnx : ∀ ty, (Instr.next (.pointer (some ⟨I, 0, none⟩)) true ty).run Tryd.prog wr = .ok (.tuple #[.bool true, .int .i64 pos, .int .i32 (s[pos]'hlt).toNat]) (wr.iterAt I s (pos + 1)) := fun ty => Lib.run_next_ascii_at (P := Tryd.prog) wr I s pos ty hit hlt ((unhide HASC) pos hlt)
        have hit2 := Lib.iterAt_heap wr I s pos (pos + 1) hit
        have hb2 := Lib.below_iterAt (unhide HB) (Nat.le_refl I) s (pos + 1)
        have hsz2 := Lib.iterAt_size wr I s (pos + 1)
        obtain ⟨wi, hwi⟩ : ∃ x, x = wr.iterAt I s (pos + 1) := ⟨_, rfl⟩
        rw [← hwi] at hnx hit2 hb2 hsz2
        have HIT2 := hide hit2; have HB2 := hide hb2
        have hIl2 : I < wi.heap.size := by omega
        obtain ⟨m, hm⟩ : ∃ m, s.size = pos + m := ⟨s.size - pos, by omega⟩
        have hcp := (unhide HCP) pos m hm (by omega)
        have hbad : 0 < mxK s.data.toList pos → z = false := fun h => HZ.out.trans (mx_no (by rw [HLL.out]; exact hlt) h)
        have hgo : mxK s.data.toList pos ≤ 0 → ∀ j, j < pos + 1 → mxK s.data.toList j ≤ 0 := fun h j hj => by
          rcases Nat.lt_or_ge j pos with h1 | h1
          · exact (unhide hpre) j h1
          · obtain rfl : j = pos := by omega
            exact h
        have v1 : IntKind.i64.wrap ((s.size : Int) - (pos : Int)) = (m : Int) := by rw [show (s.size : Int) - (pos : Int) = m by omega]; exact IntWalk.i64_in _ (by omega)
        have v2 : (pos : Int) ≤ (s.size : Int) := by omega
        have v3 : (m : Int) ≤ (s.size : Int) := by omega
        have HC := hide hcp; have HBAD := hide hbad; have HGO := hide hgo; have HSZ2 := Lib.hid hsz2
        clear hcp hbad hgo hpre hm hit2 hb2 hwi hsz2 HIT HB hit
        generalize mxK s.data.toList pos = x at *
        generalize ((s[pos]'hlt).toNat : Int) = rune at *
        by_cases hx : 0 < x
        · obtain rfl := (unhide HBAD) hx
          have d1 : decide (x > 0) = true := decide_eq_true hx
          go_wp2_with fail
          go_upto_region 6 with fail
          go_cut [5] (fun s5 wx => s5 = .int .i64 x ∧ Below wi.heap.size wi wx)
          case first =>
            go_region_held3 (fun w' => True) (trivial) ((go_at_call 12; (with_reducible refine ((unhide HC) _).mono ?_); rintro e w5 ⟨rfl, hbw5⟩; obtain ⟨hcw5, hfw5⟩ := bcell hbw5; have hzw5 := hbw5.size; (try simp at hzw5)))
            all_goals
              go_wp2_with fail
              go_meet
              exact ⟨rfl, (by repeat (first | with_reducible exact Below.refl _ _ | with_reducible assumption | (with_reducible refine Below.trans ?_ (Below.mono (by assumption) (by first | omega | (simp <;> omega)))) | with_reducible apply Below.drew | with_reducible apply below_drewN | (with_reducible refine Below.alloc ?_ (by first | omega | (simp <;> omega)) _) | (with_reducible refine Below.setCell ?_ (by first | omega | (simp <;> omega)) _)))⟩
          case rest =>
            obtain ⟨rfl, hbx⟩ := hcut
            go_wp2_with fail
            go_ret2
            exact ⟨rfl, (unhide HB1).trans (((unhide HB2).trans (hbx.mono (by omega))).mono hsz1)⟩
        · have d1 : decide (x > 0) = false := decide_eq_false hx
          have HG1 := hide ((unhide HGO) (by omega))
          go_wp2_with fail
          go_upto_region 6 with fail
          go_cut [5] (fun s5 wx => s5 = .int .i64 x ∧ Below wi.heap.size wi wx)
          case first =>
            go_region_held3 (fun w' => True) (trivial) ((go_at_call 12; (with_reducible refine ((unhide HC) _).mono ?_); rintro e w5 ⟨rfl, hbw5⟩; obtain ⟨hcw5, hfw5⟩ := bcell hbw5; have hzw5 := hbw5.size; (try simp at hzw5)))
            all_goals
              go_wp2_with fail
              go_meet
              exact ⟨rfl, (by repeat (first | with_reducible exact Below.refl _ _ | with_reducible assumption | (with_reducible refine Below.trans ?_ (Below.mono (by assumption) (by first | omega | (simp <;> omega)))) | with_reducible apply Below.drew | with_reducible apply below_drewN | (with_reducible refine Below.alloc ?_ (by first | omega | (simp <;> omega)) _) | (with_reducible refine Below.setCell ?_ (by first | omega | (simp <;> omega)) _)))⟩
          case rest =>
            obtain ⟨rfl, hbx⟩ := hcut
            have hit5 := (hbx.block I hIl2).trans (unhide HIT2)
            have hp5 := iterPos_of hit5
            have HIT5 := hide hit5
            have HB5 := hide ((unhide HB2).trans (hbx.mono (by omega)))
            clear hbx hit5
            go_wp2_with fail
            go_roundw
            case rel => exact ⟨pos + 1, by trivial, by omega, HIT5, HG1, HB5⟩
            case measure => (rw [hp5, hpos]; omega)
      · obtain rfl : pos = s.size := by omega
        have hnx : ∀ ty, (Instr.next (.pointer (some ⟨I, 0, none⟩)) true ty).run Tryd.prog wr = .ok (.tuple #[.bool false]) wr := fun ty => Lib.run_next_end_at (P := Tryd.prog) wr I s s.size ty hit hlt
        have hy := mx_yes (l := s.data.toList) (fun i hi => (unhide hpre) i (by rw [← HLL.out]; exact hi))
        obtain rfl : z = true := HZ.out.trans hy
        clear hy hpre hit HIT
        go_wp2_with fail
        go_ret2
        exact ⟨rfl, (unhide HB1).trans ((unhide HB).mono hsz1)⟩
end Go.Proofs.YtldmgjeecomddaaDoor

/-
  Chapter 7: SwapLast of both.
-/
import Derived.Test.YtldmgjeecomddaaDoorTg
namespace Go.Proofs.YtldmgjeecomddaaDoor
open Go.RowKit Rm

/-- L and R exchanged. -/
def swB (c : UInt8) : UInt8 := if c = 76 then 82 else if c = 82 then 76 else c
theorem gd_size {t s : ByteArray} (h : gdB t s = true) : 1 ≤ s.size ∧ s.size ≤ 30 := by
  unfold gdB at h
  rw [Bool.and_eq_true] at h
  exact of_decide_eq_true h.2
theorem gd_all {t s : ByteArray} (h : gdB t s = true) : inB t s = true := by
  unfold gdB at h
  rw [Bool.and_eq_true] at h
  exact h.1
theorem mem_lcr {c : UInt8} (h : sLCR.data.toList.contains c = true) : c = 76 ∨ c = 67 ∨ c = 82 := by
  have h1 : c ∈ [76, 67, 82] := by simpa using h
  simpa using h1
theorem gd_split {s : ByteArray} (h : gdB sLCR s = true) : ∃ (init : List UInt8) (c : UInt8), s.data.toList = init ++ [c] ∧ s.size = init.length + 1 ∧ init.length + 1 ≤ 30 ∧ (c = 76 ∨ c = 67 ∨ c = 82) := by
  have hz := gd_size h
  have hi := gd_all h
  have hl := sz_list s
  obtain ⟨init, c, hs⟩ : ∃ init c, s.data.toList = init ++ [c] := by
    rcases List.eq_nil_or_concat s.data.toList with h1 | ⟨init, c, h1⟩
    · rw [h1] at hl; simp at hl; omega
    · exact ⟨init, c, by rw [h1]; simp⟩
  have hn : s.size = init.length + 1 := by rw [← hl, hs]; simp
  refine ⟨init, c, hs, hn, by omega, mem_lcr ?_⟩
  unfold inB at hi
  exact List.all_eq_true.1 hi c (by rw [hs]; simp)
def slZ (s : ByteArray) : Bool := gdB sLCR s && !(s.data.toList.getLastD 0 == 67)
def slT (s : ByteArray) : List UInt8 := match slZ s with | true => s.data.toList.dropLast ++ [swB (s.data.toList.getLastD 0)] | false => []
theorem sl_no {s : ByteArray} (h : slZ s = false) : slT s = [] := by unfold slT; rw [h]
theorem sl_bad {s : ByteArray} (h : gdB sLCR s = false) : slZ s = false := by unfold slZ; rw [h]; rfl
theorem sl_split {s : ByteArray} {init : List UInt8} {c : UInt8} (h : gdB sLCR s = true) (hs : s.data.toList = init ++ [c]) :
    (c = 67 → slZ s = false) ∧ (c ≠ 67 → slZ s = true ∧ slT s = init ++ [swB c]) := by
  have hl : s.data.toList.getLastD 0 = c := by rw [hs]; simp
  have hd : s.data.toList.dropLast = init := by rw [hs]; simp
  have hz : slZ s = !(c == 67) := by unfold slZ; rw [h, hl]; rfl
  refine ⟨fun e => by rw [hz, e]; rfl, fun e => ?_⟩
  have h1 : slZ s = true := by rw [hz]; simpa using e
  exact ⟨h1, by unfold slT; rw [h1, hl, hd]⟩
theorem last_at {s : ByteArray} {init : List UInt8} {c : UInt8} (hs : s.data.toList = init ++ [c]) (hk : init.length < s.size) : s[init.length]'hk = c := by
  have h1 := at_list s hk
  rw [hs, List.getElem?_append_right (Nat.le_refl _), Nat.sub_self] at h1
  exact (Option.some.inj h1).symm
theorem suffix_last (init : List UInt8) (c d : UInt8) : Lib.hasSuffix (init ++ [c]) [d] = (c == d) := by
  unfold Lib.hasSuffix List.isSuffixOf
  rw [List.reverse_append]
  simp [List.isPrefixOf]
  exact Bool.beq_comm ..

set_option maxRecDepth 100000 in
theorem exchanged_any (c : UInt8) (w : World) : Calls Tryd.prog 39 #[.int .u8 (c.toNat : Int)] w fun e w' => e = .returned (.int .u8 ((swB c).toNat : Int)) ∧ w = w' := by
  by_cases h1 : c = 76
  · subst h1
    go_enter Tryd.func39, Tryd.ntmps39
    go_wp2_with fail
    go_ret
    exact ⟨rfl, rfl⟩
  · by_cases h2 : c = 82
    · subst h2
      go_enter Tryd.func39, Tryd.ntmps39
      go_wp2_with fail
      go_ret
      exact ⟨rfl, rfl⟩
    · have hb : swB c = c := by unfold swB; rw [if_neg h1, if_neg h2]
      rw [hb]
      have e1 : ¬ (c.toNat : Int) = 76 := fun h => h1 (UInt8.toNat_inj.1 (by have : (76 : UInt8).toNat = 76 := rfl; omega))
      have e2 : ¬ (c.toNat : Int) = 82 := fun h => h2 (UInt8.toNat_inj.1 (by have : (82 : UInt8).toNat = 82 := rfl; omega))
      have f1 : ((c.toNat : Int) == 76) = false := beq_eq_false_iff_ne.2 e1
      have f2 : ((c.toNat : Int) == 82) = false := beq_eq_false_iff_ne.2 e2
      clear hb h1 h2
      generalize (c.toNat : Int) = x at *
      go_enter Tryd.func39, Tryd.ntmps39
      go_wp2_with fail
      go_ret
      exact ⟨rfl, rfl⟩
set_option maxRecDepth 100000 in
theorem knSwap_any (c : UInt8) (w : World) : Calls Tryd.prog 37 #[.string ⟨#[c]⟩] w fun e w' => e = .returned (.string ⟨#[swB c]⟩) ∧ w = w' := by
  by_cases h1 : c = 76
  · subst h1
    go_enter Tryd.func37, Tryd.ntmps37
    go_wp2_with fail
    go_ret
    exact ⟨rfl, rfl⟩
  · by_cases h2 : c = 82
    · subst h2
      go_enter Tryd.func37, Tryd.ntmps37
      go_wp2_with fail
      go_ret
      exact ⟨rfl, rfl⟩
    · have hb : swB c = c := by unfold swB; rw [if_neg h1, if_neg h2]
      rw [hb]
      obtain ⟨t, ht⟩ : ∃ t : ByteArray, t = ⟨#[c]⟩ := ⟨_, rfl⟩
      have hl : t.toList = [c] := by rw [ht, Lib.toList_data]
      have f1 : (t.toList == [76]) = false := by rw [hl]; simpa using h1
      have f2 : (t.toList == [82]) = false := by rw [hl]; simpa using h2
      rw [← ht]
      clear hb h1 h2 ht hl
      go_enter Tryd.func37, Tryd.ntmps37
      go_wp2_with fail
      go_ret
      exact ⟨rfl, rfl⟩

set_option maxRecDepth 100000 in
set_option maxHeartbeats 800000 in
theorem sSwapLast_any (s : ByteArray) (w : World) (hs : s.size ≤ 1048576) :
    Calls Tryd.prog 22 #[.string s] w fun e w' => e = .returned (.tuple #[.string ⟨(slT s).toArray⟩, .bool (slZ s)]) ∧ Below w.heap.size w w' := by
  have hg := fun W => knGood_any sLCR s W (by decide) hs
  have HG := hide hg
  clear hg
  cases hz : gdB sLCR s with
  | false =>
    rw [sl_no (sl_bad hz), sl_bad hz]
    rw [hz] at HG
    clear hz
    go_enter Tryd.func22, Tryd.ntmps22
    go_wp2_with (go_at_call 24; (with_reducible refine ((unhide HG) _).mono ?_); rintro e w1 ⟨rfl, hbw1⟩; obtain ⟨hcw1, hfw1⟩ := bcell hbw1; have hzw1 := hbw1.size; (try simp at hzw1))
    go_ret2
    exact ⟨rfl, (by repeat (first | with_reducible exact Below.refl _ _ | with_reducible assumption | (with_reducible refine Below.trans ?_ (Below.mono (by assumption) (by first | omega | (simp <;> omega)))) | with_reducible apply Below.drew | with_reducible apply below_drewN | (with_reducible refine Below.alloc ?_ (by first | omega | (simp <;> omega)) _) | (with_reducible refine Below.setCell ?_ (by first | omega | (simp <;> omega)) _)))⟩
  | true =>
    obtain ⟨init, c, hs, hn, h30, hc⟩ := gd_split hz
    obtain ⟨hs1, hs2⟩ := sl_split hz hs
    have hk : init.length < s.size := by omega
    have hat := last_at hs hk
    have e0 : s.extract 0 init.length = ⟨init.toArray⟩ := by rw [Lib.extract_upto, hs]; simp
    have e1 : s.extract init.length (init.length + 1) = ⟨#[c]⟩ := by rw [← hn, Lib.extract_from, hs]; simp
    have e2 : s.extract init.length s.size = ⟨#[c]⟩ := by rw [Lib.extract_from, hs]; simp
    rw [hz] at HG
    have w1 : IntKind.i64.wrap ((s.size : Int) - 1) = (init.length : Int) := by rw [show (s.size : Int) - 1 = init.length by omega]; exact IntWalk.i64_in _ (by omega)
    have w2 : (init.length : Int) < (s.size : Int) := by omega
    have w3 : (0 : Int) ≤ (init.length : Int) := by omega
    have w4 : (init.length : Int) ≤ (s.size : Int) := by omega
    by_cases h67 : c = 67
    · rw [sl_no (hs1 h67), hs1 h67]
      rw [h67] at hat
      clear hs1 hs2 hc hs e0 e1 e2 hz hn
      go_enter Tryd.func22, Tryd.ntmps22
      go_wp2_with (go_at_call 24; (with_reducible refine ((unhide HG) _).mono ?_); rintro e w1 ⟨rfl, hbw1⟩; obtain ⟨hcw1, hfw1⟩ := bcell hbw1; have hzw1 := hbw1.size; (try simp at hzw1))
      go_ret2
      exact ⟨rfl, (by repeat (first | with_reducible exact Below.refl _ _ | with_reducible assumption | (with_reducible refine Below.trans ?_ (Below.mono (by assumption) (by first | omega | (simp <;> omega)))) | with_reducible apply Below.drew | with_reducible apply below_drewN | (with_reducible refine Below.alloc ?_ (by first | omega | (simp <;> omega)) _) | (with_reducible refine Below.setCell ?_ (by first | omega | (simp <;> omega)) _)))⟩
    · obtain ⟨r1, r2⟩ := hs2 h67
      rw [r1, r2]
      have f1 : ¬ (((s[init.length]'hk).toNat : Int) = 67) := by rw [hat]; exact fun h => h67 (UInt8.toNat_inj.1 (by have : (67 : UInt8).toNat = 67 := rfl; omega))
      have f2 : ((((s[init.length]'hk).toNat : Int)) == 67) = false := beq_eq_false_iff_ne.2 f1
      have hadd : ∀ W : World, (Op.stringOp .add ⟨init.toArray⟩ ⟨#[swB c]⟩).run Tryd.prog W = .ok (.string ⟨(init ++ [swB c]).toArray⟩) W := fun W => run_string_add_lists W init [swB c] (by omega) (by simp)
      clear hs1 hs2 hc hs hz hn r1 r2 hat
      go_enter Tryd.func22, Tryd.ntmps22
      go_wp2_with (go_at_call 24; (with_reducible refine ((unhide HG) _).mono ?_); rintro e w1 ⟨rfl, hbw1⟩; obtain ⟨hcw1, hfw1⟩ := bcell hbw1; have hzw1 := hbw1.size; (try simp at hzw1))
      go_region_held3 (fun w' => True) (trivial) ((go_at_call 37; (with_reducible refine (knSwap_any c _).mono ?_); rintro e w' ⟨rfl, rfl⟩))
      all_goals
        go_wp2_with fail
        go_ret2
        exact ⟨rfl, (by repeat (first | with_reducible exact Below.refl _ _ | with_reducible assumption | (with_reducible refine Below.trans ?_ (Below.mono (by assumption) (by first | omega | (simp <;> omega)))) | with_reducible apply Below.drew | with_reducible apply below_drewN | (with_reducible refine Below.alloc ?_ (by first | omega | (simp <;> omega)) _) | (with_reducible refine Below.setCell ?_ (by first | omega | (simp <;> omega)) _)))⟩

theorem swB_small {c : UInt8} (h : c = 76 ∨ c = 67 ∨ c = 82) : swB c = 76 ∨ swB c = 67 ∨ swB c = 82 := by
  rcases h with rfl | rfl | rfl
  · exact .inr (.inr rfl)
  · exact .inr (.inl rfl)
  · exact .inl rfl
theorem conv_small {c : UInt8} (h : c = 76 ∨ c = 67 ∨ c = 82) (W : World) : (convert 5 9 (.int .u8 (c.toNat : Int))).run Tryd.prog W = .ok (.string ⟨#[c]⟩) W := by
  rw [run_convert_int_string W _ _ _ _ (by rw [Tryd.underlying5]; rfl) Tryd.underlying9]
  have e : Utf8.encode ((c.toNat : Nat) : Int) = ⟨#[c]⟩ := by
    rcases h with rfl | rfl | rfl
    · kernel_rfl
    · kernel_rfl
    · kernel_rfl
  rw [e]

set_option maxRecDepth 100000 in
set_option maxHeartbeats 800000 in
theorem iSwapLast_any (s : ByteArray) (w : World) (hs : s.size ≤ 1048576) :
    Calls Tryd.prog 23 #[.string s] w fun e w' => e = .returned (.tuple #[.string ⟨(slT s).toArray⟩, .bool (slZ s)]) ∧ Below w.heap.size w w' := by
  have hg := fun W => iIsKneadingWord_any s W hs
  have HG := hide hg
  clear hg
  cases hz : gdB sLCR s with
  | false =>
    rw [sl_no (sl_bad hz), sl_bad hz]
    rw [hz] at HG
    clear hz
    go_enter Tryd.func23, Tryd.ntmps23
    go_wp2_with (go_at_call 10; (with_reducible refine ((unhide HG) _).mono ?_); rintro e w1 ⟨rfl, hbw1⟩; obtain ⟨hcw1, hfw1⟩ := bcell hbw1; have hzw1 := hbw1.size; (try simp at hzw1))
    go_ret2
    exact ⟨rfl, (by repeat (first | with_reducible exact Below.refl _ _ | with_reducible assumption | (with_reducible refine Below.trans ?_ (Below.mono (by assumption) (by first | omega | (simp <;> omega)))) | with_reducible apply Below.drew | with_reducible apply below_drewN | (with_reducible refine Below.alloc ?_ (by first | omega | (simp <;> omega)) _) | (with_reducible refine Below.setCell ?_ (by first | omega | (simp <;> omega)) _)))⟩
  | true =>
    obtain ⟨init, c, hs', hn, h30, hc⟩ := gd_split hz
    obtain ⟨hs1, hs2⟩ := sl_split hz hs'
    have hk : init.length < s.size := by omega
    have hat := last_at hs' hk
    have hsf := fun W => Tryd.strings_HasSuffix s ⟨#[67]⟩ W (by omega)
    have hsf' : ∀ W, Calls Tryd.prog 43 #[.string s, .string ⟨#[67]⟩] W fun e w' => e = .returned (.bool (c == 67)) ∧ w' = W := fun W => by
      have h1 := hsf W
      rw [hs', show (⟨#[67]⟩ : ByteArray).data.toList = [67] from rfl, suffix_last] at h1
      exact h1
    clear hsf
    have HSF := hide hsf'
    clear hsf'
    have e0 : s.extract 0 init.length = ⟨init.toArray⟩ := by rw [Lib.extract_upto, hs']; simp
    rw [hz] at HG
    have w1 : IntKind.i64.wrap ((s.size : Int) - 1) = (init.length : Int) := by rw [show (s.size : Int) - 1 = init.length by omega]; exact IntWalk.i64_in _ (by omega)
    have w2 : (init.length : Int) < (s.size : Int) := by omega
    have w3 : (0 : Int) ≤ (init.length : Int) := by omega
    have w4 : (init.length : Int) ≤ (s.size : Int) := by omega
    by_cases h67 : c = 67
    · rw [sl_no (hs1 h67), hs1 h67]
      rw [h67] at HSF
      clear hs1 hs2 hc hs' e0 hz hn hat
      go_enter Tryd.func23, Tryd.ntmps23
      go_wp2_with (first
        | (go_at_call 10; (with_reducible refine ((unhide HG) _).mono ?_); rintro e w1 ⟨rfl, hbw1⟩; obtain ⟨hcw1, hfw1⟩ := bcell hbw1; have hzw1 := hbw1.size; (try simp at hzw1))
        | (go_at_call 43; (with_reducible refine ((unhide HSF) _).mono ?_); rintro e w2 ⟨rfl, rfl⟩))
      go_ret2
      exact ⟨rfl, (by repeat (first | with_reducible exact Below.refl _ _ | with_reducible assumption | (with_reducible refine Below.trans ?_ (Below.mono (by assumption) (by first | omega | (simp <;> omega)))) | with_reducible apply Below.drew | with_reducible apply below_drewN | (with_reducible refine Below.alloc ?_ (by first | omega | (simp <;> omega)) _) | (with_reducible refine Below.setCell ?_ (by first | omega | (simp <;> omega)) _)))⟩
    · obtain ⟨r1, r2⟩ := hs2 h67
      rw [r1, r2]
      rw [beq_eq_false_iff_ne.2 h67] at HSF
      have hadd : ∀ W : World, (Op.stringOp .add ⟨init.toArray⟩ ⟨#[swB c]⟩).run Tryd.prog W = .ok (.string ⟨(init ++ [swB c]).toArray⟩) W := fun W => run_string_add_lists W init [swB c] (by omega) (by simp)
      have hcv := fun W => conv_small (swB_small hc) W
      have hex := fun W => exchanged_any c W
      have HEX := hide hex
      clear hs1 hs2 hc hs' hz hn r1 r2 hex
      generalize swB c = d at *
      go_enter Tryd.func23, Tryd.ntmps23
      go_wp2_with (first
        | (go_at_call 10; (with_reducible refine ((unhide HG) _).mono ?_); rintro e w1 ⟨rfl, hbw1⟩; obtain ⟨hcw1, hfw1⟩ := bcell hbw1; have hzw1 := hbw1.size; (try simp at hzw1))
        | (go_at_call 43; (with_reducible refine ((unhide HSF) _).mono ?_); rintro e w2 ⟨rfl, rfl⟩))
      go_region_held3 (fun w' => True) (trivial) ((go_at_call 39; (with_reducible refine ((unhide HEX) _).mono ?_); rintro e w' ⟨rfl, rfl⟩))
      all_goals
        go_wp2_with fail
        go_ret2
        exact ⟨rfl, (by repeat (first | with_reducible exact Below.refl _ _ | with_reducible assumption | (with_reducible refine Below.trans ?_ (Below.mono (by assumption) (by first | omega | (simp <;> omega)))) | with_reducible apply Below.drew | with_reducible apply below_drewN | (with_reducible refine Below.alloc ?_ (by first | omega | (simp <;> omega)) _) | (with_reducible refine Below.setCell ?_ (by first | omega | (simp <;> omega)) _)))⟩
end Go.Proofs.YtldmgjeecomddaaDoor

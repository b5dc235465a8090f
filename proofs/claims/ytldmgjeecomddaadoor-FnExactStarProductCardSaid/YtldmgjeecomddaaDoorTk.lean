/-
  Chapter 7: CompareKneading of the program.
-/
import Derived.Test.YtldmgjeecomddaaDoorTj
import Derived.Deep.QuietTactic
import Derived.Deep.DeepCutAuto
import Derived.RegionTactic
namespace Go.Proofs.YtldmgjeecomddaaDoor
open Go.RowKit Rm

theorem mapM_some {α β : Type} {f : α → Option β} {g : α → β} : ∀ {l : List α}, (∀ x ∈ l, f x = some (g x)) → l.mapM f = some (l.map g)
  | [], _ => rfl
  | x :: l, h => by
    rw [List.mapM_cons, h x (by simp), mapM_some fun y hy => h y (by simp [hy])]
    rfl
theorem flat_one {α β : Type} (g : α → β) : ∀ l : List α, (l.map fun x => [g x]).flatten = l.map g
  | [] => rfl
  | x :: l => by simp [flat_one g l]
theorem lrL_part (l : List UInt8) {i : Nat} (h : i < 30) : ((lrL l).drop (i * 1)).take 1 = [Value.int .i64 (lrF l i)] := by
  have hl : i < (lrL l).length := by simp [lrL, h]
  rw [Nat.mul_one, List.drop_eq_getElem_cons hl]
  simp [lrL]
theorem lr_lits (l : List UInt8) : Tryd.prog.keyLits 2 40 (lrA l).toList = some ((List.range 30).map fun i => Lit.int .i64 (lrF l i)) := by
  have hu : Tryd.prog.underlying 40 = some (.array 30 3) := Tryd.underlying40
  have hc : Tryd.prog.cellsOf 40 = 30 := by kernel_rfl
  have hc1 : Tryd.prog.cellsOf 3 = 1 := by kernel_rfl
  have hone : ∀ i ∈ List.range 30, Tryd.prog.keyLits 1 3 ((((lrA l).toList).drop (i * 1)).take 1) = some [Lit.int .i64 (lrF l i)] := fun i hi => by
    have hi' := List.mem_range.1 hi
    rw [show (lrA l).toList = lrL l by simp [lrA], lrL_part l hi']
    have := lrF_bd l i
    have hw : (Lit.int .i64 (lrF l i)).wf = true := WalkArith.wf_i64 (by omega)
    have hui : Tryd.prog.underlying 3 = some (.int .i64) := Tryd.underlying3
    unfold Program.keyLits
    rw [hui]
    simp only
    rw [if_pos ⟨trivial, hw⟩]
  unfold Program.keyLits
  rw [hu]
  simp only
  rw [if_pos (by rw [hc]; simp [lrA, lrL]), hc1, mapM_some hone]
  show some _ = _
  rw [flat_one]
theorem equal_lr (a b : List UInt8) (W : World) :
    ∃ z : Bool, (Op.equalIn 10000 40 (.agg (lrA a)) (.agg (lrA b))).run Tryd.prog W = .ok z W ∧ (z = true ↔ ∀ k, k < 30 → lrF a k = lrF b k) := by
  have hf : ∀ r : List UInt8, (Value.agg (lrA r)).formed Tryd.prog 40 = true := fun r => by
    have hu : Tryd.prog.underlying 40 = some (.array 30 3) := Tryd.underlying40
    have hc : Tryd.prog.cellsOf 40 = 30 := by kernel_rfl
    unfold Value.formed
    rw [hu]
    simp only
    rw [hc, lrA_size]
    rfl
  obtain ⟨z, h1, h2⟩ := run_equalIn_deep (P := Tryd.prog) 9998 2 40 (by kernel_rfl) W 2 2 _ _ _ _ (hf a) (hf b) (lr_lits a) (lr_lits b)
  refine ⟨z, h1, h2.trans ⟨fun h k hk => ?_, fun h => ?_⟩⟩
  · have h3 := congrArg (fun l => l[k]?) h
    simp [hk] at h3
    exact h3
  · exact List.map_congr_left fun k hk => by rw [h k (List.mem_range.1 hk)]

set_option maxRecDepth 100000 in
theorem turnsRound_any (s : ByteArray) (w : World) :
    Calls Tryd.prog 29 #[.string s] w fun e w' => e = .returned (.bool (decide (s.data.toList.count 82 % 2 = 1))) ∧ w = w' := by
  have hc := fun W => Tryd.strings_Count_one s 82 W
  have hc' : ∀ W, Calls Tryd.prog 56 #[.string s, .string ⟨#[82]⟩] W fun e w' => e = .returned (.int .i64 ((s.data.toList.count 82 : Nat) : Int)) ∧ w' = W := hc
  have HC := hide hc'
  clear hc hc'
  obtain ⟨n, hn⟩ : ∃ n, n = s.data.toList.count 82 := ⟨_, rfl⟩
  rw [← hn] at HC ⊢
  clear hn
  have q : (n : Int).tmod 2 = ((n % 2 : Nat) : Int) := by rw [Int.tmod_eq_emod_of_nonneg (by omega)]; omega
  rcases (by omega : n % 2 = 0 ∨ n % 2 = 1) with h | h
  all_goals
    rw [h] at q ⊢
    go_enter Tryd.func29, Tryd.ntmps29
    go_wp2_with (go_at_call 56; (with_reducible refine ((unhide HC) _).mono ?_); rintro e w2 ⟨rfl, rfl⟩)
    go_ret
    exact ⟨rfl, rfl⟩
theorem cmp_sign (x y : Int) : Lib.compareInt x y = (x - y).sign := by
  unfold Lib.compareInt
  rcases Int.lt_trichotomy x y with h | h | h
  · rw [if_pos h, Int.sign_eq_neg_one_of_neg (by omega)]
  · subst h; rw [if_neg (by omega), if_neg (by omega), Int.sub_self]; rfl
  · rw [if_neg (by omega), if_pos h, Int.sign_eq_one_of_pos (by omega)]
theorem lrF_at (s : ByteArray) {k : Nat} (h : k < s.size) : lrF s.data.toList k = rkB (s.data.toList.getD k 0) := by unfold lrF; rw [if_pos (by rw [sz_list]; exact h)]
theorem lrF_out (s : ByteArray) {k : Nat} (h : s.size ≤ k) : lrF s.data.toList k = 0 := by unfold lrF; rw [if_neg (by rw [sz_list]; omega)]
theorem gd_at {s : ByteArray} (h : gdB sLCR s = true) {k : Nat} (hk : k < s.size) : s.data.toList.getD k 0 = 76 ∨ s.data.toList.getD k 0 = 67 ∨ s.data.toList.getD k 0 = 82 := by
  unfold gdB at h
  rw [Bool.and_eq_true] at h
  have h1 := h.1
  unfold inB at h1
  have h2 := List.all_eq_true.1 h1 _ (List.mem_of_getElem? (at_list s hk))
  rw [getD_at s hk]
  have h3 : s[k] ∈ [76, 67, 82] := by simpa using h2
  simpa using h3
theorem rk_inj {x y : UInt8} (hx : x = 76 ∨ x = 67 ∨ x = 82) (hy : y = 76 ∨ y = 67 ∨ y = 82) (h : rkB x = rkB y) : x = y := by
  rcases hx with rfl | rfl | rfl <;> rcases hy with rfl | rfl | rfl <;> first | rfl | (exact absurd h (by decide))

set_option maxRecDepth 100000 in
set_option maxHeartbeats 3200000 in
theorem iCompare_good (s t : ByteArray) (w : World) (h1 : gdB sLCR s = true) (h2 : gdB sLCR t = true) (hst : s.size = t.size) :
    Calls Tryd.prog 12 #[.string s, .string t] w fun e w' => e = .returned (.tuple #[.int .i64 (ckF s.data.toList t.data.toList s.size 0), .bool true]) ∧ Below w.heap.size w w' := by
  have h30 := gd_size' h1
  have hgs := fun W => iIsKneadingWord_any s W (by omega)
  have hgt := fun W => iIsKneadingWord_any t W (by omega)
  rw [h1] at hgs
  rw [h2] at hgt
  have har := fun W => lettersOf_any s W h1
  have has := fun W => lettersOf_any t W h2
  have heq := fun W => equal_lr s.data.toList t.data.toList W
  have hs1 := lrA_size s.data.toList; have hs2 := lrA_size t.data.toList
  have ho1 := lrA_one s.data.toList; have ho2 := lrA_one t.data.toList
  have hinf1 : (Tryd.prog.info? 40).map (·.size) = some (lrA s.data.toList).size := by rw [hs1]; kernel_rfl
  have hinf2 : (Tryd.prog.info? 40).map (·.size) = some (lrA t.data.toList).size := by rw [hs2]; kernel_rfl
  have hat1 := fun k hk => lrA_at s.data.toList (k := k) hk
  have hat2 := fun k hk => lrA_at t.data.toList (k := k) hk
  have hg1 := fun (k : Nat) (hk : k < s.size) => gd_at h1 hk
  have hg2 := fun (k : Nat) (hk : k < s.size) => gd_at h2 (k := k) (by omega)
  have e1 : (s.size : Int) = (t.size : Int) := by omega
  have HGS := hide hgs; have HGT := hide hgt; have HAR := hide har; have HAS := hide has; have HEQ := hide heq; have HST := Lib.hid hst
  have HS1 := Lib.hid hs1; have HS2 := Lib.hid hs2; have HO1 := Lib.hid ho1; have HO2 := Lib.hid ho2; have HI1 := Lib.hid hinf1; have HI2 := Lib.hid hinf2; have HAT1 := hide hat1; have HAT2 := hide hat2; have HG1 := hide hg1; have HG2 := hide hg2
  clear hgs hgt har has heq hst hs1 hs2 ho1 ho2 hinf1 hinf2 hat1 hat2 hg1 hg2 h1 h2
  generalize lrA s.data.toList = AR at *
  generalize lrA t.data.toList = AS at *
  go_enter Tryd.func12, Tryd.ntmps12
  go_upto_region 3 with (first
    | (go_at_call 10; have _t := hbwx; clear _t; (with_reducible refine ((unhide HGT) _).mono ?_); rintro e wy ⟨rfl, hbwy⟩; obtain ⟨hcwy, hfwy⟩ := bcell hbwy; have hzwy := hbwy.size; (try simp at hzwy))
    | (go_at_call 10; (with_reducible refine ((unhide HGS) _).mono ?_); rintro e wx ⟨rfl, hbwx⟩; obtain ⟨hcwx, hfwx⟩ := bcell hbwx; have hzwx := hbwx.size; (try simp at hzwx)))
  have hbA : Below w.heap.size w wy := (by repeat (first | with_reducible exact Below.refl _ _ | with_reducible assumption | (with_reducible refine Below.trans ?_ (Below.mono (by assumption) (by first | omega | (simp <;> omega)))) | with_reducible apply Below.drew | with_reducible apply below_drewN | (with_reducible refine Below.alloc ?_ (by first | omega | (simp <;> omega)) _) | (with_reducible refine Below.setCell ?_ (by first | omega | (simp <;> omega)) _)))
  have HBA := hide hbA
  have hzA := hbA.size
  clear hbA hbwx hbwy hcwx hfwx hcwy hfwy
  go_upto_region 4 with (first
    | (go_at_call 27; (with_reducible refine ((unhide HAR) _).mono ?_); rintro e w2 ⟨rfl, hbw2⟩; have hz2 := hbw2.size)
    | (go_at_call 27; (with_reducible refine ((unhide HAS) _).mono ?_); rintro e w3 ⟨rfl, hbw3⟩; have hz3 := hbw3.size)
    | (refine wpList_store_row rfl 40 (.tmp 6) (.tmp 26) rfl w3.heap.size AR rfl rfl 40 _ (heap_alloc2_old w3 (.cells #[.int .i64 0, .int .i64 0, .int .i64 0, .int .i64 0, .int .i64 0, .int .i64 0, .int .i64 0, .int .i64 0, .int .i64 0, .int .i64 0, .int .i64 0, .int .i64 0, .int .i64 0, .int .i64 0, .int .i64 0, .int .i64 0, .int .i64 0, .int .i64 0, .int .i64 0, .int .i64 0, .int .i64 0, .int .i64 0, .int .i64 0, .int .i64 0, .int .i64 0, .int .i64 0, .int .i64 0, .int .i64 0, .int .i64 0, .int .i64 0] 40) (.cells #[.int .i64 0, .int .i64 0, .int .i64 0, .int .i64 0, .int .i64 0, .int .i64 0, .int .i64 0, .int .i64 0, .int .i64 0, .int .i64 0, .int .i64 0, .int .i64 0, .int .i64 0, .int .i64 0, .int .i64 0, .int .i64 0, .int .i64 0, .int .i64 0, .int .i64 0, .int .i64 0, .int .i64 0, .int .i64 0, .int .i64 0, .int .i64 0, .int .i64 0, .int .i64 0, .int .i64 0, .int .i64 0, .int .i64 0, .int .i64 0] 40)) HI1.out (by rw [HS1.out]; rfl) HO1.out ?_)
    | (refine wpList_store_row rfl 40 (.tmp 7) (.tmp 28) rfl (w3.heap.size + 1) AS rfl rfl 40 _ ((setRow_other _ _ _ _ (by omega)).trans (heap_alloc2_new w3 (.cells #[.int .i64 0, .int .i64 0, .int .i64 0, .int .i64 0, .int .i64 0, .int .i64 0, .int .i64 0, .int .i64 0, .int .i64 0, .int .i64 0, .int .i64 0, .int .i64 0, .int .i64 0, .int .i64 0, .int .i64 0, .int .i64 0, .int .i64 0, .int .i64 0, .int .i64 0, .int .i64 0, .int .i64 0, .int .i64 0, .int .i64 0, .int .i64 0, .int .i64 0, .int .i64 0, .int .i64 0, .int .i64 0, .int .i64 0, .int .i64 0] 40) (.cells #[.int .i64 0, .int .i64 0, .int .i64 0, .int .i64 0, .int .i64 0, .int .i64 0, .int .i64 0, .int .i64 0, .int .i64 0, .int .i64 0, .int .i64 0, .int .i64 0, .int .i64 0, .int .i64 0, .int .i64 0, .int .i64 0, .int .i64 0, .int .i64 0, .int .i64 0, .int .i64 0, .int .i64 0, .int .i64 0, .int .i64 0, .int .i64 0, .int .i64 0, .int .i64 0, .int .i64 0, .int .i64 0, .int .i64 0, .int .i64 0] 40))) HI2.out (by rw [HS2.out]; rfl) HO2.out ?_))
  have hbS : Below w3.heap.size w3 ((((w3.alloc (.cells #[.int .i64 0, .int .i64 0, .int .i64 0, .int .i64 0, .int .i64 0, .int .i64 0, .int .i64 0, .int .i64 0, .int .i64 0, .int .i64 0, .int .i64 0, .int .i64 0, .int .i64 0, .int .i64 0, .int .i64 0, .int .i64 0, .int .i64 0, .int .i64 0, .int .i64 0, .int .i64 0, .int .i64 0, .int .i64 0, .int .i64 0, .int .i64 0, .int .i64 0, .int .i64 0, .int .i64 0, .int .i64 0, .int .i64 0, .int .i64 0] 40)).alloc (.cells #[.int .i64 0, .int .i64 0, .int .i64 0, .int .i64 0, .int .i64 0, .int .i64 0, .int .i64 0, .int .i64 0, .int .i64 0, .int .i64 0, .int .i64 0, .int .i64 0, .int .i64 0, .int .i64 0, .int .i64 0, .int .i64 0, .int .i64 0, .int .i64 0, .int .i64 0, .int .i64 0, .int .i64 0, .int .i64 0, .int .i64 0, .int .i64 0, .int .i64 0, .int .i64 0, .int .i64 0, .int .i64 0, .int .i64 0, .int .i64 0] 40)).setRow w3.heap.size AR).setRow (w3.heap.size + 1) AS) :=
    below_setRow (below_setRow (show Below w3.heap.size w3 ((w3.alloc (.cells #[.int .i64 0, .int .i64 0, .int .i64 0, .int .i64 0, .int .i64 0, .int .i64 0, .int .i64 0, .int .i64 0, .int .i64 0, .int .i64 0, .int .i64 0, .int .i64 0, .int .i64 0, .int .i64 0, .int .i64 0, .int .i64 0, .int .i64 0, .int .i64 0, .int .i64 0, .int .i64 0, .int .i64 0, .int .i64 0, .int .i64 0, .int .i64 0, .int .i64 0, .int .i64 0, .int .i64 0, .int .i64 0, .int .i64 0, .int .i64 0] 40)).alloc (.cells #[.int .i64 0, .int .i64 0, .int .i64 0, .int .i64 0, .int .i64 0, .int .i64 0, .int .i64 0, .int .i64 0, .int .i64 0, .int .i64 0, .int .i64 0, .int .i64 0, .int .i64 0, .int .i64 0, .int .i64 0, .int .i64 0, .int .i64 0, .int .i64 0, .int .i64 0, .int .i64 0, .int .i64 0, .int .i64 0, .int .i64 0, .int .i64 0, .int .i64 0, .int .i64 0, .int .i64 0, .int .i64 0, .int .i64 0, .int .i64 0] 40)) from (by repeat (first | with_reducible exact Below.refl _ _ | with_reducible assumption | (with_reducible refine Below.trans ?_ (Below.mono (by assumption) (by first | omega | (simp <;> omega)))) | with_reducible apply Below.drew | with_reducible apply below_drewN | (with_reducible refine Below.alloc ?_ (by first | omega | (simp <;> omega)) _) | (with_reducible refine Below.setCell ?_ (by first | omega | (simp <;> omega)) _)))) (Nat.le_refl _) AR) (by omega) AS
  have h10 : ((((w3.alloc (.cells #[.int .i64 0, .int .i64 0, .int .i64 0, .int .i64 0, .int .i64 0, .int .i64 0, .int .i64 0, .int .i64 0, .int .i64 0, .int .i64 0, .int .i64 0, .int .i64 0, .int .i64 0, .int .i64 0, .int .i64 0, .int .i64 0, .int .i64 0, .int .i64 0, .int .i64 0, .int .i64 0, .int .i64 0, .int .i64 0, .int .i64 0, .int .i64 0, .int .i64 0, .int .i64 0, .int .i64 0, .int .i64 0, .int .i64 0, .int .i64 0] 40)).alloc (.cells #[.int .i64 0, .int .i64 0, .int .i64 0, .int .i64 0, .int .i64 0, .int .i64 0, .int .i64 0, .int .i64 0, .int .i64 0, .int .i64 0, .int .i64 0, .int .i64 0, .int .i64 0, .int .i64 0, .int .i64 0, .int .i64 0, .int .i64 0, .int .i64 0, .int .i64 0, .int .i64 0, .int .i64 0, .int .i64 0, .int .i64 0, .int .i64 0, .int .i64 0, .int .i64 0, .int .i64 0, .int .i64 0, .int .i64 0, .int .i64 0] 40)).setRow w3.heap.size AR).setRow (w3.heap.size + 1) AS).heap[w3.heap.size]? = some (.cells AR 40 (0, 0)) :=
    (setRow_other _ _ _ _ (by omega)).trans (setRow_heap _ _ _ _ _ _ (heap_alloc2_old w3 (.cells #[.int .i64 0, .int .i64 0, .int .i64 0, .int .i64 0, .int .i64 0, .int .i64 0, .int .i64 0, .int .i64 0, .int .i64 0, .int .i64 0, .int .i64 0, .int .i64 0, .int .i64 0, .int .i64 0, .int .i64 0, .int .i64 0, .int .i64 0, .int .i64 0, .int .i64 0, .int .i64 0, .int .i64 0, .int .i64 0, .int .i64 0, .int .i64 0, .int .i64 0, .int .i64 0, .int .i64 0, .int .i64 0, .int .i64 0, .int .i64 0] 40) (.cells #[.int .i64 0, .int .i64 0, .int .i64 0, .int .i64 0, .int .i64 0, .int .i64 0, .int .i64 0, .int .i64 0, .int .i64 0, .int .i64 0, .int .i64 0, .int .i64 0, .int .i64 0, .int .i64 0, .int .i64 0, .int .i64 0, .int .i64 0, .int .i64 0, .int .i64 0, .int .i64 0, .int .i64 0, .int .i64 0, .int .i64 0, .int .i64 0, .int .i64 0, .int .i64 0, .int .i64 0, .int .i64 0, .int .i64 0, .int .i64 0] 40)))
  have h11 : ((((w3.alloc (.cells #[.int .i64 0, .int .i64 0, .int .i64 0, .int .i64 0, .int .i64 0, .int .i64 0, .int .i64 0, .int .i64 0, .int .i64 0, .int .i64 0, .int .i64 0, .int .i64 0, .int .i64 0, .int .i64 0, .int .i64 0, .int .i64 0, .int .i64 0, .int .i64 0, .int .i64 0, .int .i64 0, .int .i64 0, .int .i64 0, .int .i64 0, .int .i64 0, .int .i64 0, .int .i64 0, .int .i64 0, .int .i64 0, .int .i64 0, .int .i64 0] 40)).alloc (.cells #[.int .i64 0, .int .i64 0, .int .i64 0, .int .i64 0, .int .i64 0, .int .i64 0, .int .i64 0, .int .i64 0, .int .i64 0, .int .i64 0, .int .i64 0, .int .i64 0, .int .i64 0, .int .i64 0, .int .i64 0, .int .i64 0, .int .i64 0, .int .i64 0, .int .i64 0, .int .i64 0, .int .i64 0, .int .i64 0, .int .i64 0, .int .i64 0, .int .i64 0, .int .i64 0, .int .i64 0, .int .i64 0, .int .i64 0, .int .i64 0] 40)).setRow w3.heap.size AR).setRow (w3.heap.size + 1) AS).heap[w3.heap.size + 1]? = some (.cells AS 40 (0, 0)) :=
    setRow_heap _ _ _ _ _ _ ((setRow_other _ _ _ _ (by omega)).trans (heap_alloc2_new w3 (.cells #[.int .i64 0, .int .i64 0, .int .i64 0, .int .i64 0, .int .i64 0, .int .i64 0, .int .i64 0, .int .i64 0, .int .i64 0, .int .i64 0, .int .i64 0, .int .i64 0, .int .i64 0, .int .i64 0, .int .i64 0, .int .i64 0, .int .i64 0, .int .i64 0, .int .i64 0, .int .i64 0, .int .i64 0, .int .i64 0, .int .i64 0, .int .i64 0, .int .i64 0, .int .i64 0, .int .i64 0, .int .i64 0, .int .i64 0, .int .i64 0] 40) (.cells #[.int .i64 0, .int .i64 0, .int .i64 0, .int .i64 0, .int .i64 0, .int .i64 0, .int .i64 0, .int .i64 0, .int .i64 0, .int .i64 0, .int .i64 0, .int .i64 0, .int .i64 0, .int .i64 0, .int .i64 0, .int .i64 0, .int .i64 0, .int .i64 0, .int .i64 0, .int .i64 0, .int .i64 0, .int .i64 0, .int .i64 0, .int .i64 0, .int .i64 0, .int .i64 0, .int .i64 0, .int .i64 0, .int .i64 0, .int .i64 0] 40)))
  generalize (((w3.alloc (.cells #[.int .i64 0, .int .i64 0, .int .i64 0, .int .i64 0, .int .i64 0, .int .i64 0, .int .i64 0, .int .i64 0, .int .i64 0, .int .i64 0, .int .i64 0, .int .i64 0, .int .i64 0, .int .i64 0, .int .i64 0, .int .i64 0, .int .i64 0, .int .i64 0, .int .i64 0, .int .i64 0, .int .i64 0, .int .i64 0, .int .i64 0, .int .i64 0, .int .i64 0, .int .i64 0, .int .i64 0, .int .i64 0, .int .i64 0, .int .i64 0] 40)).alloc (.cells #[.int .i64 0, .int .i64 0, .int .i64 0, .int .i64 0, .int .i64 0, .int .i64 0, .int .i64 0, .int .i64 0, .int .i64 0, .int .i64 0, .int .i64 0, .int .i64 0, .int .i64 0, .int .i64 0, .int .i64 0, .int .i64 0, .int .i64 0, .int .i64 0, .int .i64 0, .int .i64 0, .int .i64 0, .int .i64 0, .int .i64 0, .int .i64 0, .int .i64 0, .int .i64 0, .int .i64 0, .int .i64 0, .int .i64 0, .int .i64 0] 40)).setRow w3.heap.size AR).setRow (w3.heap.size + 1) AS = wS at *
  obtain ⟨z, hze, hzi⟩ := (unhide HEQ) wS
  have hbT := (unhide HBA).trans ((hbw2.trans ((hbw3.trans (hbS.mono hz3)).mono hz2)).mono hzA)
  have H10 := hide h10; have H11 := hide h11; have HZI := hide hzi; have HBT := hide hbT
  have hzS := hbT.size
  obtain ⟨X, hX⟩ : ∃ X, X = w3.heap.size := ⟨_, rfl⟩
  have hXl : w3.heap.size + 1 < wS.heap.size := (Array.getElem?_eq_some_iff.1 h11).1
  rw [← hX] at H10 H11 hXl ⊢
  have hXw : w.heap.size ≤ X := by omega
  have HX := Lib.hid hX
  clear hX h10 h11 hbS hzi hbT hbw2 hbw3 HEQ HAR HAS HBA HGS HGT
  cases z
  · have hdif : ∃ kd, kd < s.size ∧ s.data.toList.getD kd 0 ≠ t.data.toList.getD kd 0 := by
      have hno : ¬ ∀ k, k < 30 → lrF s.data.toList k = lrF t.data.toList k := fun h => by have := (unhide HZI).2 h; cases this
      rcases Decidable.em (∃ kd, kd < s.size ∧ s.data.toList.getD kd 0 ≠ t.data.toList.getD kd 0) with h | h
      · exact h
      · exfalso
        refine hno fun k hk => ?_
        rcases Nat.lt_or_ge k s.size with h1 | h1
        · rw [lrF_at s h1, lrF_at t (by have := HST.out; omega)]
          rw [Decidable.byContradiction fun h2 => h ⟨k, h1, h2⟩]
        · rw [lrF_out s h1, lrF_out t (by have := HST.out; omega)]
    obtain ⟨kd, hkd, hkne⟩ := hdif
    have HKD := Lib.hid hkne
    clear hkne HZI
    go_upto_region 7 with (first
      | (refine wpList_load_row rfl 40 (.tmp 6) rfl X rfl 40 AR (0, 0) _ (unhide H10) Tryd.underlying40 rfl HI1.out ?_)
      | (refine wpList_load_row rfl 40 (.tmp 7) rfl (X + 1) rfl 40 AS (0, 0) _ (unhide H11) Tryd.underlying40 rfl HI2.out ?_))
    go_loopw [8] (fun i wr => ∃ k : Nat, i = .int .i64 (k : Int) ∧ k ≤ kd ∧ Hid (∀ j, j < k → s.data.toList.getD j 0 = t.data.toList.getD j 0) ∧ Below wS.heap.size wS wr) (fun i _ => 30 - (intOf i).toNat)
    case atStart => exact ⟨0, rfl, by omega, hide (fun j h => by omega), Below.refl _ _⟩
    case round =>
      obtain ⟨k, rfl, hk, hpre, hbwr⟩ := hrel
      have hzwr := hbwr.size
      have hX1 : X < wr.heap.size := by omega
      have hX2 : X + 1 < wr.heap.size := by omega
      have hc1 : wr.cell? ⟨X, k, none⟩ = some (.int .i64 (rkB (s.data.toList.getD k 0))) := by
        rw [cell_of_row wr X k AR _ _ ((hbwr.block X (by omega)).trans (unhide H10)), (unhide HAT1) k (by omega), lrF_at s (by omega)]
      have hc2 : wr.cell? ⟨X + 1, k, none⟩ = some (.int .i64 (rkB (t.data.toList.getD k 0))) := by
        rw [cell_of_row wr (X + 1) k AS _ _ ((hbwr.block (X + 1) (by omega)).trans (unhide H11)), (unhide HAT2) k (by omega), lrF_at t (by have := HST.out; omega)]
      have t1 : (0 : Int) ≤ (k : Int) := by omega
      have t2 : (k : Int) < 30 := by omega
      have HB := hide hbwr
      by_cases he : s.data.toList.getD k 0 = t.data.toList.getD k 0
      · have hk1 : k + 1 ≤ kd := by
          rcases Nat.lt_or_ge k kd with h | h
          · omega
          · have e : k = kd := by omega
            subst e
            exact absurd he HKD.out
        have hp1 := hide (fun j (hj : j < k + 1) => show s.data.toList.getD j 0 = t.data.toList.getD j 0 from by
          rcases Nat.lt_or_ge j k with h1 | h1
          · exact (unhide hpre) j h1
          · obtain rfl : j = k := by omega
            exact he)
        rw [← he] at hc2
        clear he hpre hbwr HKD
        generalize rkB (s.data.toList.getD k 0) = x at *
        go_upto_region 7 with fail
        go_quiet (fail)
        go_wp2_with fail
        have hb := unhide HB
        go_roundw
        case rel => exact ⟨k + 1, by go_num, hk1, hp1, (by repeat (first | with_reducible exact Below.refl _ _ | with_reducible assumption | (with_reducible refine Below.trans ?_ (Below.mono (by assumption) (by first | omega | (simp <;> omega)))) | with_reducible apply Below.drew | with_reducible apply below_drewN | (with_reducible refine Below.alloc ?_ (by first | omega | (simp <;> omega)) _) | (with_reducible refine Below.setCell ?_ (by first | omega | (simp <;> omega)) _)))⟩
        case measure => (simp [intOf] <;> omega)
      · have hcw := ckF_ne (a := s.data.toList) (b := t.data.toList) (k := k) he s.size 0 (by omega) (by omega) (fun j _ hj => (unhide hpre) j hj)
        have hrne : rkB (s.data.toList.getD k 0) ≠ rkB (t.data.toList.getD k 0) := fun h => he (rk_inj ((unhide HG1) k (by omega)) ((unhide HG2) k (by omega)) h)
        have hcmp := fun W => Tryd.cmp_Compare_int (rkB (s.data.toList.getD k 0)) (rkB (t.data.toList.getD k 0)) W
        simp only [cmp_sign] at hcmp
        have htr := fun W => turnsRound_any (s.extract 0 k) W
        rw [Lib.extract_upto] at htr
        have htr' : ∀ W, Calls Tryd.prog 29 #[.string (s.extract 0 k)] W fun e w' => e = .returned (.bool (decide ((s.data.toList.take k).count 82 % 2 = 1))) ∧ W = w' := fun W => by
          rw [Lib.extract_upto]
          have := htr W
          simpa using this
        have hbz := (unhide HBT).trans (hbwr.mono hzS)
        have hne1 : (rkB (s.data.toList.getD k 0) == rkB (t.data.toList.getD k 0)) = false := beq_eq_false_iff_ne.2 hrne
        have hne2 : decide (rkB (s.data.toList.getD k 0) = rkB (t.data.toList.getD k 0)) = false := decide_eq_false hrne
        have hbd : -1 ≤ (rkB (s.data.toList.getD k 0) - rkB (t.data.toList.getD k 0)).sign ∧ (rkB (s.data.toList.getD k 0) - rkB (t.data.toList.getD k 0)).sign ≤ 1 := by
          rcases Int.lt_trichotomy (rkB (s.data.toList.getD k 0) - rkB (t.data.toList.getD k 0)) 0 with hd | hd | hd
          · rw [Int.sign_eq_neg_one_of_neg hd]; omega
          · rw [hd]; decide
          · rw [Int.sign_eq_one_of_pos hd]; omega
        have hsgv : ∀ x : Int, sgR ((s.data.toList.take k).count 82) * x = if (s.data.toList.take k).count 82 % 2 = 1 then -x else x := fun x => by unfold sgR; split <;> omega
        rw [hsgv] at hcw
        have t3 : (k : Int) ≤ (s.size : Int) := by omega
        have HCMP := hide hcmp; have HTR := hide htr'; have HBZ := hide hbz; have HCW := Lib.hid hcw
        clear hcmp htr htr' hbz hcw hsgv hpre hbwr HKD he HG1 HG2 hrne
        generalize (rkB (s.data.toList.getD k 0) - rkB (t.data.toList.getD k 0)).sign = cc at *
        generalize rkB (s.data.toList.getD k 0) = x at *
        generalize rkB (t.data.toList.getD k 0) = y at *
        generalize (s.data.toList.take k).count 82 % 2 = par at *
        have w1 : IntKind.i64.wrap (-cc) = -cc := IntWalk.i64_in _ (by omega)
        go_upto_region 7 with fail
        go_quiet (fail)
        go_upto_region 9 with fail
        go_cut [9] (fun s9 wx => s9 = .int .i64 cc ∧ Below wr.heap.size wr wx)
        case first =>
          go_region_held3 (fun w' => w'.cell? ⟨X, k, none⟩ = some (.int .i64 x) ∧ w'.cell? ⟨X + 1, k, none⟩ = some (.int .i64 y)) (simp [go_sem, *])
            ((go_at_call 28; (with_reducible refine ((unhide HCMP) _).mono ?_); rintro e w6 ⟨rfl, rfl⟩))
          all_goals
            go_wp2_with fail
            go_meet
            exact ⟨rfl, (by repeat (first | with_reducible exact Below.refl _ _ | with_reducible assumption | (with_reducible refine Below.trans ?_ (Below.mono (by assumption) (by first | omega | (simp <;> omega)))) | with_reducible apply Below.drew | with_reducible apply below_drewN | (with_reducible refine Below.alloc ?_ (by first | omega | (simp <;> omega)) _) | (with_reducible refine Below.setCell ?_ (by first | omega | (simp <;> omega)) _)))⟩
        case rest =>
          obtain ⟨rfl, hbx⟩ := hcut
          have HBW := hide ((unhide HBZ).trans (hbx.mono (unhide HBZ).size))
          clear hbx hc1 hc2 HCMP
          by_cases hp : par = 1
          · rw [decide_eq_true hp] at HTR
            rw [if_pos hp] at HCW
            go_wp2_with (go_at_call 29; (with_reducible refine ((unhide HTR) _).mono ?_); rintro e w7 ⟨rfl, rfl⟩)
            go_ret2
            exact ⟨by rw [HCW.out]; rfl, unhide HBW⟩
          · rw [decide_eq_false hp] at HTR
            rw [if_neg hp] at HCW
            go_wp2_with (go_at_call 29; (with_reducible refine ((unhide HTR) _).mono ?_); rintro e w7 ⟨rfl, rfl⟩)
            go_ret2
            exact ⟨by rw [HCW.out]; rfl, unhide HBW⟩
  · have hall := (unhide HZI).1 rfl
    have hcw : ckF s.data.toList t.data.toList s.size 0 = 0 := ckF_eq s.size 0 fun j _ hj => by
      have := hall j (by omega)
      rw [lrF_at s (by omega), lrF_at t (by have := HST.out; omega)] at this
      exact rk_inj ((unhide HG1) j (by omega)) ((unhide HG2) j (by omega)) this
    have HCW := Lib.hid hcw
    clear hall hcw
    go_wp2_with (first
      | (refine wpList_load_row rfl 40 (.tmp 6) rfl X rfl 40 AR (0, 0) _ (unhide H10) Tryd.underlying40 rfl HI1.out ?_)
      | (refine wpList_load_row rfl 40 (.tmp 7) rfl (X + 1) rfl 40 AS (0, 0) _ (unhide H11) Tryd.underlying40 rfl HI2.out ?_))
    go_ret2
    exact ⟨by rw [HCW.out]; rfl, unhide HBT⟩

set_option maxRecDepth 100000 in
set_option maxHeartbeats 800000 in
theorem iCompareKneading_any (s t : ByteArray) (w : World) (hs : s.size ≤ 1048576) (ht : t.size ≤ 1048576) :
    Calls Tryd.prog 12 #[.string s, .string t] w fun e w' => e = .returned (.tuple #[.int .i64 (ckI s t), .bool (ckZ s t)]) ∧ Below w.heap.size w w' := by
  have hgs := fun W => iIsKneadingWord_any s W hs
  have hgt := fun W => iIsKneadingWord_any t W ht
  rcases h1 : gdB sLCR s with _ | _
  · have hz : ckZ s t = false := by unfold ckZ; rw [h1]; rfl
    rw [show ckI s t = 0 by unfold ckI; rw [hz], hz]
    rw [h1] at hgs
    have HS := hide hgs
    clear hgs hgt h1 hz
    go_enter Tryd.func12, Tryd.ntmps12
    go_wp2_with (go_at_call 10; (with_reducible refine ((unhide HS) _).mono ?_); rintro e w1 ⟨rfl, hbw1⟩; obtain ⟨hcw1, hfw1⟩ := bcell hbw1; have hzw1 := hbw1.size; (try simp at hzw1))
    go_ret2
    exact ⟨rfl, (by repeat (first | with_reducible exact Below.refl _ _ | with_reducible assumption | (with_reducible refine Below.trans ?_ (Below.mono (by assumption) (by first | omega | (simp <;> omega)))) | with_reducible apply Below.drew | with_reducible apply below_drewN | (with_reducible refine Below.alloc ?_ (by first | omega | (simp <;> omega)) _) | (with_reducible refine Below.setCell ?_ (by first | omega | (simp <;> omega)) _)))⟩
  · rcases h2 : gdB sLCR t with _ | _
    · have hz : ckZ s t = false := by unfold ckZ; rw [h1, h2]; rfl
      rw [show ckI s t = 0 by unfold ckI; rw [hz], hz]
      rw [h1] at hgs
      rw [h2] at hgt
      have HS := hide hgs; have HT := hide hgt
      clear hgs hgt h1 h2 hz
      go_enter Tryd.func12, Tryd.ntmps12
      go_wp2_with (first
        | (go_at_call 10; have _t := hbw1; clear _t; (with_reducible refine ((unhide HT) _).mono ?_); rintro e w2 ⟨rfl, hbw2⟩; obtain ⟨hcw2, hfw2⟩ := bcell hbw2; have hzw2 := hbw2.size; (try simp at hzw2))
        | (go_at_call 10; (with_reducible refine ((unhide HS) _).mono ?_); rintro e w1 ⟨rfl, hbw1⟩; obtain ⟨hcw1, hfw1⟩ := bcell hbw1; have hzw1 := hbw1.size; (try simp at hzw1)))
      go_ret2
      exact ⟨rfl, (by repeat (first | with_reducible exact Below.refl _ _ | with_reducible assumption | (with_reducible refine Below.trans ?_ (Below.mono (by assumption) (by first | omega | (simp <;> omega)))) | with_reducible apply Below.drew | with_reducible apply below_drewN | (with_reducible refine Below.alloc ?_ (by first | omega | (simp <;> omega)) _) | (with_reducible refine Below.setCell ?_ (by first | omega | (simp <;> omega)) _)))⟩
    · have hzz : ckZ s t = decide (s.size = t.size) := by unfold ckZ; rw [h1, h2]; rfl
      by_cases hst : s.size = t.size
      · have hz : ckZ s t = true := by rw [hzz, decide_eq_true hst]
        rw [show ckI s t = ckF s.data.toList t.data.toList s.size 0 by unfold ckI; rw [hz], hz]
        exact iCompare_good s t w h1 h2 hst
      · have hz : ckZ s t = false := by rw [hzz, decide_eq_false hst]
        rw [show ckI s t = 0 by unfold ckI; rw [hz], hz]
        rw [h1] at hgs
        rw [h2] at hgt
        have HS := hide hgs; have HT := hide hgt
        have e1 : ¬ (s.size : Int) = (t.size : Int) := by omega
        have e2 : ((s.size : Int) == (t.size : Int)) = false := beq_eq_false_iff_ne.2 e1
        clear hgs hgt h1 h2 hz hzz
        go_enter Tryd.func12, Tryd.ntmps12
        go_wp2_with (first
          | (go_at_call 10; have _t := hbw1; clear _t; (with_reducible refine ((unhide HT) _).mono ?_); rintro e w2 ⟨rfl, hbw2⟩; obtain ⟨hcw2, hfw2⟩ := bcell hbw2; have hzw2 := hbw2.size; (try simp at hzw2))
          | (go_at_call 10; (with_reducible refine ((unhide HS) _).mono ?_); rintro e w1 ⟨rfl, hbw1⟩; obtain ⟨hcw1, hfw1⟩ := bcell hbw1; have hzw1 := hbw1.size; (try simp at hzw1)))
        go_ret2
        exact ⟨rfl, (by repeat (first | with_reducible exact Below.refl _ _ | with_reducible assumption | (with_reducible refine Below.trans ?_ (Below.mono (by assumption) (by first | omega | (simp <;> omega)))) | with_reducible apply Below.drew | with_reducible apply below_drewN | (with_reducible refine Below.alloc ?_ (by first | omega | (simp <;> omega)) _) | (with_reducible refine Below.setCell ?_ (by first | omega | (simp <;> omega)) _)))⟩
end Go.Proofs.YtldmgjeecomddaaDoor

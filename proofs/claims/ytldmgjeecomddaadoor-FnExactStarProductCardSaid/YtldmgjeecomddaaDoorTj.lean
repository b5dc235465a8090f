/-
  Chapter 7: a word as an array: lettersOf; arrays compared; turnsRound.
-/
import Derived.Test.YtldmgjeecomddaaDoorTi
import Derived.Deep.Cut
import Derived.Laws.CopyOwn
import Derived.Deep.OwnRows
import Derived.DeepKeys
namespace Go.Proofs.YtldmgjeecomddaaDoor
open Go.RowKit Rm

/-- The places of the letters, and 0 behind them. -/
def lrF (l : List UInt8) (k : Nat) : Int := if k < l.length then rkB (l.getD k 0) else 0
def lrL (l : List UInt8) : List Value := (List.range 30).map fun k => .int .i64 (lrF l k)
def lrA (l : List UInt8) : Array Value := (lrL l).toArray
theorem lrA_size (l : List UInt8) : (lrA l).size = 30 := by simp [lrA, lrL]
theorem lrA_at (l : List UInt8) {k : Nat} (h : k < 30) : (lrA l)[k]? = some (.int .i64 (lrF l k)) := by simp [lrA, lrL, h]
theorem lrA_one (l : List UInt8) : (lrA l).all (·.oneCell') = true := by
  rw [Array.all_eq_true_iff_forall_mem]
  intro v hv
  have : v ∈ lrL l := by simpa [lrA] using hv
  obtain ⟨k, _, rfl⟩ := List.mem_map.1 this
  rfl
theorem lrF_bd (l : List UInt8) (k : Nat) : 0 ≤ lrF l k ∧ lrF l k ≤ 2 := by unfold lrF; split; exact rk_bd _; omega
theorem row_lr {w : World} {b : Nat} {t : TypeId} {l : List UInt8} (h : w.rowIs b t 30 (fun k => .int .i64 (lrF l k))) : w.heap[b]? = some (.cells (lrA l) t (0, 0)) := by
  obtain ⟨c, h1, h2, h3⟩ := h
  have e : c = lrA l := by
    apply Array.ext
    · rw [lrA_size, h2]
    · intro i hi hi2
      have h4 := h3 i (by omega)
      have h5 := lrA_at l (k := i) (by omega)
      rw [Array.getElem?_eq_getElem hi] at h4
      rw [Array.getElem?_eq_getElem hi2] at h5
      injection h4 with h4
      injection h5 with h5
      rw [h4, h5]
  rw [h1, e]
theorem row_zero {w : World} {b : Nat} {t : TypeId} (h : w.rowIs b t 30 (fun _ => .int .i64 0)) : w.heap[b]? = some (.cells (lrA []) t (0, 0)) :=
  row_lr (h.congr fun _ _ => by simp [lrF])
theorem ix_rk {c : UInt8} (h : sLCR.data.toList.contains c = true) : Lib.indexByte sLCR.data.toList ((c.toNat : Int).toNat.toUInt8) = rkB c := by
  have h1 : c ∈ [76, 67, 82] := by simpa using h
  have h2 : c = 76 ∨ c = 67 ∨ c = 82 := by simpa using h1
  rcases h2 with rfl | rfl | rfl
  · rfl
  · rfl
  · rfl

set_option maxRecDepth 100000 in
set_option maxHeartbeats 3200000 in
theorem lettersOf_any (s : ByteArray) (w : World) (hg : gdB sLCR s = true) :
    Calls Tryd.prog 27 #[.string s] w fun e w' => e = .returned (.agg (lrA s.data.toList)) ∧ Below w.heap.size w w' := by
  have h30 := gd_size' hg
  have hin : ∀ k (hk : k < s.size), sLCR.data.toList.contains s[k] = true := fun k hk => by
    unfold gdB at hg
    rw [Bool.and_eq_true] at hg
    have := hg.1
    unfold inB at this
    exact List.all_eq_true.1 this _ (List.mem_of_getElem? (at_list s hk))
  have hib := fun (k : Nat) (hk : k < s.size) (W : World) => Tryd.strings_IndexByte sLCR ((s[k]'hk).toNat : Int) W
  have hib' : ∀ (k : Nat) (hk : k < s.size) (W : World), Calls Tryd.prog 54 #[.string sLCR, .int .u8 ((s[k]'hk).toNat : Int)] W fun e w' => e = .returned (.int .i64 (rkB (s[k]'hk))) ∧ W = w' := fun k hk W => by
    refine (hib k hk W).mono ?_
    rintro e w' ⟨h1, h2⟩
    rw [ix_rk (hin k hk)] at h1
    exact ⟨h1, h2.symm⟩
  have HIB := hide hib'
  have hll := sz_list s
  have HLL := Lib.hid hll
  clear hib hib' hin hg hll
  go_enter Tryd.func27, Tryd.ntmps27
  go_wp2_with fail
  have hrow0 : ((w.alloc (.cells #[.int .i64 0, .int .i64 0, .int .i64 0, .int .i64 0, .int .i64 0, .int .i64 0, .int .i64 0, .int .i64 0, .int .i64 0, .int .i64 0, .int .i64 0, .int .i64 0, .int .i64 0, .int .i64 0, .int .i64 0, .int .i64 0, .int .i64 0, .int .i64 0, .int .i64 0, .int .i64 0, .int .i64 0, .int .i64 0, .int .i64 0, .int .i64 0, .int .i64 0, .int .i64 0, .int .i64 0, .int .i64 0, .int .i64 0, .int .i64 0] 40)).alloc (.cells #[.int .i64 0, .int .i64 0, .int .i64 0, .int .i64 0, .int .i64 0, .int .i64 0, .int .i64 0, .int .i64 0, .int .i64 0, .int .i64 0, .int .i64 0, .int .i64 0, .int .i64 0, .int .i64 0, .int .i64 0, .int .i64 0, .int .i64 0, .int .i64 0, .int .i64 0, .int .i64 0, .int .i64 0, .int .i64 0, .int .i64 0, .int .i64 0, .int .i64 0, .int .i64 0, .int .i64 0, .int .i64 0, .int .i64 0, .int .i64 0] 40)).rowIs (w.heap.size + 1) 40 30 (fun _ => .int .i64 0) := by
    have := World.rowIs_alloc (w.alloc (.cells #[.int .i64 0, .int .i64 0, .int .i64 0, .int .i64 0, .int .i64 0, .int .i64 0, .int .i64 0, .int .i64 0, .int .i64 0, .int .i64 0, .int .i64 0, .int .i64 0, .int .i64 0, .int .i64 0, .int .i64 0, .int .i64 0, .int .i64 0, .int .i64 0, .int .i64 0, .int .i64 0, .int .i64 0, .int .i64 0, .int .i64 0, .int .i64 0, .int .i64 0, .int .i64 0, .int .i64 0, .int .i64 0, .int .i64 0, .int .i64 0] 40)) #[.int .i64 0, .int .i64 0, .int .i64 0, .int .i64 0, .int .i64 0, .int .i64 0, .int .i64 0, .int .i64 0, .int .i64 0, .int .i64 0, .int .i64 0, .int .i64 0, .int .i64 0, .int .i64 0, .int .i64 0, .int .i64 0, .int .i64 0, .int .i64 0, .int .i64 0, .int .i64 0, .int .i64 0, .int .i64 0, .int .i64 0, .int .i64 0, .int .i64 0, .int .i64 0, .int .i64 0, .int .i64 0, .int .i64 0, .int .i64 0] 40 (fun _ => .int .i64 0) (by
      intro i hi
      have hi' : i < 30 := hi
      match i, hi' with
      | 0, _ => rfl
      | 1, _ => rfl
      | 2, _ => rfl
      | 3, _ => rfl
      | 4, _ => rfl
      | 5, _ => rfl
      | 6, _ => rfl
      | 7, _ => rfl
      | 8, _ => rfl
      | 9, _ => rfl
      | 10, _ => rfl
      | 11, _ => rfl
      | 12, _ => rfl
      | 13, _ => rfl
      | 14, _ => rfl
      | 15, _ => rfl
      | 16, _ => rfl
      | 17, _ => rfl
      | 18, _ => rfl
      | 19, _ => rfl
      | 20, _ => rfl
      | 21, _ => rfl
      | 22, _ => rfl
      | 23, _ => rfl
      | 24, _ => rfl
      | 25, _ => rfl
      | 26, _ => rfl
      | 27, _ => rfl
      | 28, _ => rfl
      | 29, _ => rfl
      | i + 30, h => omega)
    simpa using this
  have hb0 : Below w.heap.size w ((w.alloc (.cells #[.int .i64 0, .int .i64 0, .int .i64 0, .int .i64 0, .int .i64 0, .int .i64 0, .int .i64 0, .int .i64 0, .int .i64 0, .int .i64 0, .int .i64 0, .int .i64 0, .int .i64 0, .int .i64 0, .int .i64 0, .int .i64 0, .int .i64 0, .int .i64 0, .int .i64 0, .int .i64 0, .int .i64 0, .int .i64 0, .int .i64 0, .int .i64 0, .int .i64 0, .int .i64 0, .int .i64 0, .int .i64 0, .int .i64 0, .int .i64 0] 40)).alloc (.cells #[.int .i64 0, .int .i64 0, .int .i64 0, .int .i64 0, .int .i64 0, .int .i64 0, .int .i64 0, .int .i64 0, .int .i64 0, .int .i64 0, .int .i64 0, .int .i64 0, .int .i64 0, .int .i64 0, .int .i64 0, .int .i64 0, .int .i64 0, .int .i64 0, .int .i64 0, .int .i64 0, .int .i64 0, .int .i64 0, .int .i64 0, .int .i64 0, .int .i64 0, .int .i64 0, .int .i64 0, .int .i64 0, .int .i64 0, .int .i64 0] 40)) := (by repeat (first | with_reducible exact Below.refl _ _ | with_reducible assumption | (with_reducible refine Below.trans ?_ (Below.mono (by assumption) (by first | omega | (simp <;> omega)))) | with_reducible apply Below.drew | with_reducible apply below_drewN | (with_reducible refine Below.alloc ?_ (by first | omega | (simp <;> omega)) _) | (with_reducible refine Below.setCell ?_ (by first | omega | (simp <;> omega)) _)))
  have hres0 : ((w.alloc (.cells #[.int .i64 0, .int .i64 0, .int .i64 0, .int .i64 0, .int .i64 0, .int .i64 0, .int .i64 0, .int .i64 0, .int .i64 0, .int .i64 0, .int .i64 0, .int .i64 0, .int .i64 0, .int .i64 0, .int .i64 0, .int .i64 0, .int .i64 0, .int .i64 0, .int .i64 0, .int .i64 0, .int .i64 0, .int .i64 0, .int .i64 0, .int .i64 0, .int .i64 0, .int .i64 0, .int .i64 0, .int .i64 0, .int .i64 0, .int .i64 0] 40)).alloc (.cells #[.int .i64 0, .int .i64 0, .int .i64 0, .int .i64 0, .int .i64 0, .int .i64 0, .int .i64 0, .int .i64 0, .int .i64 0, .int .i64 0, .int .i64 0, .int .i64 0, .int .i64 0, .int .i64 0, .int .i64 0, .int .i64 0, .int .i64 0, .int .i64 0, .int .i64 0, .int .i64 0, .int .i64 0, .int .i64 0, .int .i64 0, .int .i64 0, .int .i64 0, .int .i64 0, .int .i64 0, .int .i64 0, .int .i64 0, .int .i64 0] 40)).rowIs w.heap.size 40 30 (fun _ => .int .i64 0) := by
    refine World.rowIs.alloc ?_ _
    have := World.rowIs_alloc w #[.int .i64 0, .int .i64 0, .int .i64 0, .int .i64 0, .int .i64 0, .int .i64 0, .int .i64 0, .int .i64 0, .int .i64 0, .int .i64 0, .int .i64 0, .int .i64 0, .int .i64 0, .int .i64 0, .int .i64 0, .int .i64 0, .int .i64 0, .int .i64 0, .int .i64 0, .int .i64 0, .int .i64 0, .int .i64 0, .int .i64 0, .int .i64 0, .int .i64 0, .int .i64 0, .int .i64 0, .int .i64 0, .int .i64 0, .int .i64 0] 40 (fun _ => .int .i64 0) (by
      intro i hi
      have hi' : i < 30 := hi
      match i, hi' with
      | 0, _ => rfl
      | 1, _ => rfl
      | 2, _ => rfl
      | 3, _ => rfl
      | 4, _ => rfl
      | 5, _ => rfl
      | 6, _ => rfl
      | 7, _ => rfl
      | 8, _ => rfl
      | 9, _ => rfl
      | 10, _ => rfl
      | 11, _ => rfl
      | 12, _ => rfl
      | 13, _ => rfl
      | 14, _ => rfl
      | 15, _ => rfl
      | 16, _ => rfl
      | 17, _ => rfl
      | 18, _ => rfl
      | 19, _ => rfl
      | 20, _ => rfl
      | 21, _ => rfl
      | 22, _ => rfl
      | 23, _ => rfl
      | 24, _ => rfl
      | 25, _ => rfl
      | 26, _ => rfl
      | 27, _ => rfl
      | 28, _ => rfl
      | 29, _ => rfl
      | i + 30, h => omega)
    simpa using this
  generalize ((w.alloc (.cells #[.int .i64 0, .int .i64 0, .int .i64 0, .int .i64 0, .int .i64 0, .int .i64 0, .int .i64 0, .int .i64 0, .int .i64 0, .int .i64 0, .int .i64 0, .int .i64 0, .int .i64 0, .int .i64 0, .int .i64 0, .int .i64 0, .int .i64 0, .int .i64 0, .int .i64 0, .int .i64 0, .int .i64 0, .int .i64 0, .int .i64 0, .int .i64 0, .int .i64 0, .int .i64 0, .int .i64 0, .int .i64 0, .int .i64 0, .int .i64 0] 40)).alloc (.cells #[.int .i64 0, .int .i64 0, .int .i64 0, .int .i64 0, .int .i64 0, .int .i64 0, .int .i64 0, .int .i64 0, .int .i64 0, .int .i64 0, .int .i64 0, .int .i64 0, .int .i64 0, .int .i64 0, .int .i64 0, .int .i64 0, .int .i64 0, .int .i64 0, .int .i64 0, .int .i64 0, .int .i64 0, .int .i64 0, .int .i64 0, .int .i64 0, .int .i64 0, .int .i64 0, .int .i64 0, .int .i64 0, .int .i64 0, .int .i64 0] 40)) = w2 at *
  have HR0 := hide hrow0; have HRES := hide hres0; have HB0 := hide hb0
  clear hrow0 hres0 hb0
  go_loopw [7] (fun i wr => ∃ k : Nat, i = .int .i64 (k : Int) ∧ k ≤ s.size ∧ Hid (wr.rowIs (w.heap.size + 1) 40 30 (fun j => .int .i64 (if j < k then rkB (s.data.toList.getD j 0) else 0))) ∧ Hid (wr.rowIs w.heap.size 40 30 (fun _ => .int .i64 0)) ∧ Hid (Below w.heap.size w wr)) (fun i _ => s.size - (intOf i).toNat)
  case atStart => exact ⟨0, rfl, by omega, hide ((unhide HR0).congr (fun i _ => by simp)), HRES, HB0⟩
  case round =>
    obtain ⟨k, rfl, hk, HR, HRS, HB⟩ := hrel
    clear HR0 HRES HB0
    by_cases hlt : k < s.size
    · have hl := (unhide HR).lt
      have hc := (unhide HR).cell (show k < 30 by omega)
      rw [if_neg (by omega)] at hc
      have hf := (unhide HR).frozen k
      have hgd := getD_at s hlt
      have hrow := ((unhide HR).set k (.int .i64 (rkB (s[k]'hlt)))).congr (g := fun j => .int .i64 (if j < k + 1 then rkB (s.data.toList.getD j 0) else 0)) (fun j hj => by
        by_cases e : j = k
        · subst e; rw [if_pos rfl, if_pos (by omega), hgd]
        · by_cases e2 : j < k
          · rw [if_neg e, if_pos e2, if_pos (by omega)]
          · rw [if_neg e, if_neg e2, if_neg (by omega)])
      have hres := (unhide HRS).setOther (a := ⟨w.heap.size + 1, k, none⟩) (by show w.heap.size ≠ w.heap.size + 1; omega) (.int .i64 (rkB (s[k]'hlt)))
      have hb := (unhide HB).setCell (p := ⟨w.heap.size + 1, k, none⟩) (by show w.heap.size ≤ w.heap.size + 1; omega) (.int .i64 (rkB (s[k]'hlt)))
      have hibk := (unhide HIB) k hlt
      have H1 := hide hrow; have H2 := hide hres; have H3 := hide hb; have HIK := hide hibk
      clear hrow hres hb HR HRS HB hibk hgd
      generalize rkB (s[k]'hlt) = rk at *
      have t1 : (0 : Int) ≤ (k : Int) := by omega
      have t2 : (k : Int) < 30 := by omega
      go_wp2_with (go_at_call 54; (with_reducible refine ((unhide HIK) _).mono ?_); rintro e w' ⟨rfl, rfl⟩)
      go_roundw
      case rel => exact ⟨k + 1, by go_num, by omega, H1, H2, H3⟩
      case measure => (simp [intOf] <;> omega)
    · obtain rfl : k = s.size := by omega
      have hg5 := row_lr (l := s.data.toList) ((unhide HR).congr (fun j hj => by unfold lrF; rw [HLL.out]))
      have hrs5 := row_zero (unhide HRS)
      have hbl := unhide HB
      have hsz : w.heap.size + 1 < wr.heap.size := (unhide HR).lt
      have hlw : w.heap.size < wr.heap.size := by omega
      have hs1 := lrA_size s.data.toList
      have hs2 := lrA_one s.data.toList
      have hs3 := lrA_size []
      have hsr := setRow_heap wr w.heap.size _ (lrA s.data.toList) _ _ hrs5
      have hb6 := below_setRow hbl (Nat.le_refl _) (lrA s.data.toList)
      have hinf : (Tryd.prog.info? 40).map (·.size) = some (lrA s.data.toList).size := by rw [hs1]; kernel_rfl
      have HSR := hide hsr; have HB6 := hide hb6; have HG6 := hide hg5; have HRS5 := hide hrs5; have HINF := Lib.hid hinf; have HS2 := Lib.hid hs2; have HS1 := Lib.hid hs1; have HS3 := Lib.hid hs3
      clear hsr hb6 hg5 hrs5 hinf hs1 hs2 hs3 hbl HB HRS HR
      generalize hAR : lrA s.data.toList = AR at *
      have HAR := Lib.hid hAR
      clear hAR
      go_upto_region 7 with fail
      refine wp_region_list ?_
      refine wpList_load_row rfl 40 (.tmp 3) rfl (w.heap.size + 1) rfl 40 AR (0, 0) _ (unhide HG6) Tryd.underlying40 rfl HINF.out ?_
      refine wpList_store_row rfl 40 (.tmp 2) (.tmp 17) rfl w.heap.size AR rfl rfl 40 _ (unhide HRS5) HINF.out (by rw [HS1.out, HS3.out]) HS2.out ?_
      go_wp2_with fail
      exact bodyPost_ret (v := .agg AR) (results_cell_row Tryd.results27 _ _ w.heap.size 40 AR (0, 0) _ rfl (unhide HSR) Tryd.underlying40 rfl HINF.out) rfl ⟨by rw [HAR.out], unhide HB6⟩
end Go.Proofs.YtldmgjeecomddaaDoor

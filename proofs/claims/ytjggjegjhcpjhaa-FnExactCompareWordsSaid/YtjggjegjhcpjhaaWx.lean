/-
  Chapter 6: a word as an array: arrayOf of the program; arrays compared.
-/
import Derived.Test.YtjggjegjhcpjhaaWi
import Derived.Laws.CopyOwn
import Derived.Deep.OwnRows
import Derived.DeepKeys
namespace Go.Proofs.Ytjggjegjhcpjhaa
open Go.RowKit Rm

/-- The numbers of a word, and -1 behind them. -/
def arF (r : List Int) (k : Nat) : Int := if k < r.length then r.getD k 0 else -1
def arL (r : List Int) : List Value := (List.range 20).map fun k => .int .i64 (arF r k)
def arA (r : List Int) : Array Value := (arL r).toArray
theorem arA_size (r : List Int) : (arA r).size = 20 := by simp [arA, arL]
theorem arA_at (r : List Int) {k : Nat} (h : k < 20) : (arA r)[k]? = some (.int .i64 (arF r k)) := by simp [arA, arL, h]
theorem arA_one (r : List Int) : (arA r).all (·.oneCell') = true := by
  rw [Array.all_eq_true_iff_forall_mem]
  intro v hv
  have : v ∈ arL r := by simpa [arA] using hv
  obtain ⟨k, _, rfl⟩ := List.mem_map.1 this
  rfl
theorem arA_splice {r : List Int} (hr : r.length ≤ 20) : (splice (List.replicate 20 (Value.int .i64 (-1))) 0 (ints r)).toArray = arA r := by
  unfold arA
  congr 1
  apply List.ext_getElem?
  intro k
  unfold splice arL
  rw [List.take_zero, List.nil_append, Nat.zero_add, ints_len]
  by_cases hkr : k < r.length
  · rw [List.getElem?_append_left (by rw [ints_len]; exact hkr), ints_at (show r[k]? = some (r.getD k 0) by simp [hkr])]
    simp [arF, hkr, show k < 20 by omega]
  · rw [List.getElem?_append_right (by rw [ints_len]; omega), ints_len, List.drop_replicate, List.getElem?_replicate]
    by_cases hk : k < 20
    · rw [if_pos (by omega)]
      simp [arF, hkr, hk]
    · rw [if_neg (by omega), List.getElem?_eq_none (by simp; omega)]
theorem row_list {w : World} {b n : Nat} {t : TypeId} {v : Value} (h : w.rowIs b t n (fun _ => v)) : w.heap[b]? = some (.cells (List.replicate n v).toArray t (0, 0)) := by
  obtain ⟨c, h1, h2, h3⟩ := h
  have e : c = (List.replicate n v).toArray := by
    apply Array.ext
    · simp [h2]
    · intro i hi _
      have := h3 i (by omega)
      rw [Array.getElem?_eq_getElem hi] at this
      injection this with this
      rw [this]
      simp
  rw [h1, e]
set_option maxRecDepth 100000 in
set_option maxHeartbeats 3200000 in
theorem arrayOf_any (g n c B : Nat) (r : List Int) (w : World) (ho : w.ownsRow B 3 1 (.slice (some ⟨g, 0, none⟩) n c) n (ints r)) (hn : n ≤ 20) :
    Calls Try.prog 71 #[.slice (some ⟨g, 0, none⟩) n c] w fun e w' => e = .returned (.agg (arA r)) ∧ Below w.heap.size w w' := by
  have hrl : r.length = n := by have := ho.1; rw [ints_len] at this; omega
  have hsrc := fun j u (h : (ints r)[j]? = some u) => show w.cell? ((⟨g, 0, none⟩ : Addr).add j) = some u from by
    rw [add_at, Nat.zero_add]
    have hj : j < r.length := by
      rcases Nat.lt_or_ge j r.length with h1 | h1
      · exact h1
      · rw [List.getElem?_eq_none (by rw [ints_len]; exact h1)] at h; cases h
    rw [(WCells.own ho).cel j (by omega), ← h]
    exact (ints_at (by simp [hj])).symm
  have hgl := (ho.lt g rfl).2
  have HS := hide hsrc; have HRL := Lib.hid hrl
  clear hsrc hrl ho
  go_enter Try.func71, Try.ntmps71
  go_wp2_with fail
  have hrow0 : ((w.alloc (.cells #[.int .i64 0, .int .i64 0, .int .i64 0, .int .i64 0, .int .i64 0, .int .i64 0, .int .i64 0, .int .i64 0, .int .i64 0, .int .i64 0, .int .i64 0, .int .i64 0, .int .i64 0, .int .i64 0, .int .i64 0, .int .i64 0, .int .i64 0, .int .i64 0, .int .i64 0, .int .i64 0] 93)).alloc (.cells #[.int .i64 0, .int .i64 0, .int .i64 0, .int .i64 0, .int .i64 0, .int .i64 0, .int .i64 0, .int .i64 0, .int .i64 0, .int .i64 0, .int .i64 0, .int .i64 0, .int .i64 0, .int .i64 0, .int .i64 0, .int .i64 0, .int .i64 0, .int .i64 0, .int .i64 0, .int .i64 0] 93)).rowIs (w.heap.size + 1) 93 20 (fun _ => .int .i64 0) := by
    have := World.rowIs_alloc (w.alloc (.cells #[.int .i64 0, .int .i64 0, .int .i64 0, .int .i64 0, .int .i64 0, .int .i64 0, .int .i64 0, .int .i64 0, .int .i64 0, .int .i64 0, .int .i64 0, .int .i64 0, .int .i64 0, .int .i64 0, .int .i64 0, .int .i64 0, .int .i64 0, .int .i64 0, .int .i64 0, .int .i64 0] 93)) #[.int .i64 0, .int .i64 0, .int .i64 0, .int .i64 0, .int .i64 0, .int .i64 0, .int .i64 0, .int .i64 0, .int .i64 0, .int .i64 0, .int .i64 0, .int .i64 0, .int .i64 0, .int .i64 0, .int .i64 0, .int .i64 0, .int .i64 0, .int .i64 0, .int .i64 0, .int .i64 0] 93 (fun _ => .int .i64 0) (by
      intro i hi
      have hi' : i < 20 := hi
      match i, hi' with
      | 0, _ => rfl
      | 1, _ => rfl
      | 2, _ => rfl
      | 3, _ => rfl
      | 4, _ => rfl
      | 5, _ => rfl
      | 6, _ => rfl
      | 7, _ => rfl
      | 8, _ => rfl
      | 9, _ => rfl
      | 10, _ => rfl
      | 11, _ => rfl
      | 12, _ => rfl
      | 13, _ => rfl
      | 14, _ => rfl
      | 15, _ => rfl
      | 16, _ => rfl
      | 17, _ => rfl
      | 18, _ => rfl
      | 19, _ => rfl
      | i + 20, h => omega)
    simpa using this
  have hb0 : Below w.heap.size w ((w.alloc (.cells #[.int .i64 0, .int .i64 0, .int .i64 0, .int .i64 0, .int .i64 0, .int .i64 0, .int .i64 0, .int .i64 0, .int .i64 0, .int .i64 0, .int .i64 0, .int .i64 0, .int .i64 0, .int .i64 0, .int .i64 0, .int .i64 0, .int .i64 0, .int .i64 0, .int .i64 0, .int .i64 0] 93)).alloc (.cells #[.int .i64 0, .int .i64 0, .int .i64 0, .int .i64 0, .int .i64 0, .int .i64 0, .int .i64 0, .int .i64 0, .int .i64 0, .int .i64 0, .int .i64 0, .int .i64 0, .int .i64 0, .int .i64 0, .int .i64 0, .int .i64 0, .int .i64 0, .int .i64 0, .int .i64 0, .int .i64 0] 93)) := (by repeat (first | with_reducible exact Below.refl _ _ | with_reducible assumption | (with_reducible refine Below.trans ?_ (Below.mono (by assumption) (by first | omega | (simp <;> omega)))) | with_reducible apply Below.drew | with_reducible apply below_drewN | (with_reducible refine Below.alloc ?_ (by first | omega | (simp <;> omega)) _) | (with_reducible refine Below.setCell ?_ (by first | omega | (simp <;> omega)) _)))
  have hres0 : ((w.alloc (.cells #[.int .i64 0, .int .i64 0, .int .i64 0, .int .i64 0, .int .i64 0, .int .i64 0, .int .i64 0, .int .i64 0, .int .i64 0, .int .i64 0, .int .i64 0, .int .i64 0, .int .i64 0, .int .i64 0, .int .i64 0, .int .i64 0, .int .i64 0, .int .i64 0, .int .i64 0, .int .i64 0] 93)).alloc (.cells #[.int .i64 0, .int .i64 0, .int .i64 0, .int .i64 0, .int .i64 0, .int .i64 0, .int .i64 0, .int .i64 0, .int .i64 0, .int .i64 0, .int .i64 0, .int .i64 0, .int .i64 0, .int .i64 0, .int .i64 0, .int .i64 0, .int .i64 0, .int .i64 0, .int .i64 0, .int .i64 0] 93)).rowIs w.heap.size 93 20 (fun _ => .int .i64 0) := by
    refine World.rowIs.alloc ?_ _
    have := World.rowIs_alloc w #[.int .i64 0, .int .i64 0, .int .i64 0, .int .i64 0, .int .i64 0, .int .i64 0, .int .i64 0, .int .i64 0, .int .i64 0, .int .i64 0, .int .i64 0, .int .i64 0, .int .i64 0, .int .i64 0, .int .i64 0, .int .i64 0, .int .i64 0, .int .i64 0, .int .i64 0, .int .i64 0] 93 (fun _ => .int .i64 0) (by
      intro i hi
      have hi' : i < 20 := hi
      match i, hi' with
      | 0, _ => rfl
      | 1, _ => rfl
      | 2, _ => rfl
      | 3, _ => rfl
      | 4, _ => rfl
      | 5, _ => rfl
      | 6, _ => rfl
      | 7, _ => rfl
      | 8, _ => rfl
      | 9, _ => rfl
      | 10, _ => rfl
      | 11, _ => rfl
      | 12, _ => rfl
      | 13, _ => rfl
      | 14, _ => rfl
      | 15, _ => rfl
      | 16, _ => rfl
      | 17, _ => rfl
      | 18, _ => rfl
      | 19, _ => rfl
      | i + 20, h => omega)
    simpa using this
  generalize (w.alloc (.cells #[.int .i64 0, .int .i64 0, .int .i64 0, .int .i64 0, .int .i64 0, .int .i64 0, .int .i64 0, .int .i64 0, .int .i64 0, .int .i64 0, .int .i64 0, .int .i64 0, .int .i64 0, .int .i64 0, .int .i64 0, .int .i64 0, .int .i64 0, .int .i64 0, .int .i64 0, .int .i64 0] 93)).alloc (.cells #[.int .i64 0, .int .i64 0, .int .i64 0, .int .i64 0, .int .i64 0, .int .i64 0, .int .i64 0, .int .i64 0, .int .i64 0, .int .i64 0, .int .i64 0, .int .i64 0, .int .i64 0, .int .i64 0, .int .i64 0, .int .i64 0, .int .i64 0, .int .i64 0, .int .i64 0, .int .i64 0] 93) = w2 at *
  have HR0 := hide hrow0; have HRES := hide hres0; have HB0 := hide hb0
  clear hrow0 hres0 hb0
  go_loopw [5] (fun i wr => ∃ k : Nat, i = .int .i64 (k : Int) ∧ k ≤ 20 ∧ Hid (wr.rowIs (w.heap.size + 1) 93 20 (fun j => if j < k then .int .i64 (-1) else .int .i64 0)) ∧ Hid (wr.rowIs w.heap.size 93 20 (fun _ => .int .i64 0)) ∧ Hid (Below w.heap.size w wr)) (fun i _ => 20 - (intOf i).toNat)
  case atStart => exact ⟨0, rfl, by omega, hide ((unhide HR0).congr (fun i _ => by simp)), HRES, HB0⟩
  case round =>
    obtain ⟨k, rfl, hk, HR, HRS, HB⟩ := hrel
    clear HR0 HRES HB0
    by_cases hlt : k < 20
    · have hl := (unhide HR).lt
      have hc := (unhide HR).cell hlt
      rw [if_neg (by omega)] at hc
      have hf := (unhide HR).frozen k
      have hrow := ((unhide HR).set k (.int .i64 (-1))).congr (g := fun j => if j < k + 1 then .int .i64 (-1) else .int .i64 0) (fun j hj => by
        by_cases e : j = k
        · simp [e]
        · by_cases e2 : j < k
          · simp [e, e2, show j < k + 1 by omega]
          · simp [e, e2, show ¬ j < k + 1 by omega])
      have hres := (unhide HRS).setOther (a := ⟨w.heap.size + 1, k, none⟩) (by show w.heap.size ≠ w.heap.size + 1; omega) (.int .i64 (-1))
      have hb := (unhide HB).setCell (p := ⟨w.heap.size + 1, k, none⟩) (by show w.heap.size ≤ w.heap.size + 1; omega) (.int .i64 (-1))
      have H1 := hide hrow; have H2 := hide hres; have H3 := hide hb
      clear hrow hres hb HR HRS HB
      have t1 : (0 : Int) ≤ (k : Int) := by omega
      have t2 : (k : Int) < 20 := by omega
      go_wp2_with fail
      go_roundw
      case rel => exact ⟨k + 1, by go_num, by omega, H1, H2, H3⟩
      case measure => (simp [intOf] <;> omega)
    · obtain rfl : k = 20 := by omega
      have hrl := row_list ((unhide HR).congr (g := fun _ => .int .i64 (-1)) (fun j hj => by simp [hj]))
      have hcs : (ints r).length = Nat.min n 20 := by rw [ints_len, HRL.out]; exact (Nat.min_eq_left hn).symm
      have hrn := HRL.out
      have hone : ∀ v ∈ ints r, v.oneCell' = true := fun v hv => by
        obtain ⟨x, _, rfl⟩ := List.mem_map.1 hv
        rfl
      have hsz : w.heap.size + 1 < wr.heap.size := (unhide HR).lt
      have HRL2 := hide hrl; have HCS := Lib.hid hcs; have HONE := hide hone
      clear hrl hcs hone HR
      go_upto_region 8 with (with_reducible refine wpList_copy_splice rfl (.tmp 11) (.tmp 12) 36 36 rfl 3 Try.underlying36 (by kernel_rfl) (some ⟨w.heap.size + 1, 0, none⟩) (some ⟨g, 0, none⟩) 20 20 n c rfl rfl (w.heap.size + 1) 0 (List.replicate 20 (.int .i64 (-1))) 93 (unhide HRL2) (ints r) HCS.out ?hp ?hfit (unhide HONE) (w.heap.size + 1) wr (Below.refl _ _) (Nat.le_refl _) ?_; (case hp => exact fun _ => ⟨rfl, _, rfl, fun j v h => ((unhide HB).cell (by rw [block_add]; exact hgl)).trans ((unhide HS) j v h)⟩); (case hfit => rw [ints_len, List.length_replicate, hrn]; omega); intro w5 HG5 hb5)
      have hz5 := hb5.size
      have hg5 := unhide HG5
      rw [arA_splice (by rw [hrn]; omega)] at hg5
      have hrs5 := row_list ((unhide HRS).of_block (hb5.block _ (by omega)))
      have hbl := (unhide HB).trans (hb5.mono (by omega))
      have hlw : w.heap.size < w5.heap.size := by omega
      have hs1 := arA_size r
      have hs2 := arA_one r
      have hsr := setRow_heap w5 w.heap.size _ (arA r) _ _ hrs5
      have hb6 := below_setRow hbl (Nat.le_refl _) (arA r)
      have hinf : (Try.prog.info? 93).map (·.size) = some (arA r).size := by rw [hs1]; kernel_rfl
      have HSR := hide hsr; have HB6 := hide hb6; have HG6 := hide hg5; have HRS5 := hide hrs5; have HINF := Lib.hid hinf; have HS2 := Lib.hid hs2; have HS1 := Lib.hid hs1
      clear hsr hb6 hg5 hrs5 hinf hs1 hs2 hbl hb5 HG5 HRL2 HCS HONE HB HRS HS HRL hrn
      generalize hAR : arA r = AR at *
      have HAR := Lib.hid hAR
      clear hAR
      refine wp_region_list ?_
      refine wpList_load_row rfl 93 (.tmp 3) rfl (w.heap.size + 1) rfl 93 AR (0, 0) _ (unhide HG6) Try.underlying93 rfl HINF.out ?_
      refine wpList_store_row rfl 93 (.tmp 2) (.tmp 14) rfl w.heap.size AR rfl rfl 93 _ (unhide HRS5) HINF.out (by rw [HS1.out]; simp) HS2.out ?_
      go_wp2_with fail
      exact bodyPost_ret (v := .agg AR) (results_cell_row Try.results71 _ _ w.heap.size 93 AR (0, 0) _ rfl (unhide HSR) Try.underlying93 rfl HINF.out) rfl ⟨by rw [HAR.out], unhide HB6⟩
end Go.Proofs.Ytjggjegjhcpjhaa

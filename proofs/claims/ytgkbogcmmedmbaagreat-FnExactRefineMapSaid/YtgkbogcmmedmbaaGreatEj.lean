/-
  Chapter 5: lists of fractions from 0 to 1: areUnits.
-/
import Derived.Test.YtgkbogcmmedmbaaGreatCi
namespace Go.Proofs.YtgkbogcmmedmbaaGreat
open Go.RowKit Rm

def unB (xs : List Fr) : Bool := xs.all fun x => uB x.1 x.2
theorem unB_at {xs : List Fr} {k : Nat} (hk : k < xs.length) (h : uB (fAt xs k).1 (fAt xs k).2 = false) : unB xs = false := by
  cases hc : unB xs with
  | false => rfl
  | true =>
    have e : fAt xs k = xs[k] := by simp [fAt, hk]
    have := List.all_eq_true.1 hc _ (List.getElem_mem hk)
    rw [← e, h] at this
    exact this.symm
theorem unB_all {xs : List Fr} (h : ∀ k, k < xs.length → uB (fAt xs k).1 (fAt xs k).2 = true) : unB xs = true := by
  refine List.all_eq_true.2 fun x hx => ?_
  obtain ⟨k, hk, e⟩ := List.mem_iff_getElem.1 hx
  have := h k hk
  rw [show fAt xs k = xs[k] by simp [fAt, hk], e] at this
  exact this
theorem unB_rats {xs : List Fr} (h : unB xs = true) : ∃ rs : List Rat, xs = rs.map qf ∧ ∀ r ∈ rs, Un r := by
  refine lift_list (f := qf) (p := Un) fun x hx => ?_
  have hu := List.all_eq_true.1 h x hx
  obtain ⟨y, h1, h2, h3, h4, h5⟩ := uB_rat hu
  refine ⟨y, ?_, ⟨h3, h4, h5⟩⟩
  have e1 : x.1 = y.num := h1
  have e2 : x.2 = (y.den : Int) := h2
  exact Prod.ext e1 e2
set_option maxRecDepth 100000 in
theorem areUnits1_any (a b : Int) (w : World) : Calls Tryz.prog 67 #[.agg #[.int .i64 (a), .int .i64 (b)]] w fun e w' => e = .returned (.bool (!uB a b)) ∧ Below w.heap.size w w' := by
  have h := fun W => isUnit_any a b W
  generalize uB a b = z at *
  have H := hide h; clear h
  go_enter Tryz.func67, Tryz.ntmps67
  go_wp2_with ((go_at_call 56; (with_reducible refine ((unhide H) _).mono ?_); rintro e w1 ⟨rfl, hbw1⟩; obtain ⟨hcw1, hfw1⟩ := bcell hbw1; have hzw1 := hbw1.size; (try simp at hzw1); (try ((have kw1w0 := (bnew hbw1) (w.heap.size) ?pf); (case pf => (first | omega | (simp; done) | (simp; omega))); obtain ⟨kcw1w0, kfw1w0, klw1w0⟩ := kw1w0))))
  go_ret
  exact ⟨rfl, (by repeat (first | with_reducible exact Below.refl _ _ | with_reducible assumption | (with_reducible refine Below.trans ?_ (Below.mono (by assumption) (by first | omega | (simp <;> omega)))) | with_reducible apply Below.drew | with_reducible apply below_drewN | (with_reducible refine Below.alloc ?_ (by first | omega | (simp <;> omega)) _) | (with_reducible refine Below.setCell ?_ (by first | omega | (simp <;> omega)) _)))⟩
set_option maxRecDepth 100000 in
set_option maxHeartbeats 1600000 in
theorem indexUnits_any (A : Option Addr) (n c base : Nat) (xs : List Fr) (w : World) (hx : w.ownsRow base 46 2 (.slice A n c) n (frcs xs)) (hn : n ≤ 1048576) :
    Calls Tryz.prog 83 #[.slice A n c, .func (.func 67) #[] #[]] w fun e w' => ∃ i : Int, e = .returned (.int .i64 i) ∧ (0 ≤ i ↔ unB xs = false) ∧ Below w.heap.size w w' := by
  have hlen : xs.length = n := by have := hx.1; rw [frcs_len] at this; omega
  have HX := hide hx; have HL := Lib.hid hlen; clear hx hlen
  go_enter Tryz.func83, Tryz.ntmps83
  go_wp2
  go_loopw [8] (fun i wr => ∃ k : Nat, i = .int .i64 k ∧ k ≤ n ∧ Hid (∀ t, t < k → uB (fAt xs t).1 (fAt xs t).2 = true) ∧ Below w.heap.size w wr) (fun i _ => n - (intOf i).toNat)
  case atStart => exact ⟨0, rfl, Nat.zero_le _, hide (fun t ht => absurd ht (by omega)), Below.refl _ _⟩
  case round =>
    obtain ⟨k, rfl, hk, hup, hbwr⟩ := hrel
    have hsr := hbwr.size
    by_cases hlt : k < n
    · rcases hp : fAt xs k with ⟨a, b⟩
      obtain ⟨g, rfl, hg, _, f0, f1⟩ := frs_cells (own_below (unhide HX) hbwr) hlt hp
      have hu := fun W => areUnits1_any a b W
      have HB := hide hbwr; clear hbwr
      cases hz : uB a b with
      | false =>
        rw [hz] at hu
        have HN := Lib.hid (unB_at (xs := xs) (k := k) (by rw [HL.out]; exact hlt) (by rw [hp]; exact hz))
        have HU := hide hu
        clear hu hz hp hup
        go_wp2_with (go_at_call 67; (with_reducible refine ((unhide HU) _).mono ?_); rintro e w1 ⟨rfl, hbw1⟩)
        have hb := unhide HB
        go_ret
        exact ⟨(k : Int), rfl, ⟨fun _ => HN.out, fun _ => by omega⟩, (by repeat (first | with_reducible exact Below.refl _ _ | with_reducible assumption | (with_reducible refine Below.trans ?_ (Below.mono (by assumption) (by first | omega | (simp <;> omega)))) | with_reducible apply Below.drew | with_reducible apply below_drewN | (with_reducible refine Below.alloc ?_ (by first | omega | (simp <;> omega)) _) | (with_reducible refine Below.setCell ?_ (by first | omega | (simp <;> omega)) _)))⟩
      | true =>
        rw [hz] at hu
        have HUP := hide (show ∀ t, t < k + 1 → uB (fAt xs t).1 (fAt xs t).2 = true from fun t ht => by
          by_cases htk : t = k
          · rw [htk, hp]; exact hz
          · exact (unhide hup) t (by omega))
        have HU := hide hu
        clear hu hz hp hup
        go_wp2_with (go_at_call 67; (with_reducible refine ((unhide HU) _).mono ?_); rintro e w1 ⟨rfl, hbw1⟩)
        have hb := unhide HB
        have hz : Below w.heap.size w w1 := (by repeat (first | with_reducible exact Below.refl _ _ | with_reducible assumption | (with_reducible refine Below.trans ?_ (Below.mono (by assumption) (by first | omega | (simp <;> omega)))) | with_reducible apply Below.drew | with_reducible apply below_drewN | (with_reducible refine Below.alloc ?_ (by first | omega | (simp <;> omega)) _) | (with_reducible refine Below.setCell ?_ (by first | omega | (simp <;> omega)) _)))
        have HZ := hide hz
        clear hz hb hbw1
        go_roundw
        case rel => exact ⟨k + 1, by go_num, by omega, HUP, unhide HZ⟩
        case measure => simp [intOf]; omega
    · have hke : k = n := by omega
      have hal : unB xs = true := unB_all fun t ht => (unhide hup) t (by rw [hke, ← HL.out]; exact ht)
      have HN := Lib.hid hal
      have HB := hide hbwr
      clear hke hal hbwr hup
      go_wp2
      go_ret
      exact ⟨-1, rfl, ⟨fun h => (by omega), fun h => (by rw [HN.out] at h; cases h)⟩, unhide HB⟩
set_option maxRecDepth 100000 in
theorem areUnits_any (A : Option Addr) (n c base : Nat) (xs : List Fr) (w : World) (hx : w.ownsRow base 46 2 (.slice A n c) n (frcs xs)) (hn : n ≤ 1048576) :
    Calls Tryz.prog 47 #[.slice A n c] w fun e w' => e = .returned (.bool (unB xs)) ∧ Below w.heap.size w w' := by
  have hc : ∀ W : World, W.ownsRow base 46 2 (.slice A n c) n (frcs xs) → Calls Tryz.prog 66 #[.slice A n c, .func (.func 67) #[] #[]] W fun e w' => e = .returned (.bool (!unB xs)) ∧ Below W.heap.size W w' := by
    intro W hW
    have hi := indexUnits_any A n c base xs W hW hn
    have HI := hide hi; clear hi hW
    go_enter Tryz.func66, Tryz.ntmps66
    go_wp2_with fail
    refine (unhide HI).mono ?_
    rintro e w1 ⟨i, rfl, hi, hb⟩
    cases hu : unB xs with
    | false =>
      have h0 := hi.2 hu
      have HU := Lib.hid hu
      clear hi hu
      go_wp2_with fail
      go_ret
      exact ⟨by rw [HU.out]; simp, hb⟩
    | true =>
      have h0 : i < 0 := by
        rcases Int.lt_or_le i 0 with h | h
        · exact h
        · rw [hi.1 h] at hu; cases hu
      have HU := Lib.hid hu
      clear hi hu
      go_wp2_with fail
      go_ret
      exact ⟨by rw [HU.out]; simp; omega, hb⟩
  have HC := hide (hc w hx)
  clear hc hx
  generalize unB xs = z at *
  go_enter Tryz.func47, Tryz.ntmps47
  go_wp2_with fail
  refine (unhide HC).mono ?_
  rintro e w1 ⟨rfl, hb⟩
  go_wp2_with fail
  go_ret
  exact ⟨by simp, hb⟩
end Go.Proofs.YtgkbogcmmedmbaaGreat

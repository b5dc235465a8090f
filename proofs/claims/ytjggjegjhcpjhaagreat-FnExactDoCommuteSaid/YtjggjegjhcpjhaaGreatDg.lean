/-
  Chapter 5: the map that an operation makes.
-/
import Derived.Test.YtjggjegjhcpjhaaGreatDf
import Derived.Test.YtjggjegjhcpjhaaGreatSim
namespace Go.Proofs.YtjggjegjhcpjhaaGreat
open Go.RowKit Rm

set_option maxRecDepth 100000 in
set_option maxHeartbeats 1600000 in
theorem map_composition (v : Value) (po : Option (List Rat)) (vm : Rat → Option Rat) (w : World) (hp : ∀ l, po = some l → (∀ x ∈ l, Un x) ∧ 1 ≤ l.length ∧ l.length ≤ 1000) (hs : ∀ l, pmO po vm = some l → SMap l)
    (HP : Hid (∀ W : World, Below w.heap.size w W → Calls Tryz.prog 191 #[v] W fun e w' => PlO W.heap.size po e w' ∧ Below W.heap.size W w'))
    (HV : Hid (∀ x, Un x → ∀ W : World, Below w.heap.size w W → Calls Tryz.prog 123 #[.iface 70 v, .agg #[.int .i64 (x.num), .int .i64 (x.den)]] W fun e w' => e = .returned (.tuple #[.agg #[.int .i64 (oN (vm x)), .int .i64 (oD (vm x))], .bool (vm x).isSome]) ∧ Below W.heap.size W w')) :
    Calls Tryz.prog 44 #[.iface 70 v] w fun e w' => PtO w.heap.size ((pmO po vm).bind smO) e w' ∧ Below w.heap.size w w' := by
  have hpm := points_composition v po vm w hp HP HV
  have HPM := hide hpm
  clear hpm HP HV hp
  cases hq : pmO po vm with
  | none =>
    have HQ := Lib.hid hq
    clear hq hs
    go_enter Tryz.func44, Tryz.ntmps44
    go_wp2_with (go_at_call 90; (with_reducible refine (unhide HPM).mono ?_); rintro e w1 ⟨⟨_, h2⟩, hbw1⟩; obtain rfl := h2 HQ.out; clear h2)
    go_ret2
    exact ⟨⟨fun l h => (by cases h), fun _ => rfl⟩, hbw1⟩
  | some l =>
    have hS := hs l hq
    have hlo := hS.lo
    have hhi := hS.hi
    have HQ := Lib.hid hq
    clear hq hs
    obtain ⟨m, hm⟩ : ∃ m, l.length = m + 1 := ⟨l.length - 1, by omega⟩
    have hsim := fun (g c base : Nat) (W : World) ho => iSimple_map g m c base l W ho hS
    have hsm : smO l = if (simK l (m + 1) (m + 1)).length ≤ 12 then some (simK l (m + 1) (m + 1)) else none := by unfold smO; rw [hm]
    have hkl := simK_len l (m + 1) (m + 1)
    change Calls _ _ _ _ fun e w' => PtO w.heap.size (smO l) e w' ∧ _
    rw [hsm]
    generalize simK l (m + 1) (m + 1) = r at *
    have HSI := hide hsim
    have HM := Lib.hid hm
    clear hsim hsm hm
    by_cases hr : r.length ≤ 12
    · rw [if_pos hr]
      have hr2 : ¬ ((12 : Int) < (r.length : Int)) := by omega
      have hr3 : decide ((12 : Int) < (r.length : Int)) = false := decide_eq_false hr2
      go_enter Tryz.func44, Tryz.ntmps44
      go_wp2_with (first
        | (go_at_call 90; (with_reducible refine (unhide HPM).mono ?_); rintro e w1 ⟨⟨h1, _⟩, hbw1⟩; obtain ⟨A1, d1, rfl, ho1⟩ := h1 l HQ.out; clear h1; obtain ⟨g, rfl, _, _⟩ := own_some ho1 (by omega); rw [HM.out] at ho1; have HO1 := hide ho1; clear ho1; rw [HM.out])
        | (go_at_call 91; (with_reducible refine ((unhide HSI) g d1 _ _ (unhide HO1)).mono ?_); rintro e w2 ⟨u, rfl, ho2, hbw2⟩; obtain ⟨A2, d2, rfl⟩ := own_slice ho2; have HO2 := hide ho2; clear ho2))
      have hz := hbw1.trans (hbw2.mono hbw1.size)
      have hs1 := hbw1.size
      go_ret2
      exact ⟨⟨fun l h => (by injection h with h; subst h; exact ⟨A2, d2, rfl, (unhide HO2).mono hs1⟩), fun h => (by cases h)⟩, hz⟩
    · rw [if_neg hr]
      have hr2 : (12 : Int) < (r.length : Int) := by omega
      go_enter Tryz.func44, Tryz.ntmps44
      go_wp2_with (first
        | (go_at_call 90; (with_reducible refine (unhide HPM).mono ?_); rintro e w1 ⟨⟨h1, _⟩, hbw1⟩; obtain ⟨A1, d1, rfl, ho1⟩ := h1 l HQ.out; clear h1; obtain ⟨g, rfl, _, _⟩ := own_some ho1 (by omega); rw [HM.out] at ho1; have HO1 := hide ho1; clear ho1; rw [HM.out])
        | (go_at_call 91; (with_reducible refine ((unhide HSI) g d1 _ _ (unhide HO1)).mono ?_); rintro e w2 ⟨u, rfl, ho2, hbw2⟩; obtain ⟨A2, d2, rfl⟩ := own_slice ho2; clear ho2))
      have hz := hbw1.trans (hbw2.mono hbw1.size)
      go_ret2
      exact ⟨⟨fun l h => (by cases h), fun _ => rfl⟩, hz⟩
set_option maxRecDepth 100000 in
set_option maxHeartbeats 1600000 in
theorem map_halfSum (v : Value) (po : Option (List Rat)) (vm : Rat → Option Rat) (w : World) (hp : ∀ l, po = some l → (∀ x ∈ l, Un x) ∧ 1 ≤ l.length ∧ l.length ≤ 1000) (hs : ∀ l, pmO po vm = some l → SMap l)
    (HP : Hid (∀ W : World, Below w.heap.size w W → Calls Tryz.prog 203 #[v] W fun e w' => PlO W.heap.size po e w' ∧ Below W.heap.size W w'))
    (HV : Hid (∀ x, Un x → ∀ W : World, Below w.heap.size w W → Calls Tryz.prog 123 #[.iface 154 v, .agg #[.int .i64 (x.num), .int .i64 (x.den)]] W fun e w' => e = .returned (.tuple #[.agg #[.int .i64 (oN (vm x)), .int .i64 (oD (vm x))], .bool (vm x).isSome]) ∧ Below W.heap.size W w')) :
    Calls Tryz.prog 44 #[.iface 154 v] w fun e w' => PtO w.heap.size ((pmO po vm).bind smO) e w' ∧ Below w.heap.size w w' := by
  have hpm := points_halfSum v po vm w hp HP HV
  have HPM := hide hpm
  clear hpm HP HV hp
  cases hq : pmO po vm with
  | none =>
    have HQ := Lib.hid hq
    clear hq hs
    go_enter Tryz.func44, Tryz.ntmps44
    go_wp2_with (go_at_call 90; (with_reducible refine (unhide HPM).mono ?_); rintro e w1 ⟨⟨_, h2⟩, hbw1⟩; obtain rfl := h2 HQ.out; clear h2)
    go_ret2
    exact ⟨⟨fun l h => (by cases h), fun _ => rfl⟩, hbw1⟩
  | some l =>
    have hS := hs l hq
    have hlo := hS.lo
    have hhi := hS.hi
    have HQ := Lib.hid hq
    clear hq hs
    obtain ⟨m, hm⟩ : ∃ m, l.length = m + 1 := ⟨l.length - 1, by omega⟩
    have hsim := fun (g c base : Nat) (W : World) ho => iSimple_map g m c base l W ho hS
    have hsm : smO l = if (simK l (m + 1) (m + 1)).length ≤ 12 then some (simK l (m + 1) (m + 1)) else none := by unfold smO; rw [hm]
    have hkl := simK_len l (m + 1) (m + 1)
    change Calls _ _ _ _ fun e w' => PtO w.heap.size (smO l) e w' ∧ _
    rw [hsm]
    generalize simK l (m + 1) (m + 1) = r at *
    have HSI := hide hsim
    have HM := Lib.hid hm
    clear hsim hsm hm
    by_cases hr : r.length ≤ 12
    · rw [if_pos hr]
      have hr2 : ¬ ((12 : Int) < (r.length : Int)) := by omega
      have hr3 : decide ((12 : Int) < (r.length : Int)) = false := decide_eq_false hr2
      go_enter Tryz.func44, Tryz.ntmps44
      go_wp2_with (first
        | (go_at_call 90; (with_reducible refine (unhide HPM).mono ?_); rintro e w1 ⟨⟨h1, _⟩, hbw1⟩; obtain ⟨A1, d1, rfl, ho1⟩ := h1 l HQ.out; clear h1; obtain ⟨g, rfl, _, _⟩ := own_some ho1 (by omega); rw [HM.out] at ho1; have HO1 := hide ho1; clear ho1; rw [HM.out])
        | (go_at_call 91; (with_reducible refine ((unhide HSI) g d1 _ _ (unhide HO1)).mono ?_); rintro e w2 ⟨u, rfl, ho2, hbw2⟩; obtain ⟨A2, d2, rfl⟩ := own_slice ho2; have HO2 := hide ho2; clear ho2))
      have hz := hbw1.trans (hbw2.mono hbw1.size)
      have hs1 := hbw1.size
      go_ret2
      exact ⟨⟨fun l h => (by injection h with h; subst h; exact ⟨A2, d2, rfl, (unhide HO2).mono hs1⟩), fun h => (by cases h)⟩, hz⟩
    · rw [if_neg hr]
      have hr2 : (12 : Int) < (r.length : Int) := by omega
      go_enter Tryz.func44, Tryz.ntmps44
      go_wp2_with (first
        | (go_at_call 90; (with_reducible refine (unhide HPM).mono ?_); rintro e w1 ⟨⟨h1, _⟩, hbw1⟩; obtain ⟨A1, d1, rfl, ho1⟩ := h1 l HQ.out; clear h1; obtain ⟨g, rfl, _, _⟩ := own_some ho1 (by omega); rw [HM.out] at ho1; have HO1 := hide ho1; clear ho1; rw [HM.out])
        | (go_at_call 91; (with_reducible refine ((unhide HSI) g d1 _ _ (unhide HO1)).mono ?_); rintro e w2 ⟨u, rfl, ho2, hbw2⟩; obtain ⟨A2, d2, rfl⟩ := own_slice ho2; clear ho2))
      have hz := hbw1.trans (hbw2.mono hbw1.size)
      go_ret2
      exact ⟨⟨fun l h => (by cases h), fun _ => rfl⟩, hz⟩
set_option maxRecDepth 100000 in
set_option maxHeartbeats 1600000 in
theorem map_cut (v : Value) (po : Option (List Rat)) (vm : Rat → Option Rat) (w : World) (hp : ∀ l, po = some l → (∀ x ∈ l, Un x) ∧ 1 ≤ l.length ∧ l.length ≤ 1000) (hs : ∀ l, pmO po vm = some l → SMap l)
    (HP : Hid (∀ W : World, Below w.heap.size w W → Calls Tryz.prog 205 #[v] W fun e w' => PlO W.heap.size po e w' ∧ Below W.heap.size W w'))
    (HV : Hid (∀ x, Un x → ∀ W : World, Below w.heap.size w W → Calls Tryz.prog 123 #[.iface 156 v, .agg #[.int .i64 (x.num), .int .i64 (x.den)]] W fun e w' => e = .returned (.tuple #[.agg #[.int .i64 (oN (vm x)), .int .i64 (oD (vm x))], .bool (vm x).isSome]) ∧ Below W.heap.size W w')) :
    Calls Tryz.prog 44 #[.iface 156 v] w fun e w' => PtO w.heap.size ((pmO po vm).bind smO) e w' ∧ Below w.heap.size w w' := by
  have hpm := points_cut v po vm w hp HP HV
  have HPM := hide hpm
  clear hpm HP HV hp
  cases hq : pmO po vm with
  | none =>
    have HQ := Lib.hid hq
    clear hq hs
    go_enter Tryz.func44, Tryz.ntmps44
    go_wp2_with (go_at_call 90; (with_reducible refine (unhide HPM).mono ?_); rintro e w1 ⟨⟨_, h2⟩, hbw1⟩; obtain rfl := h2 HQ.out; clear h2)
    go_ret2
    exact ⟨⟨fun l h => (by cases h), fun _ => rfl⟩, hbw1⟩
  | some l =>
    have hS := hs l hq
    have hlo := hS.lo
    have hhi := hS.hi
    have HQ := Lib.hid hq
    clear hq hs
    obtain ⟨m, hm⟩ : ∃ m, l.length = m + 1 := ⟨l.length - 1, by omega⟩
    have hsim := fun (g c base : Nat) (W : World) ho => iSimple_map g m c base l W ho hS
    have hsm : smO l = if (simK l (m + 1) (m + 1)).length ≤ 12 then some (simK l (m + 1) (m + 1)) else none := by unfold smO; rw [hm]
    have hkl := simK_len l (m + 1) (m + 1)
    change Calls _ _ _ _ fun e w' => PtO w.heap.size (smO l) e w' ∧ _
    rw [hsm]
    generalize simK l (m + 1) (m + 1) = r at *
    have HSI := hide hsim
    have HM := Lib.hid hm
    clear hsim hsm hm
    by_cases hr : r.length ≤ 12
    · rw [if_pos hr]
      have hr2 : ¬ ((12 : Int) < (r.length : Int)) := by omega
      have hr3 : decide ((12 : Int) < (r.length : Int)) = false := decide_eq_false hr2
      go_enter Tryz.func44, Tryz.ntmps44
      go_wp2_with (first
        | (go_at_call 90; (with_reducible refine (unhide HPM).mono ?_); rintro e w1 ⟨⟨h1, _⟩, hbw1⟩; obtain ⟨A1, d1, rfl, ho1⟩ := h1 l HQ.out; clear h1; obtain ⟨g, rfl, _, _⟩ := own_some ho1 (by omega); rw [HM.out] at ho1; have HO1 := hide ho1; clear ho1; rw [HM.out])
        | (go_at_call 91; (with_reducible refine ((unhide HSI) g d1 _ _ (unhide HO1)).mono ?_); rintro e w2 ⟨u, rfl, ho2, hbw2⟩; obtain ⟨A2, d2, rfl⟩ := own_slice ho2; have HO2 := hide ho2; clear ho2))
      have hz := hbw1.trans (hbw2.mono hbw1.size)
      have hs1 := hbw1.size
      go_ret2
      exact ⟨⟨fun l h => (by injection h with h; subst h; exact ⟨A2, d2, rfl, (unhide HO2).mono hs1⟩), fun h => (by cases h)⟩, hz⟩
    · rw [if_neg hr]
      have hr2 : (12 : Int) < (r.length : Int) := by omega
      go_enter Tryz.func44, Tryz.ntmps44
      go_wp2_with (first
        | (go_at_call 90; (with_reducible refine (unhide HPM).mono ?_); rintro e w1 ⟨⟨h1, _⟩, hbw1⟩; obtain ⟨A1, d1, rfl, ho1⟩ := h1 l HQ.out; clear h1; obtain ⟨g, rfl, _, _⟩ := own_some ho1 (by omega); rw [HM.out] at ho1; have HO1 := hide ho1; clear ho1; rw [HM.out])
        | (go_at_call 91; (with_reducible refine ((unhide HSI) g d1 _ _ (unhide HO1)).mono ?_); rintro e w2 ⟨u, rfl, ho2, hbw2⟩; obtain ⟨A2, d2, rfl⟩ := own_slice ho2; clear ho2))
      have hz := hbw1.trans (hbw2.mono hbw1.size)
      go_ret2
      exact ⟨⟨fun l h => (by cases h), fun _ => rfl⟩, hz⟩
set_option maxRecDepth 100000 in
set_option maxHeartbeats 1600000 in
theorem map_refinement (v : Value) (po : Option (List Rat)) (vm : Rat → Option Rat) (w : World) (hp : ∀ l, po = some l → (∀ x ∈ l, Un x) ∧ 1 ≤ l.length ∧ l.length ≤ 1000) (hs : ∀ l, pmO po vm = some l → SMap l)
    (HP : Hid (∀ W : World, Below w.heap.size w W → Calls Tryz.prog 206 #[v] W fun e w' => PlO W.heap.size po e w' ∧ Below W.heap.size W w'))
    (HV : Hid (∀ x, Un x → ∀ W : World, Below w.heap.size w W → Calls Tryz.prog 123 #[.iface 159 v, .agg #[.int .i64 (x.num), .int .i64 (x.den)]] W fun e w' => e = .returned (.tuple #[.agg #[.int .i64 (oN (vm x)), .int .i64 (oD (vm x))], .bool (vm x).isSome]) ∧ Below W.heap.size W w')) :
    Calls Tryz.prog 44 #[.iface 159 v] w fun e w' => PtO w.heap.size ((pmO po vm).bind smO) e w' ∧ Below w.heap.size w w' := by
  have hpm := points_refinement v po vm w hp HP HV
  have HPM := hide hpm
  clear hpm HP HV hp
  cases hq : pmO po vm with
  | none =>
    have HQ := Lib.hid hq
    clear hq hs
    go_enter Tryz.func44, Tryz.ntmps44
    go_wp2_with (go_at_call 90; (with_reducible refine (unhide HPM).mono ?_); rintro e w1 ⟨⟨_, h2⟩, hbw1⟩; obtain rfl := h2 HQ.out; clear h2)
    go_ret2
    exact ⟨⟨fun l h => (by cases h), fun _ => rfl⟩, hbw1⟩
  | some l =>
    have hS := hs l hq
    have hlo := hS.lo
    have hhi := hS.hi
    have HQ := Lib.hid hq
    clear hq hs
    obtain ⟨m, hm⟩ : ∃ m, l.length = m + 1 := ⟨l.length - 1, by omega⟩
    have hsim := fun (g c base : Nat) (W : World) ho => iSimple_map g m c base l W ho hS
    have hsm : smO l = if (simK l (m + 1) (m + 1)).length ≤ 12 then some (simK l (m + 1) (m + 1)) else none := by unfold smO; rw [hm]
    have hkl := simK_len l (m + 1) (m + 1)
    change Calls _ _ _ _ fun e w' => PtO w.heap.size (smO l) e w' ∧ _
    rw [hsm]
    generalize simK l (m + 1) (m + 1) = r at *
    have HSI := hide hsim
    have HM := Lib.hid hm
    clear hsim hsm hm
    by_cases hr : r.length ≤ 12
    · rw [if_pos hr]
      have hr2 : ¬ ((12 : Int) < (r.length : Int)) := by omega
      have hr3 : decide ((12 : Int) < (r.length : Int)) = false := decide_eq_false hr2
      go_enter Tryz.func44, Tryz.ntmps44
      go_wp2_with (first
        | (go_at_call 90; (with_reducible refine (unhide HPM).mono ?_); rintro e w1 ⟨⟨h1, _⟩, hbw1⟩; obtain ⟨A1, d1, rfl, ho1⟩ := h1 l HQ.out; clear h1; obtain ⟨g, rfl, _, _⟩ := own_some ho1 (by omega); rw [HM.out] at ho1; have HO1 := hide ho1; clear ho1; rw [HM.out])
        | (go_at_call 91; (with_reducible refine ((unhide HSI) g d1 _ _ (unhide HO1)).mono ?_); rintro e w2 ⟨u, rfl, ho2, hbw2⟩; obtain ⟨A2, d2, rfl⟩ := own_slice ho2; have HO2 := hide ho2; clear ho2))
      have hz := hbw1.trans (hbw2.mono hbw1.size)
      have hs1 := hbw1.size
      go_ret2
      exact ⟨⟨fun l h => (by injection h with h; subst h; exact ⟨A2, d2, rfl, (unhide HO2).mono hs1⟩), fun h => (by cases h)⟩, hz⟩
    · rw [if_neg hr]
      have hr2 : (12 : Int) < (r.length : Int) := by omega
      go_enter Tryz.func44, Tryz.ntmps44
      go_wp2_with (first
        | (go_at_call 90; (with_reducible refine (unhide HPM).mono ?_); rintro e w1 ⟨⟨h1, _⟩, hbw1⟩; obtain ⟨A1, d1, rfl, ho1⟩ := h1 l HQ.out; clear h1; obtain ⟨g, rfl, _, _⟩ := own_some ho1 (by omega); rw [HM.out] at ho1; have HO1 := hide ho1; clear ho1; rw [HM.out])
        | (go_at_call 91; (with_reducible refine ((unhide HSI) g d1 _ _ (unhide HO1)).mono ?_); rintro e w2 ⟨u, rfl, ho2, hbw2⟩; obtain ⟨A2, d2, rfl⟩ := own_slice ho2; clear ho2))
      have hz := hbw1.trans (hbw2.mono hbw1.size)
      go_ret2
      exact ⟨⟨fun l h => (by cases h), fun _ => rfl⟩, hz⟩
set_option maxRecDepth 100000 in
set_option maxHeartbeats 1600000 in
theorem map_junction (v : Value) (po : Option (List Rat)) (vm : Rat → Option Rat) (w : World) (hp : ∀ l, po = some l → (∀ x ∈ l, Un x) ∧ 1 ≤ l.length ∧ l.length ≤ 1000) (hs : ∀ l, pmO po vm = some l → SMap l)
    (HP : Hid (∀ W : World, Below w.heap.size w W → Calls Tryz.prog 207 #[v] W fun e w' => PlO W.heap.size po e w' ∧ Below W.heap.size W w'))
    (HV : Hid (∀ x, Un x → ∀ W : World, Below w.heap.size w W → Calls Tryz.prog 123 #[.iface 161 v, .agg #[.int .i64 (x.num), .int .i64 (x.den)]] W fun e w' => e = .returned (.tuple #[.agg #[.int .i64 (oN (vm x)), .int .i64 (oD (vm x))], .bool (vm x).isSome]) ∧ Below W.heap.size W w')) :
    Calls Tryz.prog 44 #[.iface 161 v] w fun e w' => PtO w.heap.size ((pmO po vm).bind smO) e w' ∧ Below w.heap.size w w' := by
  have hpm := points_junction v po vm w hp HP HV
  have HPM := hide hpm
  clear hpm HP HV hp
  cases hq : pmO po vm with
  | none =>
    have HQ := Lib.hid hq
    clear hq hs
    go_enter Tryz.func44, Tryz.ntmps44
    go_wp2_with (go_at_call 90; (with_reducible refine (unhide HPM).mono ?_); rintro e w1 ⟨⟨_, h2⟩, hbw1⟩; obtain rfl := h2 HQ.out; clear h2)
    go_ret2
    exact ⟨⟨fun l h => (by cases h), fun _ => rfl⟩, hbw1⟩
  | some l =>
    have hS := hs l hq
    have hlo := hS.lo
    have hhi := hS.hi
    have HQ := Lib.hid hq
    clear hq hs
    obtain ⟨m, hm⟩ : ∃ m, l.length = m + 1 := ⟨l.length - 1, by omega⟩
    have hsim := fun (g c base : Nat) (W : World) ho => iSimple_map g m c base l W ho hS
    have hsm : smO l = if (simK l (m + 1) (m + 1)).length ≤ 12 then some (simK l (m + 1) (m + 1)) else none := by unfold smO; rw [hm]
    have hkl := simK_len l (m + 1) (m + 1)
    change Calls _ _ _ _ fun e w' => PtO w.heap.size (smO l) e w' ∧ _
    rw [hsm]
    generalize simK l (m + 1) (m + 1) = r at *
    have HSI := hide hsim
    have HM := Lib.hid hm
    clear hsim hsm hm
    by_cases hr : r.length ≤ 12
    · rw [if_pos hr]
      have hr2 : ¬ ((12 : Int) < (r.length : Int)) := by omega
      have hr3 : decide ((12 : Int) < (r.length : Int)) = false := decide_eq_false hr2
      go_enter Tryz.func44, Tryz.ntmps44
      go_wp2_with (first
        | (go_at_call 90; (with_reducible refine (unhide HPM).mono ?_); rintro e w1 ⟨⟨h1, _⟩, hbw1⟩; obtain ⟨A1, d1, rfl, ho1⟩ := h1 l HQ.out; clear h1; obtain ⟨g, rfl, _, _⟩ := own_some ho1 (by omega); rw [HM.out] at ho1; have HO1 := hide ho1; clear ho1; rw [HM.out])
        | (go_at_call 91; (with_reducible refine ((unhide HSI) g d1 _ _ (unhide HO1)).mono ?_); rintro e w2 ⟨u, rfl, ho2, hbw2⟩; obtain ⟨A2, d2, rfl⟩ := own_slice ho2; have HO2 := hide ho2; clear ho2))
      have hz := hbw1.trans (hbw2.mono hbw1.size)
      have hs1 := hbw1.size
      go_ret2
      exact ⟨⟨fun l h => (by injection h with h; subst h; exact ⟨A2, d2, rfl, (unhide HO2).mono hs1⟩), fun h => (by cases h)⟩, hz⟩
    · rw [if_neg hr]
      have hr2 : (12 : Int) < (r.length : Int) := by omega
      go_enter Tryz.func44, Tryz.ntmps44
      go_wp2_with (first
        | (go_at_call 90; (with_reducible refine (unhide HPM).mono ?_); rintro e w1 ⟨⟨h1, _⟩, hbw1⟩; obtain ⟨A1, d1, rfl, ho1⟩ := h1 l HQ.out; clear h1; obtain ⟨g, rfl, _, _⟩ := own_some ho1 (by omega); rw [HM.out] at ho1; have HO1 := hide ho1; clear ho1; rw [HM.out])
        | (go_at_call 91; (with_reducible refine ((unhide HSI) g d1 _ _ (unhide HO1)).mono ?_); rintro e w2 ⟨u, rfl, ho2, hbw2⟩; obtain ⟨A2, d2, rfl⟩ := own_slice ho2; clear ho2))
      have hz := hbw1.trans (hbw2.mono hbw1.size)
      go_ret2
      exact ⟨⟨fun l h => (by cases h), fun _ => rfl⟩, hz⟩
end Go.Proofs.YtjggjegjhcpjhaaGreat

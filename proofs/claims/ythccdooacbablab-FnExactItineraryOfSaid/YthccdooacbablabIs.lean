/-
  Chapter 2: IsMap of the program and of the model.
-/
import Derived.Test.YthccdooacbablabO
import Derived.IntWalk
import Derived.Deep.RegionHeld3
import Derived.Deep.QuietTactic
namespace Go.Proofs.Ythccdooacbablab
open Go.RowKit Rm

/-- Operation i of a region, written out. -/
theorem op_at {ops : Array Oper} {l rest : List Oper} {i : Nat} {o : Oper} (h : ops = l.toArray) (hd : l.drop i = o :: rest) : ops[i]? = some o := by
  subst h
  rw [List.getElem?_toArray]
  have : l[i]? = (l.drop i)[0]? := by rw [List.getElem?_drop]; rfl
  rw [this, hd]; rfl

theorem own_len {w : World} {base n c : Nat} {A : Option Addr} {ps : List Pt} (h : w.ownsRow base 45 4 (.slice A n c) n (ptcs ps)) : ps.length = n := by
  have := h.1; rw [ptcs_len] at this; omega
theorem coB_parts {a b : Int} (h : coB (a, b) = true) : 0 ≤ a ∧ a ≤ b ∧ 1 ≤ b ∧ b ≤ 100 := by
  simp only [coB, Bool.and_eq_true, decide_eq_true_eq] at h
  obtain ⟨hg, h0, h1, h2⟩ := h
  have := good_iff.1 hg
  omega
theorem okAt_x {ps : List Pt} {k : Nat} {p : Pt} (hp : pAt ps k = p) (h : coB p.1 = false) : okAt ps k = false := by simp [okAt, hp, h]
theorem okAt_y {ps : List Pt} {k : Nat} {p : Pt} (hp : pAt ps k = p) (h : coB p.2 = false) : okAt ps k = false := by simp [okAt, hp, h]
theorem okAt_zero {ps : List Pt} {p : Pt} (hp : pAt ps 0 = p) (h1 : coB p.1 = true) (h2 : coB p.2 = true) : okAt ps 0 = true := by simp [okAt, hp, h1, h2]
theorem okAt_succ {ps : List Pt} {k : Nat} {p q : Pt} (hp : pAt ps k = p) (hq : pAt ps (k + 1) = q) (h1 : coB q.1 = true) (h2 : coB q.2 = true) : okAt ps (k + 1) = ltF p.1 q.1 := by
  simp [okAt, hp, hq, h1, h2]
theorem okUp {ps : List Pt} {k : Nat} (h : ∀ i, i < k → okAt ps i = true) (hk : okAt ps k = true) : ∀ i, i < k + 1 → okAt ps i = true := by
  intro i hi
  rcases Nat.lt_or_eq_of_le (Nat.le_of_lt_succ hi) with h1 | rfl
  · exact h i h1
  · exact hk
theorem okAt_parts {ps : List Pt} {i : Nat} (h : okAt ps i = true) : coB (pAt ps i).1 = true ∧ coB (pAt ps i).2 = true := by
  simp only [okAt, Bool.and_eq_true] at h
  exact ⟨h.1, h.2.1⟩

theorem zero_den {b : Int} (h : coB (0, b) = true) : b = 1 := by
  simp only [coB, Bool.and_eq_true, decide_eq_true_eq] at h
  have := good_iff.1 h.1
  have e := this.2.2.2.2
  rwa [G_zero_left (by omega)] at e

set_option maxRecDepth 100000 in
set_option maxHeartbeats 1600000 in
theorem isMap_any (A : Option Addr) (n c base : Nat) (ps : List Pt) (w : World) (ha : w.ownsRow base 45 4 (.slice A n c) n (ptcs ps)) (hn : n ≤ 1048576) :
    Calls Try.prog 46 #[.slice A n c] w fun e w' => e = .returned (.bool (mapB ps)) ∧ Below w.heap.size w w' := by
  have hl := own_len ha
  rcases Decidable.em (2 ≤ n ∧ n ≤ 12) with hr | hr
  rotate_left
  · rw [mapB_len (by omega)]
    clear ha
    by_cases h2 : n < 2
    · go_enter Try.func46, Try.ntmps46
      go_wp2
      go_ret
      exact ⟨rfl, (by repeat (first | with_reducible exact Below.refl _ _ | with_reducible assumption | (with_reducible refine Below.trans ?_ (Below.mono (by assumption) (by first | omega | (simp <;> omega)))) | with_reducible apply Below.drew | with_reducible apply below_drewN | (with_reducible refine Below.alloc ?_ (by first | omega | (simp <;> omega)) _) | (with_reducible refine Below.setCell ?_ (by first | omega | (simp <;> omega)) _)))⟩
    · have h3 : 12 < n := by omega
      go_enter Try.func46, Try.ntmps46
      go_wp2
      go_ret
      exact ⟨rfl, (by repeat (first | with_reducible exact Below.refl _ _ | with_reducible assumption | (with_reducible refine Below.trans ?_ (Below.mono (by assumption) (by first | omega | (simp <;> omega)))) | with_reducible apply Below.drew | with_reducible apply below_drewN | (with_reducible refine Below.alloc ?_ (by first | omega | (simp <;> omega)) _) | (with_reducible refine Below.setCell ?_ (by first | omega | (simp <;> omega)) _)))⟩
  · obtain ⟨hr1, hr2⟩ := hr
    obtain ⟨g, cap, hv, _, hgl⟩ := ha.form (by omega)
    have hA : A = some ⟨g, 0, none⟩ ∧ c = cap := by injection hv with h1 _ h2; exact ⟨h1, h2⟩
    obtain ⟨rfl, rfl⟩ := hA
    have HA := hide ha
    have HL := Lib.hid hl
    clear ha hv hl
    generalize hres : mapB ps = res
    have HR := Lib.hid hres; clear hres
    have d1 : decide ((n : Int) < 2) = false := decide_eq_false (by omega)
    have d2 : decide ((12 : Int) < (n : Int)) = false := decide_eq_false (by omega)
    go_enter Try.func46, Try.ntmps46
    go_wp2
    go_loopw [15] (fun i wr => ∃ k : Nat, i = .int .i64 k ∧ k ≤ n ∧ Hid (∀ i, i < k → okAt ps i = true) ∧ Below w.heap.size w wr) (fun i _ => n - (intOf i).toNat)
    case atStart => exact ⟨0, rfl, Nat.zero_le _, hide (fun i hi => absurd hi (by omega)), Below.refl _ _⟩
    case round =>
      obtain ⟨k, rfl, hk, hok, hb⟩ := hrel
      have hgr : g < wr.heap.size := Nat.lt_of_lt_of_le hgl hb.size
      by_cases hlt : k < n
      · rcases hp : pAt ps k with ⟨⟨a, b⟩, ⟨p, q⟩⟩
        obtain ⟨g', hg', _, _, h0, h1, h2, h3⟩ := pts_cells (own_below (unhide HA) hb) hlt hp
        obtain rfl : g = g' := by injection hg' with e; injection e
        clear hg'
        have HP := Lib.hid hp; clear hp
        have HBE := hide hb; clear hb
        cases hX : coB (a, b) with
        | false =>
          have hm := mapB_at (by rw [HL.out]; exact hlt) (okAt_x HP.out hX)
          obtain rfl : false = res := hm.symm.trans HR.out
          have hx := fun W => isUnit_any_co a b W
          rw [hX] at hx
          have HX := hide hx; clear hx hX hm
          go_wp2_with ((go_at_call 54; (with_reducible refine ((unhide HX) _).mono ?_); rintro e w1 ⟨rfl, hbw1⟩; obtain ⟨hcw1, hfw1⟩ := bcell hbw1; have hzw1 := hbw1.size; (try simp at hzw1); (try ((have kw1wr0 := (bnew hbw1) (wr.heap.size) ?pf); (case pf => (first | omega | (simp; done) | (simp; omega))); obtain ⟨kcw1wr0, kfw1wr0, klw1wr0⟩ := kw1wr0)); (try ((have kw1gX0 := (bnew hbw1) (g) ?pf); (case pf => (first | omega | (simp; done) | (simp; omega))); obtain ⟨kcw1gX0, kfw1gX0, klw1gX0⟩ := kw1gX0))))
          go_ret
          have hb := unhide HBE
          have hz := hb.size
          exact ⟨rfl, (by repeat (first | with_reducible exact Below.refl _ _ | with_reducible assumption | (with_reducible refine Below.trans ?_ (Below.mono (by assumption) (by first | omega | (simp <;> omega)))) | with_reducible apply Below.drew | with_reducible apply below_drewN | (with_reducible refine Below.alloc ?_ (by first | omega | (simp <;> omega)) _) | (with_reducible refine Below.setCell ?_ (by first | omega | (simp <;> omega)) _)))⟩
        | true =>
          cases hY : coB (p, q) with
          | false =>
            have hm := mapB_at (by rw [HL.out]; exact hlt) (okAt_y HP.out hY)
            obtain rfl : false = res := hm.symm.trans HR.out
            have hx := fun W => isUnit_any_co a b W
            rw [hX] at hx
            have hy := fun W => isUnit_any_co p q W
            rw [hY] at hy
            have HX := hide hx; clear hx hX hm
            have HY := hide hy; clear hy hY
            go_wp2_with (first | (go_at_call 54; (with_reducible refine ((unhide HX) _).mono ?_); rintro e w1 ⟨rfl, hbw1⟩; obtain ⟨hcw1, hfw1⟩ := bcell hbw1; have hzw1 := hbw1.size; (try simp at hzw1); (try ((have kw1wr0 := (bnew hbw1) (wr.heap.size) ?pf); (case pf => (first | omega | (simp; done) | (simp; omega))); obtain ⟨kcw1wr0, kfw1wr0, klw1wr0⟩ := kw1wr0)); (try ((have kw1gX0 := (bnew hbw1) (g) ?pf); (case pf => (first | omega | (simp; done) | (simp; omega))); obtain ⟨kcw1gX0, kfw1gX0, klw1gX0⟩ := kw1gX0))) | (go_at_call 54; (with_reducible refine ((unhide HY) _).mono ?_); rintro e w2 ⟨rfl, hbw2⟩; obtain ⟨hcw2, hfw2⟩ := bcell hbw2; have hzw2 := hbw2.size; (try simp at hzw2); (try ((have kw2wr0 := (bnew hbw2) (wr.heap.size) ?pf); (case pf => (first | omega | (simp; done) | (simp; omega))); obtain ⟨kcw2wr0, kfw2wr0, klw2wr0⟩ := kw2wr0)); (try ((have kw2gX0 := (bnew hbw2) (g) ?pf); (case pf => (first | omega | (simp; done) | (simp; omega))); obtain ⟨kcw2gX0, kfw2gX0, klw2gX0⟩ := kw2gX0))))
            go_ret
            have hb := unhide HBE
            have hz := hb.size
            exact ⟨rfl, (by repeat (first | with_reducible exact Below.refl _ _ | with_reducible assumption | (with_reducible refine Below.trans ?_ (Below.mono (by assumption) (by first | omega | (simp <;> omega)))) | with_reducible apply Below.drew | with_reducible apply below_drewN | (with_reducible refine Below.alloc ?_ (by first | omega | (simp <;> omega)) _) | (with_reducible refine Below.setCell ?_ (by first | omega | (simp <;> omega)) _)))⟩
          | true =>
            have hx := fun W => isUnit_any_co a b W
            rw [hX] at hx
            have hy := fun W => isUnit_any_co p q W
            rw [hY] at hy
            have HX := hide hx; clear hx
            have HY := hide hy; clear hy
            obtain ⟨a0, a1, b0, b1⟩ := coB_parts hX
            rcases Nat.eq_zero_or_pos k with hk0 | hk0
            · subst hk0
              have hok' := hide (okUp (unhide hok) (okAt_zero HP.out hX hY))
              clear hX hY
              go_upto_region 8 with (first | (go_at_call 54; (with_reducible refine ((unhide HX) _).mono ?_); rintro e w1 ⟨rfl, hbw1⟩; obtain ⟨hcw1, hfw1⟩ := bcell hbw1; have hzw1 := hbw1.size; (try simp at hzw1); (try ((have kw1wr0 := (bnew hbw1) (wr.heap.size) ?pf); (case pf => (first | omega | (simp; done) | (simp; omega))); obtain ⟨kcw1wr0, kfw1wr0, klw1wr0⟩ := kw1wr0)); (try ((have kw1gX0 := (bnew hbw1) (g) ?pf); (case pf => (first | omega | (simp; done) | (simp; omega))); obtain ⟨kcw1gX0, kfw1gX0, klw1gX0⟩ := kw1gX0))) | (go_at_call 54; (with_reducible refine ((unhide HY) _).mono ?_); rintro e w2 ⟨rfl, hbw2⟩; obtain ⟨hcw2, hfw2⟩ := bcell hbw2; have hzw2 := hbw2.size; (try simp at hzw2); (try ((have kw2wr0 := (bnew hbw2) (wr.heap.size) ?pf); (case pf => (first | omega | (simp; done) | (simp; omega))); obtain ⟨kcw2wr0, kfw2wr0, klw2wr0⟩ := kw2wr0)); (try ((have kw2gX0 := (bnew hbw2) (g) ?pf); (case pf => (first | omega | (simp; done) | (simp; omega))); obtain ⟨kcw2gX0, kfw2gX0, klw2gX0⟩ := kw2gX0))))
              go_quiet (fail)
              go_wp2_with fail
              have hb := unhide HBE
              have hz := hb.size
              go_roundw
              case rel => exact ⟨1, by go_num, by omega, hok', (by repeat (first | with_reducible exact Below.refl _ _ | with_reducible assumption | (with_reducible refine Below.trans ?_ (Below.mono (by assumption) (by first | omega | (simp <;> omega)))) | with_reducible apply Below.drew | with_reducible apply below_drewN | (with_reducible refine Below.alloc ?_ (by first | omega | (simp <;> omega)) _) | (with_reducible refine Below.setCell ?_ (by first | omega | (simp <;> omega)) _)))⟩
              case measure => simp [intOf]; omega
            · obtain ⟨m, rfl⟩ : ∃ m, k = m + 1 := ⟨k - 1, by omega⟩
              rcases hp' : pAt ps m with ⟨⟨a', b'⟩, ⟨p', q'⟩⟩
              have hb := unhide HBE
              obtain ⟨g', hg', _, _, k0, k1, _, _⟩ := pts_cells (own_below (unhide HA) hb) (by omega) hp'
              obtain rfl : g = g' := by injection hg' with e; injection e
              clear hg' hb
              have hco := (okAt_parts ((unhide hok) m (by omega))).1
              rw [hp'] at hco
              obtain ⟨a0', a1', b0', b1'⟩ := coB_parts hco
              have hso := okAt_succ hp' HP.out hX hY
              clear hX hY hco hp'
              have s1 : IntKind.i64.wrap (m : Int) = (m : Int) := IntWalk.i64_in _ (by omega)
              have s2 : (0 : Int) ≤ (m : Int) := by omega
              have s3 : (m : Int) < (n : Int) := by omega
              have hord := fun W => orderOf_bd a' b' a b W (by omega) (by omega) (by omega) (by omega) (by omega) (by omega) (by omega) (by omega)
              cases hF : ltF (a', b') (a, b) with
              | false =>
                have hm := mapB_at (by rw [HL.out]; exact hlt) (hso.trans hF)
                obtain rfl : false = res := hm.symm.trans HR.out
                have hge : 0 ≤ cmpI (a' * b) (a * b') := by
                  have := of_decide_eq_false hF
                  unfold cmpI
                  rw [if_neg this]
                  split <;> omega
                generalize cmpI (a' * b) (a * b') = z at *
                have HORD := hide hord
                have hz0 := decide_eq_true hge
                clear hord hm hF hso
                go_upto_region 8 with (first | (go_at_call 54; (with_reducible refine ((unhide HX) _).mono ?_); rintro e w1 ⟨rfl, hbw1⟩; obtain ⟨hcw1, hfw1⟩ := bcell hbw1; have hzw1 := hbw1.size; (try simp at hzw1); (try ((have kw1wr0 := (bnew hbw1) (wr.heap.size) ?pf); (case pf => (first | omega | (simp; done) | (simp; omega))); obtain ⟨kcw1wr0, kfw1wr0, klw1wr0⟩ := kw1wr0)); (try ((have kw1gX0 := (bnew hbw1) (g) ?pf); (case pf => (first | omega | (simp; done) | (simp; omega))); obtain ⟨kcw1gX0, kfw1gX0, klw1gX0⟩ := kw1gX0))) | (go_at_call 54; (with_reducible refine ((unhide HY) _).mono ?_); rintro e w2 ⟨rfl, hbw2⟩; obtain ⟨hcw2, hfw2⟩ := bcell hbw2; have hzw2 := hbw2.size; (try simp at hzw2); (try ((have kw2wr0 := (bnew hbw2) (wr.heap.size) ?pf); (case pf => (first | omega | (simp; done) | (simp; omega))); obtain ⟨kcw2wr0, kfw2wr0, klw2wr0⟩ := kw2wr0)); (try ((have kw2gX0 := (bnew hbw2) (g) ?pf); (case pf => (first | omega | (simp; done) | (simp; omega))); obtain ⟨kcw2gX0, kfw2gX0, klw2gX0⟩ := kw2gX0))))
                go_cut [43] (fun s43 wx => s43 = .bool true ∧ Below w2.heap.size w2 wx)
                case first =>
                  go_region_held3 (fun w' => w'.cell? ⟨g, m * 4, none⟩ = some (.int .i64 a') ∧ w'.cell? ⟨g, m * 4 + 1, none⟩ = some (.int .i64 b') ∧ w'.cell? ⟨wr.heap.size, 0, none⟩ = some (.int .i64 a) ∧ w'.cell? ⟨wr.heap.size, 1, none⟩ = some (.int .i64 b)) (simp [go_sem, *])
                    ((go_at_call 35; (with_reducible refine ((unhide HORD) _).mono ?_); rintro e w3 ⟨rfl, hbw3⟩; obtain ⟨hcw3, hfw3⟩ := bcell hbw3; have hzw3 := hbw3.size; (try simp at hzw3); (try ((have kw3gX0 := (bnew hbw3) (g) ?pf); (case pf => (first | omega | (simp; done) | (simp; omega))); obtain ⟨kcw3gX0, kfw3gX0, klw3gX0⟩ := kw3gX0)); (try ((have kw3wr0 := (bnew hbw3) (wr.heap.size) ?pf); (case pf => (first | omega | (simp; done) | (simp; omega))); obtain ⟨kcw3wr0, kfw3wr0, klw3wr0⟩ := kw3wr0))))
                  all_goals
                    go_wp2_with fail
                    go_meet
                    exact ⟨rfl, (by repeat (first | with_reducible exact Below.refl _ _ | with_reducible assumption | (with_reducible refine Below.trans ?_ (Below.mono (by assumption) (by first | omega | (simp <;> omega)))) | with_reducible apply Below.drew | with_reducible apply below_drewN | (with_reducible refine Below.alloc ?_ (by first | omega | (simp <;> omega)) _) | (with_reducible refine Below.setCell ?_ (by first | omega | (simp <;> omega)) _)))⟩
                case rest =>
                  obtain ⟨rfl, hbx⟩ := hcut
                  have hb := unhide HBE
                  have hz := hb.size
                  go_wp2_with fail
                  go_ret
                  exact ⟨rfl, (by repeat (first | with_reducible exact Below.refl _ _ | with_reducible assumption | (with_reducible refine Below.trans ?_ (Below.mono (by assumption) (by first | omega | (simp <;> omega)))) | with_reducible apply Below.drew | with_reducible apply below_drewN | (with_reducible refine Below.alloc ?_ (by first | omega | (simp <;> omega)) _) | (with_reducible refine Below.setCell ?_ (by first | omega | (simp <;> omega)) _)))⟩
              | true =>
                have hok' := hide (okUp (unhide hok) (hso.trans hF))
                have hlt0 : cmpI (a' * b) (a * b') = -1 := cmpI_lt (of_decide_eq_true hF)
                rw [hlt0] at hord
                have HORD := hide hord
                clear hord hF hso hlt0
                go_upto_region 8 with (first | (go_at_call 54; (with_reducible refine ((unhide HX) _).mono ?_); rintro e w1 ⟨rfl, hbw1⟩; obtain ⟨hcw1, hfw1⟩ := bcell hbw1; have hzw1 := hbw1.size; (try simp at hzw1); (try ((have kw1wr0 := (bnew hbw1) (wr.heap.size) ?pf); (case pf => (first | omega | (simp; done) | (simp; omega))); obtain ⟨kcw1wr0, kfw1wr0, klw1wr0⟩ := kw1wr0)); (try ((have kw1gX0 := (bnew hbw1) (g) ?pf); (case pf => (first | omega | (simp; done) | (simp; omega))); obtain ⟨kcw1gX0, kfw1gX0, klw1gX0⟩ := kw1gX0))) | (go_at_call 54; (with_reducible refine ((unhide HY) _).mono ?_); rintro e w2 ⟨rfl, hbw2⟩; obtain ⟨hcw2, hfw2⟩ := bcell hbw2; have hzw2 := hbw2.size; (try simp at hzw2); (try ((have kw2wr0 := (bnew hbw2) (wr.heap.size) ?pf); (case pf => (first | omega | (simp; done) | (simp; omega))); obtain ⟨kcw2wr0, kfw2wr0, klw2wr0⟩ := kw2wr0)); (try ((have kw2gX0 := (bnew hbw2) (g) ?pf); (case pf => (first | omega | (simp; done) | (simp; omega))); obtain ⟨kcw2gX0, kfw2gX0, klw2gX0⟩ := kw2gX0))))
                go_cut [43] (fun s43 wx => s43 = .bool false ∧ Below w2.heap.size w2 wx)
                case first =>
                  go_region_held3 (fun w' => w'.cell? ⟨g, m * 4, none⟩ = some (.int .i64 a') ∧ w'.cell? ⟨g, m * 4 + 1, none⟩ = some (.int .i64 b') ∧ w'.cell? ⟨wr.heap.size, 0, none⟩ = some (.int .i64 a) ∧ w'.cell? ⟨wr.heap.size, 1, none⟩ = some (.int .i64 b)) (simp [go_sem, *])
                    ((go_at_call 35; (with_reducible refine ((unhide HORD) _).mono ?_); rintro e w3 ⟨rfl, hbw3⟩; obtain ⟨hcw3, hfw3⟩ := bcell hbw3; have hzw3 := hbw3.size; (try simp at hzw3); (try ((have kw3gX0 := (bnew hbw3) (g) ?pf); (case pf => (first | omega | (simp; done) | (simp; omega))); obtain ⟨kcw3gX0, kfw3gX0, klw3gX0⟩ := kw3gX0)); (try ((have kw3wr0 := (bnew hbw3) (wr.heap.size) ?pf); (case pf => (first | omega | (simp; done) | (simp; omega))); obtain ⟨kcw3wr0, kfw3wr0, klw3wr0⟩ := kw3wr0))))
                  all_goals
                    go_wp2_with fail
                    go_meet
                    exact ⟨rfl, (by repeat (first | with_reducible exact Below.refl _ _ | with_reducible assumption | (with_reducible refine Below.trans ?_ (Below.mono (by assumption) (by first | omega | (simp <;> omega)))) | with_reducible apply Below.drew | with_reducible apply below_drewN | (with_reducible refine Below.alloc ?_ (by first | omega | (simp <;> omega)) _) | (with_reducible refine Below.setCell ?_ (by first | omega | (simp <;> omega)) _)))⟩
                case rest =>
                  obtain ⟨rfl, hbx⟩ := hcut
                  have hb := unhide HBE
                  have hz := hb.size
                  go_wp2_with fail
                  go_roundw
                  case rel => exact ⟨m + 1 + 1, by go_num, by omega, hok', (by repeat (first | with_reducible exact Below.refl _ _ | with_reducible assumption | (with_reducible refine Below.trans ?_ (Below.mono (by assumption) (by first | omega | (simp <;> omega)))) | with_reducible apply Below.drew | with_reducible apply below_drewN | (with_reducible refine Below.alloc ?_ (by first | omega | (simp <;> omega)) _) | (with_reducible refine Below.setCell ?_ (by first | omega | (simp <;> omega)) _)))⟩
                  case measure => simp [intOf]; omega
      · obtain ⟨m, rfl⟩ : ∃ m, n = m + 1 := ⟨n - 1, by omega⟩
        obtain rfl : k = m + 1 := by omega
        have hm := HR.out
        rw [mapB_all (by rw [HL.out]; omega) (by rw [HL.out]; exact unhide hok), HL.out, Nat.add_sub_cancel] at hm
        have hok0 := (okAt_parts ((unhide hok) 0 (by omega))).1
        have hokm := (okAt_parts ((unhide hok) m (by omega))).1
        rcases hp : pAt ps 0 with ⟨⟨a, b⟩, ⟨p, q⟩⟩
        rcases hp' : pAt ps m with ⟨⟨a', b'⟩, ⟨p', q'⟩⟩
        obtain ⟨g', hg', _, _, h0, h1, _, _⟩ := pts_cells (own_below (unhide HA) hb) (by omega) hp
        obtain rfl : g = g' := by injection hg' with e; injection e
        clear hg'
        obtain ⟨g', hg', _, _, k0, k1, _, _⟩ := pts_cells (own_below (unhide HA) hb) (by omega) hp'
        obtain rfl : g = g' := by injection hg' with e; injection e
        clear hg'
        rw [hp] at hok0
        rw [hp'] at hokm
        rw [hp, hp'] at hm
        have HM := Lib.hid hm; clear hm
        have HB := hide hb
        clear hb hp hp' hok
        rw [Nat.zero_mul] at h0
        rw [Nat.zero_mul, Nat.zero_add] at h1
        have hb' := unhide HB
        by_cases ea : a = 0
        · subst ea
          obtain rfl := zero_den hok0
          by_cases ea' : a' = 1
          · subst ea'
            by_cases eb' : b' = 1
            · subst eb'
              obtain rfl : true = res := HM.out.symm.trans rfl |>.symm
              go_wp2_with fail
              go_ret
              exact ⟨rfl, unhide HB⟩
            · obtain rfl : false = res := by rw [← HM.out]; simp [eb']
              have e1 : (b' == 1) = false := by simpa using eb'
              have e2 : decide (b' = 1) = false := by simpa using eb'
              go_wp2_with fail
              go_ret
              exact ⟨rfl, unhide HB⟩
          · obtain rfl : false = res := by rw [← HM.out]; simp [ea']
            have e1 : (a' == 1) = false := by simpa using ea'
            have e2 : decide (a' = 1) = false := by simpa using ea'
            go_wp2_with fail
            go_ret
            exact ⟨rfl, unhide HB⟩
        · obtain rfl : false = res := by rw [← HM.out]; simp [ea]
          have e1 : (a == 0) = false := by simpa using ea
          have e2 : decide (a = 0) = false := by simpa using ea
          go_wp2_with fail
          go_ret
          exact ⟨rfl, unhide HB⟩
end Go.Proofs.Ythccdooacbablab

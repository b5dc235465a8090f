/-
  Chapter 2: ImageOf: the arithmetic; the least and the greatest of a list (slices.MinFunc, slices.MaxFunc); the model's first test.
-/
import Derived.Test.YtjggjegjhcpjhaaGreatSima
namespace Go.Proofs.YtjggjegjhcpjhaaGreat
open Go.RowKit Rm

/-- The Y of the points between, of the first k points. -/
def innK (qs : List QP) (x y : Rat) : Nat → List Rat
  | 0 => []
  | k + 1 => innK qs x y k ++ (if x < (qAt qs k).1 ∧ (qAt qs k).1 < y then [(qAt qs k).2] else [])
theorem innK_len (qs : List QP) (x y : Rat) : ∀ k, (innK qs x y k).length ≤ k
  | 0 => by simp [innK]
  | k + 1 => by
    have := innK_len qs x y k
    simp only [innK, List.length_append]
    split <;> simp <;> omega
def minR (a : Rat) (l : List Rat) : Rat := l.foldl (fun m y => if y < m then y else m) a
def maxR (a : Rat) (l : List Rat) : Rat := l.foldl (fun m y => if m < y then y else m) a
theorem minR_snoc (a : Rat) (l : List Rat) (y : Rat) : minR a (l ++ [y]) = if y < minR a l then y else minR a l := by unfold minR; rw [List.foldl_append]; rfl
theorem maxR_snoc (a : Rat) (l : List Rat) (y : Rat) : maxR a (l ++ [y]) = if maxR a l < y then y else maxR a l := by unfold maxR; rw [List.foldl_append]; rfl
theorem minR_fits {l : List Rat} : ∀ {a : Rat}, fits a = true → (∀ y ∈ l, fits y = true) → fits (minR a l) = true := by
  induction l with
  | nil => intro a h _; exact h
  | cons y l ih =>
    intro a h hl
    show fits (minR (if y < a then y else a) l) = true
    refine ih ?_ fun z hz => hl z (by simp [hz])
    split
    · exact hl y (by simp)
    · exact h
theorem maxR_fits {l : List Rat} : ∀ {a : Rat}, fits a = true → (∀ y ∈ l, fits y = true) → fits (maxR a l) = true := by
  induction l with
  | nil => intro a h _; exact h
  | cons y l ih =>
    intro a h hl
    show fits (maxR (if a < y then y else a) l) = true
    refine ih ?_ fun z hz => hl z (by simp [hz])
    split
    · exact hl y (by simp)
    · exact h
theorem take_snoc' {l : List Rat} {k : Nat} (h : k < l.length) : l.take (k + 1) = l.take k ++ [l.getD k 0] := by
  rw [List.take_succ_eq_append_getElem h]; simp [h]
theorem fAt_map (l : List Rat) (k : Nat) (h : k < l.length) : fAt (l.map qf) k = qf (l.getD k 0) := by simp [fAt, h]
theorem mem_getD {l : List Rat} {k : Nat} (h : k < l.length) : l.getD k 0 ∈ l := by
  rw [List.getD_eq_getElem?_getD, List.getElem?_eq_getElem h]; exact List.getElem_mem h


theorem grown_only {a w w1 : World} {g : Nat} (h : a.grownBy w (some g)) (hb : Below w.heap.size w w1) : a.grownBy w1 (some g) :=
  ⟨hb.os.trans h.os, hb.tape.trans h.tape, hb.output.trans h.output, Nat.le_trans h.size hb.size, fun i hi hn => (hb.block i (Nat.lt_of_lt_of_le hi h.size)).trans (h.block i hi hn)⟩

set_option maxRecDepth 100000 in
set_option maxHeartbeats 3200000 in
theorem minFunc_any (A : Option Addr) (c base : Nat) (a : Rat) (l : List Rat) (w : World) (ha : w.ownsRow base 37 2 (.slice A (l.length + 1) c) (l.length + 1) (frcs ((a :: l).map qf))) (hn : l.length ≤ 100) (hf : ∀ y ∈ a :: l, fits y = true) :
    Calls Tryz.prog 141 #[.slice A (l.length + 1) c, .func (.func 89) #[] #[]] w fun e w' => e = .returned (.agg #[.int .i64 ((minR a l).num), .int .i64 ((minR a l).den)]) ∧ Below w.heap.size w w' := by
  have hcl := fun (W : World) (hW : W.ownsRow base 37 2 (.slice A (l.length + 1) c) (l.length + 1) (frcs ((a :: l).map qf))) (k : Nat) (hk : k < l.length) => frs_cells hW (k := k + 1) (by omega) (show fAt ((a :: l).map qf) (k + 1) = qf (l.getD k 0) by rw [← fAt_map l k hk]; rfl)
  obtain ⟨g, rfl, hgl, _, a0, a1⟩ := frs_cells ha (k := 0) (by omega) (show fAt ((a :: l).map qf) 0 = qf a from rfl)
  simp only [Nat.zero_mul, Nat.zero_add] at a0 a1
  have hd0 : decide ((l.length : Int) + 1 < 1) = false := decide_eq_false (by omega)
  have HCL := hide hcl
  have HA := hide ha
  have HF := hide hf
  clear hcl ha hf
  go_enter Tryz.func141, Tryz.ntmps141
  go_wp2_with fail
  have hbw : Below w.heap.size w ((w.alloc (.cells #[.int .i64 0, .int .i64 0] 37)).alloc (.cells #[.int .i64 a.num, .int .i64 a.den] 37)) := (by repeat (first | with_reducible exact Below.refl _ _ | with_reducible assumption | (with_reducible refine Below.trans ?_ (Below.mono (by assumption) (by first | omega | (simp <;> omega)))) | with_reducible apply Below.drew | with_reducible apply below_drewN | (with_reducible refine Below.alloc ?_ (by first | omega | (simp <;> omega)) _) | (with_reducible refine Below.setCell ?_ (by first | omega | (simp <;> omega)) _)))
  have m0 : ((w.alloc (.cells #[.int .i64 0, .int .i64 0] 37)).alloc (.cells #[.int .i64 a.num, .int .i64 a.den] 37)).cell? ⟨w.heap.size + 1, 0, none⟩ = some (.int .i64 a.num) := by simp [go_sem]
  have m1 : ((w.alloc (.cells #[.int .i64 0, .int .i64 0] 37)).alloc (.cells #[.int .i64 a.num, .int .i64 a.den] 37)).cell? ⟨w.heap.size + 1, 1, none⟩ = some (.int .i64 a.den) := by simp [go_sem]
  have m2 : ∀ o, ((w.alloc (.cells #[.int .i64 0, .int .i64 0] 37)).alloc (.cells #[.int .i64 a.num, .int .i64 a.den] 37)).frozen? ⟨w.heap.size + 1, o, none⟩ = false := by intro o; simp [go_sem]
  have r0 : ((w.alloc (.cells #[.int .i64 0, .int .i64 0] 37)).alloc (.cells #[.int .i64 a.num, .int .i64 a.den] 37)).cell? ⟨w.heap.size, 0, none⟩ = some (.int .i64 0) := by simp [go_sem]
  have r1 : ((w.alloc (.cells #[.int .i64 0, .int .i64 0] 37)).alloc (.cells #[.int .i64 a.num, .int .i64 a.den] 37)).cell? ⟨w.heap.size, 1, none⟩ = some (.int .i64 0) := by simp [go_sem]
  have r2 : ∀ o, ((w.alloc (.cells #[.int .i64 0, .int .i64 0] 37)).alloc (.cells #[.int .i64 a.num, .int .i64 a.den] 37)).frozen? ⟨w.heap.size, o, none⟩ = false := by intro o; simp [go_sem]
  have hsz : ((w.alloc (.cells #[.int .i64 0, .int .i64 0] 37)).alloc (.cells #[.int .i64 a.num, .int .i64 a.den] 37)).heap.size = w.heap.size + 1 + 1 := by simp
  generalize (w.alloc (.cells #[.int .i64 0, .int .i64 0] 37)).alloc (.cells #[.int .i64 a.num, .int .i64 a.den] 37) = w2 at *
  have hsz1 : w.heap.size + 1 < w2.heap.size := by omega
  have hsz2 : w.heap.size < w2.heap.size := by omega
  have HSZ := Lib.hid hsz; clear hsz
  have HA2 := hide (own_below (unhide HA) hbw)
  have HBW := hide hbw; clear hbw
  obtain ⟨M, hM⟩ : ∃ M, M = w.heap.size + 1 := ⟨_, rfl⟩
  rw [← hM] at m0 m1 hsz1
  have m2' : ∀ o, w2.frozen? ⟨M, o, none⟩ = false := fun o => by rw [hM]; exact m2 o
  have hgM : g < M := by omega
  have hwM : w.heap.size < M := by omega
  have HMM := Lib.hid hM
  rw [← hM]
  clear m2 hM
  go_loopw [6] (fun i wr => ∃ k : Nat, i = .int .i64 ((k : Int) + 1) ∧ k ≤ l.length ∧ wr.cell? ⟨M, 0, none⟩ = some (.int .i64 (minR a (l.take k)).num) ∧ wr.cell? ⟨M, 1, none⟩ = some (.int .i64 (minR a (l.take k)).den) ∧ (∀ o, wr.frozen? ⟨M, o, none⟩ = false) ∧ w2.grownBy wr (some M)) (fun i _ => l.length + 1 - (intOf i).toNat)
  case atStart => exact ⟨0, rfl, by omega, m0, m1, m2', World.grownBy.refl _ _⟩
  case round =>
    obtain ⟨k, rfl, hk, c0, c1, cf, hgr⟩ := hrel
    have hsr := hgr.size
    have hMr : M < wr.heap.size := by omega
    have hgr' : g < wr.heap.size := by omega
    have hwr' : w.heap.size < wr.heap.size := by omega
    have q0 := (World.cell?_of_block (a := ⟨w.heap.size, 0, none⟩) (hgr.block w.heap.size hsz2 (fun e => by have := Option.some.inj e; omega))).trans r0
    have q1 := (World.cell?_of_block (a := ⟨w.heap.size, 1, none⟩) (hgr.block w.heap.size hsz2 (fun e => by have := Option.some.inj e; omega))).trans r1
    have hcurf : fits (minR a (l.take k)) = true := minR_fits ((unhide HF) a (by simp)) (fun y hy => (unhide HF) y (by simp [List.mem_of_mem_take hy]))
    by_cases hlt : k < l.length
    · have hown := own_kept (unhide HA2) hgr (fun j hj e => by
        have h1 : g = j := Option.some.inj hj
        have h2 : j = M := Option.some.inj e
        omega)
      obtain ⟨g', hg', _, _, y0, y1⟩ := (unhide HCL) wr hown k hlt
      obtain rfl : g = g' := (Addr.mk.inj (Option.some.inj hg')).1
      have hyf : fits (l.getD k 0) = true := (unhide HF) _ (List.mem_cons_of_mem _ (mem_getD hlt))
      have hst : minR a (l.take (k + 1)) = if l.getD k 0 < minR a (l.take k) then l.getD k 0 else minR a (l.take k) := by rw [take_snoc' hlt, minR_snoc]
      have HST := Lib.hid hst
      have HG := hide hgr
      clear hown hg' hst hgr m0 m1 r0 r1
      generalize minR a (l.take k) = cur at *
      generalize l.getD k 0 = y at *
      have hord := fun W => orderOf_q y cur hyf hcurf W
      have s1 : (0 : Int) ≤ (k : Int) + 1 := by omega
      have s2 : (k : Int) + 1 < (l.length : Int) + 1 := by omega
      have s3 : ((k : Int) + 1).toNat = k + 1 := by omega
      change wr.cell? ⟨g, (k + 1) * 2, none⟩ = some (.int .i64 y.num) at y0
      change wr.cell? ⟨g, (k + 1) * 2 + 1, none⟩ = some (.int .i64 y.den) at y1
      by_cases hc : y < cur
      · have hz : decide (cq y cur < 0) = true := decide_eq_true (cq_lt.2 hc)
        rw [if_pos hc] at HST
        clear hc hcurf hyf
        generalize cq y cur = z at *
        have HO := hide hord; clear hord
        generalize cur.num = u1 at *
        generalize (cur.den : Int) = u2 at *
        obtain ⟨v1, hv1⟩ : ∃ v, v = y.num := ⟨_, rfl⟩
        obtain ⟨v2, hv2⟩ : ∃ v, v = (y.den : Int) := ⟨_, rfl⟩
        rw [← hv1] at y0 HO
        rw [← hv2] at y1 HO
        have HV := Lib.hid (And.intro hv1 hv2)
        clear hv1 hv2
        go_upto_region 7 with fail
        go_cut [27] (fun s27 wx => s27 = .bool true ∧ Below wr.heap.size wr wx)
        case first =>
          go_region_held3 (fun w' => w'.cell? ⟨g, (k + 1) * 2, none⟩ = some (.int .i64 v1) ∧ w'.cell? ⟨g, (k + 1) * 2 + 1, none⟩ = some (.int .i64 v2) ∧ w'.cell? ⟨M, 0, none⟩ = some (.int .i64 u1) ∧ w'.cell? ⟨M, 1, none⟩ = some (.int .i64 u2)) (simp [go_sem, *])
            ((go_at_call 89; (with_reducible refine ((unhide HO) _).mono ?_); rintro e w3 ⟨rfl, hbw3⟩; obtain ⟨hcw3, hfw3⟩ := bcell hbw3; have hzw3 := hbw3.size; (try simp at hzw3); (try ((have kw3gX0 := (bnew hbw3) (g) ?pf); (case pf => (first | omega | (simp; done) | (simp; omega))); obtain ⟨kcw3gX0, kfw3gX0, klw3gX0⟩ := kw3gX0)); (try ((have kw3MX0 := (bnew hbw3) (M) ?pf); (case pf => (first | omega | (simp; done) | (simp; omega))); obtain ⟨kcw3MX0, kfw3MX0, klw3MX0⟩ := kw3MX0))))
          all_goals
            go_wp2_with fail
            go_meet
            exact ⟨rfl, (by repeat (first | with_reducible exact Below.refl _ _ | with_reducible assumption | (with_reducible refine Below.trans ?_ (Below.mono (by assumption) (by first | omega | (simp <;> omega)))) | with_reducible apply Below.drew | with_reducible apply below_drewN | (with_reducible refine Below.alloc ?_ (by first | omega | (simp <;> omega)) _) | (with_reducible refine Below.setCell ?_ (by first | omega | (simp <;> omega)) _)))⟩
        case rest =>
          obtain ⟨rfl, hbwc⟩ := hcut
          (skip; (try ((have kwcgX0 := (bnew hbwc) (g) ?pf); (case pf => (first | omega | (simp; done) | (simp; omega))); obtain ⟨kcwcgX0, kfwcgX0, klwcgX0⟩ := kwcgX0)); (try ((have kwcMX0 := (bnew hbwc) (M) ?pf); (case pf => (first | omega | (simp; done) | (simp; omega))); obtain ⟨kcwcMX0, kfwcMX0, klwcMX0⟩ := kwcMX0)))
          have z0 := (kcwcgX0 _).trans y0
          have z1 := (kcwcgX0 _).trans y1
          have n0 := (kcwcMX0 _).trans c0
          have n1 := (kcwcMX0 _).trans c1
          have nf := fun o => (kfwcMX0 o).trans (cf o)
          have HG2 := hide (grown_set (grown_set (grown_only (unhide HG) hbwc) 0 (.int .i64 v1)) 1 (.int .i64 v2))
          clear kcwcgX0 kfwcgX0 kcwcMX0 kfwcMX0 y0 y1 c0 c1 cf hbwc q0 q1
          go_wp2_with fail
          go_roundw
          case rel => exact ⟨k + 1, by go_num, by omega, by rw [HST.out, ← HV.out.1]; simp [go_sem, *], by rw [HST.out, ← HV.out.2]; simp [go_sem, *], fun o => by simp [go_sem, *], unhide HG2⟩
          case measure => simp [intOf]; omega
      · have hz : decide (cq y cur < 0) = false := decide_eq_false (fun h => hc (cq_lt.1 h))
        rw [if_neg hc] at HST
        clear hc hcurf hyf
        generalize cq y cur = z at *
        have HO := hide hord; clear hord
        obtain ⟨u1, hu1⟩ : ∃ v, v = cur.num := ⟨_, rfl⟩
        obtain ⟨u2, hu2⟩ : ∃ v, v = (cur.den : Int) := ⟨_, rfl⟩
        rw [← hu1] at c0 HO
        rw [← hu2] at c1 HO
        have HV := Lib.hid (And.intro hu1 hu2)
        clear hu1 hu2
        generalize y.num = v1 at *
        generalize (y.den : Int) = v2 at *
        go_upto_region 7 with fail
        go_cut [27] (fun s27 wx => s27 = .bool false ∧ Below wr.heap.size wr wx)
        case first =>
          go_region_held3 (fun w' => w'.cell? ⟨g, (k + 1) * 2, none⟩ = some (.int .i64 v1) ∧ w'.cell? ⟨g, (k + 1) * 2 + 1, none⟩ = some (.int .i64 v2) ∧ w'.cell? ⟨M, 0, none⟩ = some (.int .i64 u1) ∧ w'.cell? ⟨M, 1, none⟩ = some (.int .i64 u2)) (simp [go_sem, *])
            ((go_at_call 89; (with_reducible refine ((unhide HO) _).mono ?_); rintro e w3 ⟨rfl, hbw3⟩; obtain ⟨hcw3, hfw3⟩ := bcell hbw3; have hzw3 := hbw3.size; (try simp at hzw3); (try ((have kw3gX0 := (bnew hbw3) (g) ?pf); (case pf => (first | omega | (simp; done) | (simp; omega))); obtain ⟨kcw3gX0, kfw3gX0, klw3gX0⟩ := kw3gX0)); (try ((have kw3MX0 := (bnew hbw3) (M) ?pf); (case pf => (first | omega | (simp; done) | (simp; omega))); obtain ⟨kcw3MX0, kfw3MX0, klw3MX0⟩ := kw3MX0))))
          all_goals
            go_wp2_with fail
            go_meet
            exact ⟨rfl, (by repeat (first | with_reducible exact Below.refl _ _ | with_reducible assumption | (with_reducible refine Below.trans ?_ (Below.mono (by assumption) (by first | omega | (simp <;> omega)))) | with_reducible apply Below.drew | with_reducible apply below_drewN | (with_reducible refine Below.alloc ?_ (by first | omega | (simp <;> omega)) _) | (with_reducible refine Below.setCell ?_ (by first | omega | (simp <;> omega)) _)))⟩
        case rest =>
          obtain ⟨rfl, hbwc⟩ := hcut
          (skip; (try ((have kwcMX0 := (bnew hbwc) (M) ?pf); (case pf => (first | omega | (simp; done) | (simp; omega))); obtain ⟨kcwcMX0, kfwcMX0, klwcMX0⟩ := kwcMX0)))
          have n0 := (kcwcMX0 _).trans c0
          have n1 := (kcwcMX0 _).trans c1
          have nf := fun o => (kfwcMX0 o).trans (cf o)
          have HG2 := hide (grown_only (unhide HG) hbwc)
          clear kcwcMX0 kfwcMX0 y0 y1 c0 c1 cf hbwc q0 q1
          go_wp2_with fail
          go_roundw
          case rel => exact ⟨k + 1, by go_num, by omega, by rw [HST.out, ← HV.out.1]; exact n0, by rw [HST.out, ← HV.out.2]; exact n1, nf, unhide HG2⟩
          case measure => simp [intOf]; omega
    · obtain rfl : k = l.length := by omega
      rw [List.take_length] at c0 c1
      have qf := fun o => (World.frozen?_of_block (a := ⟨w.heap.size, o, none⟩) (hgr.block w.heap.size hsz2 (fun e => by have := Option.some.inj e; omega))).trans (r2 o)
      have hb := (unhide HBW).grown hgr (by omega) (fun j e => by have := Option.some.inj e; omega)
      have hbz := hb.size
      have HB := hide hb
      clear hb hgr cf m0 m1 r0 r1 r2 hcurf
      go_wp2_with fail
      have hb := unhide HB
      exact bodyPost_ret (v := .agg #[.int .i64 ((minR a l).num), .int .i64 ((minR a l).den)]) (by simp [results, Tryz.results141, go_sem, *]) rfl ⟨rfl, (by repeat (first | with_reducible exact Below.refl _ _ | with_reducible assumption | (with_reducible refine Below.trans ?_ (Below.mono (by assumption) (by first | omega | (simp <;> omega)))) | with_reducible apply Below.drew | with_reducible apply below_drewN | (with_reducible refine Below.alloc ?_ (by first | omega | (simp <;> omega)) _) | (with_reducible refine Below.setCell ?_ (by first | omega | (simp <;> omega)) _)))⟩

set_option maxRecDepth 100000 in
set_option maxHeartbeats 3200000 in
theorem maxFunc_any (A : Option Addr) (c base : Nat) (a : Rat) (l : List Rat) (w : World) (ha : w.ownsRow base 37 2 (.slice A (l.length + 1) c) (l.length + 1) (frcs ((a :: l).map qf))) (hn : l.length ≤ 100) (hf : ∀ y ∈ a :: l, fits y = true) :
    Calls Tryz.prog 142 #[.slice A (l.length + 1) c, .func (.func 89) #[] #[]] w fun e w' => e = .returned (.agg #[.int .i64 ((maxR a l).num), .int .i64 ((maxR a l).den)]) ∧ Below w.heap.size w w' := by
  have hcl := fun (W : World) (hW : W.ownsRow base 37 2 (.slice A (l.length + 1) c) (l.length + 1) (frcs ((a :: l).map qf))) (k : Nat) (hk : k < l.length) => frs_cells hW (k := k + 1) (by omega) (show fAt ((a :: l).map qf) (k + 1) = qf (l.getD k 0) by rw [← fAt_map l k hk]; rfl)
  obtain ⟨g, rfl, hgl, _, a0, a1⟩ := frs_cells ha (k := 0) (by omega) (show fAt ((a :: l).map qf) 0 = qf a from rfl)
  simp only [Nat.zero_mul, Nat.zero_add] at a0 a1
  have hd0 : decide ((l.length : Int) + 1 < 1) = false := decide_eq_false (by omega)
  have HCL := hide hcl
  have HA := hide ha
  have HF := hide hf
  clear hcl ha hf
  go_enter Tryz.func142, Tryz.ntmps142
  go_wp2_with fail
  have hbw : Below w.heap.size w ((w.alloc (.cells #[.int .i64 0, .int .i64 0] 37)).alloc (.cells #[.int .i64 a.num, .int .i64 a.den] 37)) := (by repeat (first | with_reducible exact Below.refl _ _ | with_reducible assumption | (with_reducible refine Below.trans ?_ (Below.mono (by assumption) (by first | omega | (simp <;> omega)))) | with_reducible apply Below.drew | with_reducible apply below_drewN | (with_reducible refine Below.alloc ?_ (by first | omega | (simp <;> omega)) _) | (with_reducible refine Below.setCell ?_ (by first | omega | (simp <;> omega)) _)))
  have m0 : ((w.alloc (.cells #[.int .i64 0, .int .i64 0] 37)).alloc (.cells #[.int .i64 a.num, .int .i64 a.den] 37)).cell? ⟨w.heap.size + 1, 0, none⟩ = some (.int .i64 a.num) := by simp [go_sem]
  have m1 : ((w.alloc (.cells #[.int .i64 0, .int .i64 0] 37)).alloc (.cells #[.int .i64 a.num, .int .i64 a.den] 37)).cell? ⟨w.heap.size + 1, 1, none⟩ = some (.int .i64 a.den) := by simp [go_sem]
  have m2 : ∀ o, ((w.alloc (.cells #[.int .i64 0, .int .i64 0] 37)).alloc (.cells #[.int .i64 a.num, .int .i64 a.den] 37)).frozen? ⟨w.heap.size + 1, o, none⟩ = false := by intro o; simp [go_sem]
  have r0 : ((w.alloc (.cells #[.int .i64 0, .int .i64 0] 37)).alloc (.cells #[.int .i64 a.num, .int .i64 a.den] 37)).cell? ⟨w.heap.size, 0, none⟩ = some (.int .i64 0) := by simp [go_sem]
  have r1 : ((w.alloc (.cells #[.int .i64 0, .int .i64 0] 37)).alloc (.cells #[.int .i64 a.num, .int .i64 a.den] 37)).cell? ⟨w.heap.size, 1, none⟩ = some (.int .i64 0) := by simp [go_sem]
  have r2 : ∀ o, ((w.alloc (.cells #[.int .i64 0, .int .i64 0] 37)).alloc (.cells #[.int .i64 a.num, .int .i64 a.den] 37)).frozen? ⟨w.heap.size, o, none⟩ = false := by intro o; simp [go_sem]
  have hsz : ((w.alloc (.cells #[.int .i64 0, .int .i64 0] 37)).alloc (.cells #[.int .i64 a.num, .int .i64 a.den] 37)).heap.size = w.heap.size + 1 + 1 := by simp
  generalize (w.alloc (.cells #[.int .i64 0, .int .i64 0] 37)).alloc (.cells #[.int .i64 a.num, .int .i64 a.den] 37) = w2 at *
  have hsz1 : w.heap.size + 1 < w2.heap.size := by omega
  have hsz2 : w.heap.size < w2.heap.size := by omega
  have HSZ := Lib.hid hsz; clear hsz
  have HA2 := hide (own_below (unhide HA) hbw)
  have HBW := hide hbw; clear hbw
  obtain ⟨M, hM⟩ : ∃ M, M = w.heap.size + 1 := ⟨_, rfl⟩
  rw [← hM] at m0 m1 hsz1
  have m2' : ∀ o, w2.frozen? ⟨M, o, none⟩ = false := fun o => by rw [hM]; exact m2 o
  have hgM : g < M := by omega
  have hwM : w.heap.size < M := by omega
  have HMM := Lib.hid hM
  rw [← hM]
  clear m2 hM
  go_loopw [6] (fun i wr => ∃ k : Nat, i = .int .i64 ((k : Int) + 1) ∧ k ≤ l.length ∧ wr.cell? ⟨M, 0, none⟩ = some (.int .i64 (maxR a (l.take k)).num) ∧ wr.cell? ⟨M, 1, none⟩ = some (.int .i64 (maxR a (l.take k)).den) ∧ (∀ o, wr.frozen? ⟨M, o, none⟩ = false) ∧ w2.grownBy wr (some M)) (fun i _ => l.length + 1 - (intOf i).toNat)
  case atStart => exact ⟨0, rfl, by omega, m0, m1, m2', World.grownBy.refl _ _⟩
  case round =>
    obtain ⟨k, rfl, hk, c0, c1, cf, hgr⟩ := hrel
    have hsr := hgr.size
    have hMr : M < wr.heap.size := by omega
    have hgr' : g < wr.heap.size := by omega
    have hwr' : w.heap.size < wr.heap.size := by omega
    have q0 := (World.cell?_of_block (a := ⟨w.heap.size, 0, none⟩) (hgr.block w.heap.size hsz2 (fun e => by have := Option.some.inj e; omega))).trans r0
    have q1 := (World.cell?_of_block (a := ⟨w.heap.size, 1, none⟩) (hgr.block w.heap.size hsz2 (fun e => by have := Option.some.inj e; omega))).trans r1
    have hcurf : fits (maxR a (l.take k)) = true := maxR_fits ((unhide HF) a (by simp)) (fun y hy => (unhide HF) y (by simp [List.mem_of_mem_take hy]))
    by_cases hlt : k < l.length
    · have hown := own_kept (unhide HA2) hgr (fun j hj e => by
        have h1 : g = j := Option.some.inj hj
        have h2 : j = M := Option.some.inj e
        omega)
      obtain ⟨g', hg', _, _, y0, y1⟩ := (unhide HCL) wr hown k hlt
      obtain rfl : g = g' := (Addr.mk.inj (Option.some.inj hg')).1
      have hyf : fits (l.getD k 0) = true := (unhide HF) _ (List.mem_cons_of_mem _ (mem_getD hlt))
      have hst : maxR a (l.take (k + 1)) = if maxR a (l.take k) < l.getD k 0 then l.getD k 0 else maxR a (l.take k) := by rw [take_snoc' hlt, maxR_snoc]
      have HST := Lib.hid hst
      have HG := hide hgr
      clear hown hg' hst hgr m0 m1 r0 r1
      generalize maxR a (l.take k) = cur at *
      generalize l.getD k 0 = y at *
      have hord := fun W => orderOf_q y cur hyf hcurf W
      have s1 : (0 : Int) ≤ (k : Int) + 1 := by omega
      have s2 : (k : Int) + 1 < (l.length : Int) + 1 := by omega
      have s3 : ((k : Int) + 1).toNat = k + 1 := by omega
      change wr.cell? ⟨g, (k + 1) * 2, none⟩ = some (.int .i64 y.num) at y0
      change wr.cell? ⟨g, (k + 1) * 2 + 1, none⟩ = some (.int .i64 y.den) at y1
      by_cases hc : cur < y
      · have hz : decide (0 < cq y cur) = true := decide_eq_true (cq_gt.2 hc)
        rw [if_pos hc] at HST
        clear hc hcurf hyf
        generalize cq y cur = z at *
        have HO := hide hord; clear hord
        generalize cur.num = u1 at *
        generalize (cur.den : Int) = u2 at *
        obtain ⟨v1, hv1⟩ : ∃ v, v = y.num := ⟨_, rfl⟩
        obtain ⟨v2, hv2⟩ : ∃ v, v = (y.den : Int) := ⟨_, rfl⟩
        rw [← hv1] at y0 HO
        rw [← hv2] at y1 HO
        have HV := Lib.hid (And.intro hv1 hv2)
        clear hv1 hv2
        go_upto_region 7 with fail
        go_cut [27] (fun s27 wx => s27 = .bool true ∧ Below wr.heap.size wr wx)
        case first =>
          go_region_held3 (fun w' => w'.cell? ⟨g, (k + 1) * 2, none⟩ = some (.int .i64 v1) ∧ w'.cell? ⟨g, (k + 1) * 2 + 1, none⟩ = some (.int .i64 v2) ∧ w'.cell? ⟨M, 0, none⟩ = some (.int .i64 u1) ∧ w'.cell? ⟨M, 1, none⟩ = some (.int .i64 u2)) (simp [go_sem, *])
            ((go_at_call 89; (with_reducible refine ((unhide HO) _).mono ?_); rintro e w3 ⟨rfl, hbw3⟩; obtain ⟨hcw3, hfw3⟩ := bcell hbw3; have hzw3 := hbw3.size; (try simp at hzw3); (try ((have kw3gX0 := (bnew hbw3) (g) ?pf); (case pf => (first | omega | (simp; done) | (simp; omega))); obtain ⟨kcw3gX0, kfw3gX0, klw3gX0⟩ := kw3gX0)); (try ((have kw3MX0 := (bnew hbw3) (M) ?pf); (case pf => (first | omega | (simp; done) | (simp; omega))); obtain ⟨kcw3MX0, kfw3MX0, klw3MX0⟩ := kw3MX0))))
          all_goals
            go_wp2_with fail
            go_meet
            exact ⟨rfl, (by repeat (first | with_reducible exact Below.refl _ _ | with_reducible assumption | (with_reducible refine Below.trans ?_ (Below.mono (by assumption) (by first | omega | (simp <;> omega)))) | with_reducible apply Below.drew | with_reducible apply below_drewN | (with_reducible refine Below.alloc ?_ (by first | omega | (simp <;> omega)) _) | (with_reducible refine Below.setCell ?_ (by first | omega | (simp <;> omega)) _)))⟩
        case rest =>
          obtain ⟨rfl, hbwc⟩ := hcut
          (skip; (try ((have kwcgX0 := (bnew hbwc) (g) ?pf); (case pf => (first | omega | (simp; done) | (simp; omega))); obtain ⟨kcwcgX0, kfwcgX0, klwcgX0⟩ := kwcgX0)); (try ((have kwcMX0 := (bnew hbwc) (M) ?pf); (case pf => (first | omega | (simp; done) | (simp; omega))); obtain ⟨kcwcMX0, kfwcMX0, klwcMX0⟩ := kwcMX0)))
          have z0 := (kcwcgX0 _).trans y0
          have z1 := (kcwcgX0 _).trans y1
          have n0 := (kcwcMX0 _).trans c0
          have n1 := (kcwcMX0 _).trans c1
          have nf := fun o => (kfwcMX0 o).trans (cf o)
          have HG2 := hide (grown_set (grown_set (grown_only (unhide HG) hbwc) 0 (.int .i64 v1)) 1 (.int .i64 v2))
          clear kcwcgX0 kfwcgX0 kcwcMX0 kfwcMX0 y0 y1 c0 c1 cf hbwc q0 q1
          go_wp2_with fail
          go_roundw
          case rel => exact ⟨k + 1, by go_num, by omega, by rw [HST.out, ← HV.out.1]; simp [go_sem, *], by rw [HST.out, ← HV.out.2]; simp [go_sem, *], fun o => by simp [go_sem, *], unhide HG2⟩
          case measure => simp [intOf]; omega
      · have hz : decide (0 < cq y cur) = false := decide_eq_false (fun h => hc (cq_gt.1 h))
        rw [if_neg hc] at HST
        clear hc hcurf hyf
        generalize cq y cur = z at *
        have HO := hide hord; clear hord
        obtain ⟨u1, hu1⟩ : ∃ v, v = cur.num := ⟨_, rfl⟩
        obtain ⟨u2, hu2⟩ : ∃ v, v = (cur.den : Int) := ⟨_, rfl⟩
        rw [← hu1] at c0 HO
        rw [← hu2] at c1 HO
        have HV := Lib.hid (And.intro hu1 hu2)
        clear hu1 hu2
        generalize y.num = v1 at *
        generalize (y.den : Int) = v2 at *
        go_upto_region 7 with fail
        go_cut [27] (fun s27 wx => s27 = .bool false ∧ Below wr.heap.size wr wx)
        case first =>
          go_region_held3 (fun w' => w'.cell? ⟨g, (k + 1) * 2, none⟩ = some (.int .i64 v1) ∧ w'.cell? ⟨g, (k + 1) * 2 + 1, none⟩ = some (.int .i64 v2) ∧ w'.cell? ⟨M, 0, none⟩ = some (.int .i64 u1) ∧ w'.cell? ⟨M, 1, none⟩ = some (.int .i64 u2)) (simp [go_sem, *])
            ((go_at_call 89; (with_reducible refine ((unhide HO) _).mono ?_); rintro e w3 ⟨rfl, hbw3⟩; obtain ⟨hcw3, hfw3⟩ := bcell hbw3; have hzw3 := hbw3.size; (try simp at hzw3); (try ((have kw3gX0 := (bnew hbw3) (g) ?pf); (case pf => (first | omega | (simp; done) | (simp; omega))); obtain ⟨kcw3gX0, kfw3gX0, klw3gX0⟩ := kw3gX0)); (try ((have kw3MX0 := (bnew hbw3) (M) ?pf); (case pf => (first | omega | (simp; done) | (simp; omega))); obtain ⟨kcw3MX0, kfw3MX0, klw3MX0⟩ := kw3MX0))))
          all_goals
            go_wp2_with fail
            go_meet
            exact ⟨rfl, (by repeat (first | with_reducible exact Below.refl _ _ | with_reducible assumption | (with_reducible refine Below.trans ?_ (Below.mono (by assumption) (by first | omega | (simp <;> omega)))) | with_reducible apply Below.drew | with_reducible apply below_drewN | (with_reducible refine Below.alloc ?_ (by first | omega | (simp <;> omega)) _) | (with_reducible refine Below.setCell ?_ (by first | omega | (simp <;> omega)) _)))⟩
        case rest =>
          obtain ⟨rfl, hbwc⟩ := hcut
          (skip; (try ((have kwcMX0 := (bnew hbwc) (M) ?pf); (case pf => (first | omega | (simp; done) | (simp; omega))); obtain ⟨kcwcMX0, kfwcMX0, klwcMX0⟩ := kwcMX0)))
          have n0 := (kcwcMX0 _).trans c0
          have n1 := (kcwcMX0 _).trans c1
          have nf := fun o => (kfwcMX0 o).trans (cf o)
          have HG2 := hide (grown_only (unhide HG) hbwc)
          clear kcwcMX0 kfwcMX0 y0 y1 c0 c1 cf hbwc q0 q1
          go_wp2_with fail
          go_roundw
          case rel => exact ⟨k + 1, by go_num, by omega, by rw [HST.out, ← HV.out.1]; exact n0, by rw [HST.out, ← HV.out.2]; exact n1, nf, unhide HG2⟩
          case measure => simp [intOf]; omega
    · obtain rfl : k = l.length := by omega
      rw [List.take_length] at c0 c1
      have qf := fun o => (World.frozen?_of_block (a := ⟨w.heap.size, o, none⟩) (hgr.block w.heap.size hsz2 (fun e => by have := Option.some.inj e; omega))).trans (r2 o)
      have hb := (unhide HBW).grown hgr (by omega) (fun j e => by have := Option.some.inj e; omega)
      have hbz := hb.size
      have HB := hide hb
      clear hb hgr cf m0 m1 r0 r1 r2 hcurf
      go_wp2_with fail
      have hb := unhide HB
      exact bodyPost_ret (v := .agg #[.int .i64 ((maxR a l).num), .int .i64 ((maxR a l).den)]) (by simp [results, Tryz.results142, go_sem, *]) rfl ⟨rfl, (by repeat (first | with_reducible exact Below.refl _ _ | with_reducible assumption | (with_reducible refine Below.trans ?_ (Below.mono (by assumption) (by first | omega | (simp <;> omega)))) | with_reducible apply Below.drew | with_reducible apply below_drewN | (with_reducible refine Below.alloc ?_ (by first | omega | (simp <;> omega)) _) | (with_reducible refine Below.setCell ?_ (by first | omega | (simp <;> omega)) _)))⟩
end Go.Proofs.YtjggjegjhcpjhaaGreat

/-
  Chapter 2's model: a fraction put in its place in a slice of fractions.
-/
import Derived.Test.YthccdooacbablaaFm
import Derived.Test.YthccdooacbablaaLawS
namespace Go.Proofs.Ythccdooacbablaa
open Go.RowKit Rm

/-! ### append of a slice that lies anywhere -/
/-- The value is a slice of m elements whose cells are the given ones. -/
def Lies (w : World) (x : Value) (m : Nat) (news : List Value) : Prop :=
  (x = .slice none 0 0 ∧ m = 0 ∧ news = []) ∨ ∃ (ad : Addr) (c : Nat), x = .slice (some ad) m c ∧ ∀ (j : Nat) (u : Value), news[j]? = some u → w.cell? (ad.add j) = some u
section
variable {P : Program} {w : World}
theorem wp_append_any {o : Oper} {a : Act} {K : Act → World → Prop} {Q : Exit → Act → World → Prop} (s x : Operand) (t : TypeId)
    (ho : o.op = .call { callee := .builtin .append, args := #[s, x], argTypes := #[t, t] })
    (base : Nat) (e : TypeId) (i : TypeInfo) (z : Value) (size bytes : Nat) (ht : P.underlying t = some (.slice e)) (hi : P.info? e = some i) (hz : i.zero = some z)
    (hsize : i.size = size) (hby : i.bytes = bytes) (hzs : z.cells.size = size) (hsz : 0 < size)
    (v : Value) (n : Nat) (xs : List Value) (hs : a.eval s = v) (hown : w.ownsRow base e size v n xs)
    (xv : Value) (m : Nat) (news : List Value) (hx : a.eval x = xv) (hlie : Lies w xv m news) (hl : news.length = m * size) (h1 : ∀ u ∈ news, u.oneCell' = true)
    (h63 : n + m ≤ maxLen) (hbytes : (n + m) * bytes ≤ 140737488355328) (hbase : base ≤ w.heap.size) (N : Nat) (hN : n + m = N)
    (h : ∀ (A : Option Addr) (c : Nat) (w' : World), w'.ownsRow base e size (.slice A N c) N (xs ++ news) → w.grownBy w' v.ownBlock → K (a.put o.dst (.slice A N c)) w') : o.wp P a w K Q := by
  subst hN
  have hrun : ∃ v' w', (Builtin.append_ #[t, t] o.type #[v, xv]).run P w = .ok v' w' ∧ w'.ownsRow base e size v' (n + m) (xs ++ news) ∧ w.grownBy w' v.ownBlock := by
    rcases hlie with ⟨rfl, rfl, rfl⟩ | ⟨ad, c, rfl, hnews⟩
    · exact ⟨v, w, run_append_owned_none w base t o.type e i size ht hi v n xs hown, by simpa using hown, World.grownBy.refl _ _⟩
    · obtain ⟨v', w', hr, h2, h3, _⟩ := run_append_own (P := P) w base t o.type e i z size bytes ht hi hz hsize hby hzs hsz v n xs hown ad m c news hl hnews h1 h63 hbytes hbase
      exact ⟨v', w', hr, h2, h3⟩
  obtain ⟨v', w', hr, h2, h3⟩ := hrun
  obtain ⟨A, c, rfl⟩ := own_slice h2
  unfold Oper.wp execOp
  simp only [ho, resolve, invoke, builtin, Sem.run_bind, Sem.run_pure, Result.andThen_ok, List.map_toArray, List.map_cons, List.map_nil, hs, hx, hr]
  exact h A c w' h2 h3
theorem step_append_any {ops : Array Oper} {o : Oper} {a : Act} {K : Act → World → Prop} {Q : Exit → Act → World → Prop} {E : Prop} (hgd : o.guard = none) (s x : Operand) (t : TypeId)
    (ho : o.op = .call { callee := .builtin .append, args := #[s, x], argTypes := #[t, t] })
    (base : Nat) (e : TypeId) (i : TypeInfo) (z : Value) (size bytes : Nat) (ht : P.underlying t = some (.slice e)) (hi : P.info? e = some i) (hz : i.zero = some z)
    (hsize : i.size = size) (hby : i.bytes = bytes) (hzs : z.cells.size = size) (hsz : 0 < size)
    (v : Value) (n : Nat) (xs : List Value) (hs : a.eval s = v) (hown : w.ownsRow base e size v n xs)
    (xv : Value) (m : Nat) (news : List Value) (hx : a.eval x = xv) (hlie : Lies w xv m news) (hl : news.length = m * size) (h1 : ∀ u ∈ news, u.oneCell' = true)
    (h63 : n + m ≤ maxLen) (hbytes : (n + m) * bytes ≤ 140737488355328) (hbase : base ≤ w.heap.size) (N : Nat) (hN : n + m = N)
    (h : ∀ (A : Option Addr) (c : Nat) (w' : World), w'.ownsRow base e size (.slice A N c) N (xs ++ news) → w.grownBy w' v.ownBlock → K (a.put o.dst (.slice A N c)) w') :
    if Region.wanted o (yielded ops a.tmps) = true then Oper.wp P o a w K Q else E := by
  have hw : Region.wanted o (yielded ops a.tmps) = true := by simp [Region.wanted, hgd]
  rw [if_pos hw]
  exact wp_append_any s x t ho base e i z size bytes ht hi hz hsize hby hzs hsz v n xs hs hown xv m news hx hlie hl h1 h63 hbytes hbase N hN h
end
theorem maxLen_ge : 1048576 ≤ maxLen := by unfold maxLen; omega
theorem lit0 (W : World) (B : Nat) (e : TypeId) (X : Nat) (hX : X = W.heap.size) (hB : B ≤ W.heap.size) : (W.alloc (.cells #[] e)).ownsRow B e 2 (.slice (some ⟨X, 0, none⟩) 0 0) 0 [] := by
  subst hX
  exact World.ownsRow_lit W #[] 0 hB (by simp [maxLen]) (by simp)
theorem add_at (g k j : Nat) : (⟨g, k, none⟩ : Addr).add j = ⟨g, k + j, none⟩ := by unfold Addr.add; split <;> simp_all
theorem lies2 {W : World} {Y c : Nat} {a b : Value} (h0 : W.cell? ⟨Y, 0, none⟩ = some a) (h1 : W.cell? ⟨Y, 1, none⟩ = some b) : Lies W (.slice (some ⟨Y, 0, none⟩) 1 c) 1 [a, b] := by
  refine .inr ⟨_, _, rfl, fun j u hu => ?_⟩
  rw [add_at]
  match j, hu with
  | 0, hu => simp only [List.getElem?_cons_zero, Option.some.injEq] at hu; subst hu; exact h0
  | 1, hu => simp only [List.getElem?_cons_succ, List.getElem?_cons_zero, Option.some.injEq] at hu; subst hu; exact h1
  | j + 2, hu => simp at hu
theorem lies_part {W : World} {base g n c d k m : Nat} {e : TypeId} {xs : List Value} (h : W.ownsRow base e 2 (.slice (some ⟨g, 0, none⟩) n c) n xs) (hkm : k + m ≤ n) : Lies W (.slice (some ⟨g, k * 2, none⟩) m d) m ((xs.drop (k * 2)).take (m * 2)) := by
  refine .inr ⟨_, _, rfl, fun j u hu => ?_⟩
  rw [add_at]
  have hj : j < m * 2 := by
    rcases Nat.lt_or_ge j (m * 2) with h1 | h1
    · exact h1
    · rw [List.getElem?_eq_none (by simp; omega)] at hu; cases hu
  rw [List.getElem?_take, if_pos hj, List.getElem?_drop] at hu
  rw [h.cellAt (k * 2 + j) (by omega)]
  exact hu
theorem lies_none (W : World) (ad : Addr) (d : Nat) : Lies W (.slice (some ad) 0 d) 0 [] := .inr ⟨ad, d, rfl, fun j u hu => by simp at hu⟩

/-! ### The place of a fraction -/
def pIdx : List Rat → Rat → Nat
  | [], _ => 0
  | y :: l, x => if y < x then pIdx l x + 1 else 0
theorem pIdx_le : ∀ (l : List Rat) (x : Rat), pIdx l x ≤ l.length
  | [], _ => Nat.le_refl _
  | y :: l, x => by have := pIdx_le l x; unfold pIdx; split <;> simp <;> omega
theorem pIdx_lt : ∀ (l : List Rat) (x : Rat) (i : Nat), i < pIdx l x → l.getD i 0 < x
  | [], _, i, h => by simp [pIdx] at h
  | y :: l, x, i, h => by
    unfold pIdx at h
    split at h
    · match i, h with
      | 0, _ => assumption
      | i + 1, h => exact pIdx_lt l x i (by omega)
    · omega
theorem pIdx_at : ∀ (l : List Rat) (x : Rat), pIdx l x < l.length → ¬ l.getD (pIdx l x) 0 < x
  | [], _, h => by simp [pIdx] at h
  | y :: l, x, h => by
    by_cases hy : y < x
    · have e : pIdx (y :: l) x = pIdx l x + 1 := by simp only [pIdx, if_pos hy]
      rw [e] at h ⊢
      exact pIdx_at l x (by simpa using h)
    · have e : pIdx (y :: l) x = 0 := by simp only [pIdx, if_neg hy]
      rw [e]
      exact hy
theorem putL_same : ∀ (l : List Rat) (x : Rat), pIdx l x < l.length → l.getD (pIdx l x) 0 = x → putL l x = l
  | [], _, h, _ => by simp [pIdx] at h
  | y :: l, x, h, h2 => by
    by_cases hy : y < x
    · have e : pIdx (y :: l) x = pIdx l x + 1 := by simp only [pIdx, if_pos hy]
      rw [e] at h h2
      simp only [putL, if_pos hy]
      rw [putL_same l x (by simpa using h) h2]
    · have e : pIdx (y :: l) x = 0 := by simp only [pIdx, if_neg hy]
      rw [e] at h2
      have h3 : y = x := h2
      simp only [putL, if_neg hy, if_pos h3]
theorem putL_new : ∀ (l : List Rat) (x : Rat), (pIdx l x < l.length → ¬ l.getD (pIdx l x) 0 = x) → putL l x = l.take (pIdx l x) ++ x :: l.drop (pIdx l x)
  | [], _, _ => rfl
  | y :: l, x, h => by
    by_cases hy : y < x
    · have e : pIdx (y :: l) x = pIdx l x + 1 := by simp only [pIdx, if_pos hy]
      rw [e] at h ⊢
      simp only [putL, if_pos hy, List.take_succ_cons, List.drop_succ_cons, List.cons_append]
      rw [putL_new l x (fun hl => h (by simpa using hl))]
    · have e : pIdx (y :: l) x = 0 := by simp only [pIdx, if_neg hy]
      rw [e] at h ⊢
      have h3 : ¬ y = x := h (by simp)
      simp only [putL, if_neg hy, if_neg h3, List.take_zero, List.drop_zero, List.nil_append]
theorem frcs_take (xs : List Fr) (k : Nat) : frcs (xs.take k) = (frcs xs).take (k * 2) := by
  induction xs generalizing k with
  | nil => simp [frcs]
  | cons x xs ih =>
    cases k with
    | zero => simp [frcs]
    | succ k =>
      rw [List.take_succ_cons, show (k + 1) * 2 = k * 2 + 1 + 1 by omega]
      show frc x ++ frcs (xs.take k) = (frc x ++ frcs xs).take (k * 2 + 1 + 1)
      rw [ih]; rfl
theorem frcs_drop (xs : List Fr) (k : Nat) : frcs (xs.drop k) = (frcs xs).drop (k * 2) := by
  induction xs generalizing k with
  | nil => simp [frcs]
  | cons x xs ih =>
    cases k with
    | zero => simp
    | succ k =>
      rw [List.drop_succ_cons, show (k + 1) * 2 = k * 2 + 1 + 1 by omega]
      show frcs (xs.drop k) = (frc x ++ frcs xs).drop (k * 2 + 1 + 1)
      rw [ih]; rfl
theorem frcs_one {xs : List Value} : ∀ {ys : List Fr}, xs = frcs ys → ∀ u ∈ xs, u.oneCell' = true := by
  rintro ys rfl u hu
  unfold frcs at hu
  obtain ⟨y, _, hy⟩ := List.mem_flatMap.1 hu
  simp only [frc, List.mem_cons, List.not_mem_nil, or_false] at hy
  rcases hy with rfl | rfl <;> rfl
theorem qAtR (l : List Rat) (k : Nat) (hk : k < l.length) : fAt (l.map qf) k = ((l.getD k 0).num, ((l.getD k 0).den : Int)) := by
  unfold fAt
  simp [hk, qf]

theorem own_cap {w : World} {base n c : Nat} {A : Option Addr} {e : TypeId} {size : Nat} {xs : List Value} (h : w.ownsRow base e size (.slice A n c) n xs) : n ≤ c := by
  rcases h.2 with ⟨hv, h0⟩ | ⟨g, cap, _, hv, _, _, h3, _⟩
  · injection hv with _ h1 h2; omega
  · injection hv with _ h1 h2; omega
theorem own_lenR {w : World} {base n : Nat} {v : Value} {l : List Rat} (h : w.ownsRow base 26 2 v n (frcs (l.map qf))) : l.length = n := by
  have := h.1
  rw [frcs_len, List.length_map] at this
  omega
set_option maxRecDepth 100000 in
set_option maxHeartbeats 3200000 in
theorem imPut_any (A : Option Addr) (n c base : Nat) (l : List Rat) (x : Rat) (w : World) (ha : w.ownsRow base 26 2 (.slice A n c) n (frcs (l.map qf))) (hbw : base ≤ w.heap.size) (hn : n ≤ 1000) (hA : n = 0 → A = none ∧ c = 0) (hf : ∀ z ∈ l, fits z = true) (hx : fits x = true) :
    Calls Try.prog 169 #[.slice A n c, .agg #[.int .i64 (x.num), .int .i64 (x.den)]] w fun e w' => ∃ v : Value, e = .returned v ∧ w'.ownsRow base 26 2 v (putL l x).length (frcs ((putL l x).map qf)) ∧ Below w.heap.size w w' := by
  obtain ⟨i0, hi0, hz0, hz1, hz2⟩ := info_parts iRat
  have hlen := own_lenR ha
  have hKn := pIdx_le l x
  have hKlt := pIdx_lt l x
  have hKat := pIdx_at l x
  have hsame := putL_same l x
  have hnew := putL_new l x
  rw [hlen] at hKn hKat hsame hnew
  have hor : ∀ k, k < n → ∀ W : World, Calls Try.prog 99 #[.agg #[.int .i64 ((l.getD k 0).num), .int .i64 ((l.getD k 0).den)], .agg #[.int .i64 (x.num), .int .i64 (x.den)]] W fun e w' => e = .returned (.int .i64 (cq (l.getD k 0) x)) ∧ Below W.heap.size W w' := by
    intro k hk W
    refine raCmp_q _ x (hf _ ?_) hx W
    rw [List.getD_eq_getElem?_getD, List.getElem?_eq_getElem (by omega)]
    exact List.getElem_mem _
  have HOR := hide hor; have HA := hide ha; have HSM := hide hsame; have HNW := hide hnew; have HLT := hide hKlt; have HAT := hide hKat
  have HL := Lib.hid hlen
  clear hor ha hsame hnew hKlt hKat hf hx
  obtain ⟨K, hK⟩ : ∃ K, K = pIdx l x := ⟨_, rfl⟩
  rw [← hK] at hKn HSM HNW HLT HAT
  clear hK
  obtain ⟨xn, hxn⟩ : ∃ r, r = x.num := ⟨_, rfl⟩
  obtain ⟨xd, hxd⟩ : ∃ r, r = (x.den : Int) := ⟨_, rfl⟩
  rw [← hxn, ← hxd] at HOR
  rw [← hxn, ← hxd]
  have HXN := Lib.hid hxn; have HXD := Lib.hid hxd
  clear hxn hxd
  go_enter Try.func169, Try.ntmps169
  go_wp2
  go_loopw [5] (fun i wr => ∃ k : Nat, i = .int .i64 k ∧ k ≤ K ∧ wr.cell? ⟨w.heap.size, 0, none⟩ = some (.int .i64 xn) ∧ wr.cell? ⟨w.heap.size, 1, none⟩ = some (.int .i64 xd) ∧ w.heap.size < wr.heap.size ∧ Below w.heap.size w wr) (fun i _ => K - (intOf i).toNat)
  case atStart => exact ⟨0, rfl, Nat.zero_le _, by simp [go_sem], by simp [go_sem], by simp, (by repeat (first | with_reducible exact Below.refl _ _ | with_reducible assumption | (with_reducible refine Below.trans ?_ (Below.mono (by assumption) (by first | omega | (simp <;> omega)))) | with_reducible apply Below.drew | with_reducible apply below_drewN | (with_reducible refine Below.alloc ?_ (by first | omega | (simp <;> omega)) _) | (with_reducible refine Below.setCell ?_ (by first | omega | (simp <;> omega)) _)))⟩
  case round =>
    obtain ⟨k, rfl, hk, hx0, hx1, hxl, hbwr⟩ := hrel
    have hzwr := hbwr.size
    have HB := hide hbwr
    by_cases hkK : k < K
    · have hkn : k < n := by omega
      obtain ⟨g, rfl, hg, _, f0, f1⟩ := frs_cells (own_below (unhide HA) hbwr) hkn (qAtR l k (by rw [HL.out]; exact hkn))
      have hcq : cq (l.getD k 0) x = -1 := by unfold cq; rw [if_pos ((unhide HLT) k hkK)]
      have hor := (unhide HOR) k hkn
      rw [hcq] at hor
      have HO := hide hor
      clear hor hcq hbwr
      generalize (l.getD k 0).num = yn at *
      generalize ((l.getD k 0).den : Int) = yd at *
      go_upto_region 2 with fail
      go_cut [18] (fun s18 wx => s18 = .bool true ∧ wx.cell? ⟨w.heap.size, 0, none⟩ = some (.int .i64 xn) ∧ wx.cell? ⟨w.heap.size, 1, none⟩ = some (.int .i64 xd) ∧ Below wr.heap.size wr wx)
      case first =>
        go_region_held3 (fun w' => w'.cell? ⟨g, k * 2, none⟩ = some (.int .i64 yn) ∧ w'.cell? ⟨g, k * 2 + 1, none⟩ = some (.int .i64 yd) ∧ w'.cell? ⟨w.heap.size, 0, none⟩ = some (.int .i64 xn) ∧ w'.cell? ⟨w.heap.size, 1, none⟩ = some (.int .i64 xd)) (simp [go_sem, *])
          ((go_at_call 99; (with_reducible refine ((unhide HO) _).mono ?_); rintro e w3 ⟨rfl, hbw3⟩; obtain ⟨hcw3, hfw3⟩ := bcell hbw3; have hzw3 := hbw3.size; (try simp at hzw3); (try ((have kw3gX0 := (bnew hbw3) (g) ?pf); (case pf => (first | omega | (simp; done) | (simp; omega))); obtain ⟨kcw3gX0, kfw3gX0, klw3gX0⟩ := kw3gX0)); (try ((have kw3w0 := (bnew hbw3) (w.heap.size) ?pf); (case pf => (first | omega | (simp; done) | (simp; omega))); obtain ⟨kcw3w0, kfw3w0, klw3w0⟩ := kw3w0))))
        all_goals
          go_wp2_with fail
          go_meet
          exact ⟨rfl, by simp [*], by simp [*], (by repeat (first | with_reducible exact Below.refl _ _ | with_reducible assumption | (with_reducible refine Below.trans ?_ (Below.mono (by assumption) (by first | omega | (simp <;> omega)))) | with_reducible apply Below.drew | with_reducible apply below_drewN | (with_reducible refine Below.alloc ?_ (by first | omega | (simp <;> omega)) _) | (with_reducible refine Below.setCell ?_ (by first | omega | (simp <;> omega)) _)))⟩
      case rest =>
        obtain ⟨rfl, c0, c1, hbwc⟩ := hcut
        have hzc := hbwc.size
        have hb := unhide HB
        have HBZ := hide (hb.trans (hbwc.mono hb.size))
        clear hb hbwc
        go_wp2_with fail
        go_roundw
        case rel => exact ⟨k + 1, by go_num, by omega, c0, c1, by omega, unhide HBZ⟩
        case measure => simp [intOf]; omega
    · obtain rfl : k = K := by omega
      by_cases hKl : k < n
      · obtain ⟨g, rfl, hg, _, f0, f1⟩ := frs_cells (own_below (unhide HA) hbwr) hKl (qAtR l k (by rw [HL.out]; exact hKl))
        have hor := (unhide HOR) k hKl
        have hcq : ¬ cq (l.getD k 0) x < 0 := fun h => (unhide HAT) hKl (cq_lt.1 h)
        have hcd : decide (cq (l.getD k 0) x < 0) = false := decide_eq_false hcq
        have HO := hide hor
        clear hor hbwr hcq
        generalize cq (l.getD k 0) x = z at *
        by_cases heq : l.getD k 0 = x
        · have HE := Lib.hid ((unhide HSM) hKl heq)
          rw [heq] at f0 f1 HO
          rw [← HXN.out] at f0 HO
          rw [← HXD.out] at f1 HO
          clear heq
          go_upto_region 2 with fail
          go_cut [18] (fun s18 wx => s18 = .bool false ∧ wx.cell? ⟨w.heap.size, 0, none⟩ = some (.int .i64 xn) ∧ wx.cell? ⟨w.heap.size, 1, none⟩ = some (.int .i64 xd) ∧ wx.cell? ⟨g, k * 2, none⟩ = some (.int .i64 xn) ∧ wx.cell? ⟨g, k * 2 + 1, none⟩ = some (.int .i64 xd) ∧ Below wr.heap.size wr wx)
          case first =>
            go_region_held3 (fun w' => w'.cell? ⟨g, k * 2, none⟩ = some (.int .i64 xn) ∧ w'.cell? ⟨g, k * 2 + 1, none⟩ = some (.int .i64 xd) ∧ w'.cell? ⟨w.heap.size, 0, none⟩ = some (.int .i64 xn) ∧ w'.cell? ⟨w.heap.size, 1, none⟩ = some (.int .i64 xd)) (simp [go_sem, *])
              ((go_at_call 99; (with_reducible refine ((unhide HO) _).mono ?_); rintro e w3 ⟨rfl, hbw3⟩; obtain ⟨hcw3, hfw3⟩ := bcell hbw3; have hzw3 := hbw3.size; (try simp at hzw3); (try ((have kw3gX0 := (bnew hbw3) (g) ?pf); (case pf => (first | omega | (simp; done) | (simp; omega))); obtain ⟨kcw3gX0, kfw3gX0, klw3gX0⟩ := kw3gX0)); (try ((have kw3w0 := (bnew hbw3) (w.heap.size) ?pf); (case pf => (first | omega | (simp; done) | (simp; omega))); obtain ⟨kcw3w0, kfw3w0, klw3w0⟩ := kw3w0))))
            all_goals
              go_wp2_with fail
              go_meet
              exact ⟨by simp [*], by simp [*], by simp [*], by simp [*], by simp [*], (by repeat (first | with_reducible exact Below.refl _ _ | with_reducible assumption | (with_reducible refine Below.trans ?_ (Below.mono (by assumption) (by first | omega | (simp <;> omega)))) | with_reducible apply Below.drew | with_reducible apply below_drewN | (with_reducible refine Below.alloc ?_ (by first | omega | (simp <;> omega)) _) | (with_reducible refine Below.setCell ?_ (by first | omega | (simp <;> omega)) _)))⟩
          case rest =>
            obtain ⟨rfl, c0, c1, d0, d1, hbwc⟩ := hcut
            have hzc := hbwc.size
            have hb := unhide HB
            have HBZ := hide (hb.trans (hbwc.mono hb.size))
            clear hb hbwc hx0 hx1 f0 f1
            go_upto_region 4 with fail
            go_cut [32] (fun s32 wx => s32 = .bool true ∧ Below wc.heap.size wc wx)
            case first =>
              go_quiet (fail)
              go_wp2_with fail
              go_meet
              exact ⟨by simp, (by repeat (first | with_reducible exact Below.refl _ _ | with_reducible assumption | (with_reducible refine Below.trans ?_ (Below.mono (by assumption) (by first | omega | (simp <;> omega)))) | with_reducible apply Below.drew | with_reducible apply below_drewN | (with_reducible refine Below.alloc ?_ (by first | omega | (simp <;> omega)) _) | (with_reducible refine Below.setCell ?_ (by first | omega | (simp <;> omega)) _)))⟩
            case rest =>
              obtain ⟨rfl, hbwd⟩ := hcut
              have hb := unhide HBZ
              have hbe := hb.trans (hbwd.mono hb.size)
              have HBE := hide hbe
              clear hb hbwd hbe c0 c1 d0 d1
              go_wp2_with fail
              go_ret
              exact ⟨_, rfl, by rw [HE.out, HL.out]; exact own_below (unhide HA) (unhide HBE), unhide HBE⟩
        · have HNEW := Lib.hid ((unhide HNW) (fun _ => heq))
          have hne : ¬ ((l.getD k 0).num = xn ∧ ((l.getD k 0).den : Int) = xd) := fun h => heq (eq_parts.1 ⟨h.1.trans HXN.out, h.2.trans HXD.out⟩)
          clear heq
          generalize (l.getD k 0).num = yn at *
          generalize ((l.getD k 0).den : Int) = yd at *
          have hcap := own_cap (unhide HA)
          go_upto_region 2 with fail
          go_cut [18] (fun s18 wx => s18 = .bool false ∧ wx.cell? ⟨w.heap.size, 0, none⟩ = some (.int .i64 xn) ∧ wx.cell? ⟨w.heap.size, 1, none⟩ = some (.int .i64 xd) ∧ wx.cell? ⟨g, k * 2, none⟩ = some (.int .i64 yn) ∧ wx.cell? ⟨g, k * 2 + 1, none⟩ = some (.int .i64 yd) ∧ Below wr.heap.size wr wx)
          case first =>
            go_region_held3 (fun w' => w'.cell? ⟨g, k * 2, none⟩ = some (.int .i64 yn) ∧ w'.cell? ⟨g, k * 2 + 1, none⟩ = some (.int .i64 yd) ∧ w'.cell? ⟨w.heap.size, 0, none⟩ = some (.int .i64 xn) ∧ w'.cell? ⟨w.heap.size, 1, none⟩ = some (.int .i64 xd)) (simp [go_sem, *])
              ((go_at_call 99; (with_reducible refine ((unhide HO) _).mono ?_); rintro e w3 ⟨rfl, hbw3⟩; obtain ⟨hcw3, hfw3⟩ := bcell hbw3; have hzw3 := hbw3.size; (try simp at hzw3); (try ((have kw3gX0 := (bnew hbw3) (g) ?pf); (case pf => (first | omega | (simp; done) | (simp; omega))); obtain ⟨kcw3gX0, kfw3gX0, klw3gX0⟩ := kw3gX0)); (try ((have kw3w0 := (bnew hbw3) (w.heap.size) ?pf); (case pf => (first | omega | (simp; done) | (simp; omega))); obtain ⟨kcw3w0, kfw3w0, klw3w0⟩ := kw3w0))))
            all_goals
              go_wp2_with fail
              go_meet
              exact ⟨by simp [*], by simp [*], by simp [*], by simp [*], by simp [*], (by repeat (first | with_reducible exact Below.refl _ _ | with_reducible assumption | (with_reducible refine Below.trans ?_ (Below.mono (by assumption) (by first | omega | (simp <;> omega)))) | with_reducible apply Below.drew | with_reducible apply below_drewN | (with_reducible refine Below.alloc ?_ (by first | omega | (simp <;> omega)) _) | (with_reducible refine Below.setCell ?_ (by first | omega | (simp <;> omega)) _)))⟩
          case rest =>
            obtain ⟨rfl, c0, c1, d0, d1, hbwc⟩ := hcut
            have hzc := hbwc.size
            have hb := unhide HB
            have HBZ := hide (hb.trans (hbwc.mono hb.size))
            clear hb hbwc hx0 hx1 f0 f1
            go_upto_region 4 with fail
            go_cut [32] (fun s32 wx => s32 = .bool false ∧ wx.cell? ⟨w.heap.size, 0, none⟩ = some (.int .i64 xn) ∧ wx.cell? ⟨w.heap.size, 1, none⟩ = some (.int .i64 xd) ∧ Below wc.heap.size wc wx)
            case first =>
              by_cases hy : yn = xn
              · subst hy
                have h1 : (yd == xd) = false := by simpa using hne
                have h2 : decide (yd = xd) = false := by simpa using hne
                clear hne
                go_quiet (fail)
                go_wp2_with fail
                go_meet
                exact ⟨by simp [*], by simp [*], by simp [*], (by repeat (first | with_reducible exact Below.refl _ _ | with_reducible assumption | (with_reducible refine Below.trans ?_ (Below.mono (by assumption) (by first | omega | (simp <;> omega)))) | with_reducible apply Below.drew | with_reducible apply below_drewN | (with_reducible refine Below.alloc ?_ (by first | omega | (simp <;> omega)) _) | (with_reducible refine Below.setCell ?_ (by first | omega | (simp <;> omega)) _)))⟩
              · have h1 : (yn == xn) = false := by simpa using hy
                have h2 : decide (yn = xn) = false := by simpa using hy
                clear hne
                go_quiet (fail)
                go_wp2_with fail
                go_meet
                exact ⟨by simp [*], by simp [*], by simp [*], (by repeat (first | with_reducible exact Below.refl _ _ | with_reducible assumption | (with_reducible refine Below.trans ?_ (Below.mono (by assumption) (by first | omega | (simp <;> omega)))) | with_reducible apply Below.drew | with_reducible apply below_drewN | (with_reducible refine Below.alloc ?_ (by first | omega | (simp <;> omega)) _) | (with_reducible refine Below.setCell ?_ (by first | omega | (simp <;> omega)) _)))⟩
            case rest =>
              obtain ⟨rfl, e0, e1, hbwd⟩ := hcut
              have hzd := hbwd.size
              have hb := unhide HBZ
              have hbe := hb.trans (hbwd.mono hb.size)
              have hze := hbe.size
              have hwl : w.heap.size < wc.heap.size := by omega
              have HB6 := hide hbe
              have p1 : (0 : Int) ≤ (k : Int) := by omega
              have p2 : (k : Int) ≤ (c : Int) := by omega
              have p3 : (k : Int) ≤ (n : Int) := by omega
              have p4 : (n : Int) ≤ (c : Int) := by omega
              clear hb hbwd hbe c0 c1 d0 d1
              have hcl38 : ∀ W : World, Below w.heap.size w W → Lies W (.slice (some ⟨g, 0, none⟩) k c) k (frcs ((l.take k).map qf)) := by
                intro W hW
                have h := lies_part (k := 0) (m := k) (d := c) (own_below (unhide HA) hW) (by omega)
                rw [List.map_take, frcs_take]
                simpa using h
              have hol38 : (frcs ((l.take k).map qf)).length = k * 2 := by rw [frcs_len, List.length_map, List.length_take, hlen, Nat.min_eq_left (by omega)]
              have hoc38 : ∀ u ∈ frcs ((l.take k).map qf), u.oneCell' = true := frcs_one rfl
              have hcl45 : ∀ W : World, Below w.heap.size w W → Lies W (.slice (some ⟨g, k * 2, none⟩) (n - k) (c - k)) (n - k) (frcs ((l.drop k).map qf)) := by
                intro W hW
                have h := lies_part (k := k) (m := n - k) (d := c - k) (own_below (unhide HA) hW) (by omega)
                rw [List.map_drop, frcs_drop]
                rwa [List.take_of_length_le (by rw [List.length_drop, frcs_len, List.length_map, hlen]; omega)] at h
              have hol45 : (frcs ((l.drop k).map qf)).length = (n - k) * 2 := by rw [frcs_len, List.length_map, List.length_drop, hlen]
              have hoc45 : ∀ u ∈ frcs ((l.drop k).map qf), u.oneCell' = true := frcs_one rfl
              have hres : frcs ((putL l x).map qf) = frcs ((l.take k).map qf) ++ [.int .i64 xn, .int .i64 xd] ++ frcs ((l.drop k).map qf) := by
                rw [HNEW.out, HXN.out, HXD.out]
                simp [frcs, frc, qf]
              have hrn : (putL l x).length = n + 1 := by rw [HNEW.out]; simp [hlen]; omega
              have q1 : ¬ c = k := by omega
              generalize frcs ((l.take k).map qf) = C38 at *
              generalize frcs ((l.drop k).map qf) = C45 at *
              have HL38 := hide hcl38; have HL45 := hide hcl45
              have HC38 := Lib.hid hol38; have HC45 := Lib.hid hol45; have HO38 := Lib.hid hoc38; have HO45 := Lib.hid hoc45
              have HR := Lib.hid hres; have HRN := Lib.hid hrn
              clear hcl38 hcl45 hol38 hol45 hoc38 hoc45 hres hrn
              go_upto_region 6 with fail
              go_region_held3 (fun w' => w'.cell? ⟨w.heap.size, 0, none⟩ = some (.int .i64 xn) ∧ w'.cell? ⟨w.heap.size, 1, none⟩ = some (.int .i64 xd)) (simp [go_sem, World.cell?_alloc_past, *])
                (first
                  | (have _t := hgrow2; clear _t; refine step_append_any (by rfl) _ _ _ (by rfl) wc.heap.size 26 i0 _ 2 16 Try.underlying76 hi0 hz0 hz1 hz2 rfl (by omega) (.slice A2 (k + 1) c2) (k + 1) _ (by rfl) hown2 _ (n - k) (C45) (by rfl) ((unhide HL45) _ ?l45) (by rw [HC45.out]) (HO45.out) (Nat.le_trans (by omega) maxLen_ge) (by omega) (by omega) (n + 1) (by omega) ?_; (case l45 => exact (unhide HB6).trans (hb2.mono (unhide HB6).size)); intro A3 c3 w3 hown3 hgrow3; have hb3 : Below wc.heap.size wc w3 := hb2.grown hgrow3 hb2.size (fun k hk => (hown2.lt k hk).1); have hz3 := hb3.size; have kx0 := hgrow3.cell (a := ⟨w.heap.size, 0, none⟩) (v := .int .i64 xn) (by assumption) (fun e => absurd (hown2.lt _ e.symm).1 (Nat.not_le.2 hwl)); have kx1 := hgrow3.cell (a := ⟨w.heap.size, 1, none⟩) (v := .int .i64 xd) (by assumption) (fun e => absurd (hown2.lt _ e.symm).1 (Nat.not_le.2 hwl)))
                  | (have _t := hgrow1; clear _t; refine step_append_any (by rfl) _ _ _ (by rfl) wc.heap.size 26 i0 _ 2 16 Try.underlying76 hi0 hz0 hz1 hz2 rfl (by omega) (.slice A1 k c1) k (C38) (by rfl) (by first | with_reducible exact hown1 | with_reducible exact hown1.alloc _) _ 1 [.int .i64 xn, .int .i64 xd] (by rfl) (lies2 (by simp [go_sem, *]) (by simp [go_sem, *])) rfl (by simp [Value.oneCell']) (Nat.le_trans (by omega) maxLen_ge) (by omega) (by first | omega | (simp <;> omega)) (k + 1) rfl ?_; intro A2 c2 w2 hown2 hgrow2; have hb2 : Below wc.heap.size wc w2 := Below.grown (show Below wc.heap.size wc _ from (by repeat (first | with_reducible exact Below.refl _ _ | with_reducible assumption | (with_reducible refine Below.trans ?_ (Below.mono (by assumption) (by first | omega | (simp <;> omega)))) | with_reducible apply Below.drew | with_reducible apply below_drewN | (with_reducible refine Below.alloc ?_ (by first | omega | (simp <;> omega)) _) | (with_reducible refine Below.setCell ?_ (by first | omega | (simp <;> omega)) _)))) hgrow2 (by first | omega | (simp <;> omega)) (fun k hk => (hown1.lt k hk).1); have hz2' := hb2.size; have hwl2 : w.heap.size < w2.heap.size := Nat.lt_of_lt_of_le hwl hz2'; have kx0 := hgrow2.cell (a := ⟨w.heap.size, 0, none⟩) (v := .int .i64 xn) (by simp [go_sem, *]) (fun e => absurd (hown1.lt _ e.symm).1 (Nat.not_le.2 hwl)); have kx1 := hgrow2.cell (a := ⟨w.heap.size, 1, none⟩) (v := .int .i64 xd) (by simp [go_sem, *]) (fun e => absurd (hown1.lt _ e.symm).1 (Nat.not_le.2 hwl)))
                  | (refine step_append_any (by rfl) _ _ _ (by rfl) wc.heap.size 26 i0 _ 2 16 Try.underlying76 hi0 hz0 hz1 hz2 rfl (by omega) _ 0 [] (by rfl) (by first | (refine lit0 _ _ _ _ ?_ ?_ <;> first | exact Nat.le_refl _ | (simp <;> omega)) | (refine World.ownsRow.alloc ?_ _; (refine lit0 _ _ _ _ ?_ ?_ <;> first | exact Nat.le_refl _ | (simp <;> omega)))) _ k (C38) (by rfl) ((unhide HL38) _ ?l38) (by rw [HC38.out]) (HO38.out) (Nat.le_trans (by omega) maxLen_ge) (by omega) (by first | omega | (simp <;> omega)) k (by omega) ?_; (case l38 => exact (unhide HB6).trans (Below.mono (show Below wc.heap.size wc _ from (by repeat (first | with_reducible exact Below.refl _ _ | with_reducible assumption | (with_reducible refine Below.trans ?_ (Below.mono (by assumption) (by first | omega | (simp <;> omega)))) | with_reducible apply Below.drew | with_reducible apply below_drewN | (with_reducible refine Below.alloc ?_ (by first | omega | (simp <;> omega)) _) | (with_reducible refine Below.setCell ?_ (by first | omega | (simp <;> omega)) _)))) (unhide HB6).size)); intro A1 c1 w1 hown1 hgrow1; rw [List.nil_append] at hown1; replace hgrow1 : World.grownBy _ _ (some _) := hgrow1; dsimp only at hgrow1; have hb1 : Below wc.heap.size wc w1 := Below.grown (show Below wc.heap.size wc _ from (by repeat (first | with_reducible exact Below.refl _ _ | with_reducible assumption | (with_reducible refine Below.trans ?_ (Below.mono (by assumption) (by first | omega | (simp <;> omega)))) | with_reducible apply Below.drew | with_reducible apply below_drewN | (with_reducible refine Below.alloc ?_ (by first | omega | (simp <;> omega)) _) | (with_reducible refine Below.setCell ?_ (by first | omega | (simp <;> omega)) _)))) hgrow1 (by first | omega | (simp <;> omega)) (fun k hk => by (simp at hk; omega)); have hz1' := hb1.size; have hwl1 : w.heap.size < w1.heap.size := Nat.lt_of_lt_of_le hwl hz1'; have kx0 := hgrow1.cell (a := ⟨w.heap.size, 0, none⟩) (v := .int .i64 xn) (by simp [go_sem, *]) (by simp; omega); have kx1 := hgrow1.cell (a := ⟨w.heap.size, 1, none⟩) (v := .int .i64 xd) (by simp [go_sem, *]) (by simp; omega); (try ((have ky0 := hgrow1.cell (a := ⟨wc.heap.size, 0, none⟩) (v := .int .i64 xn) ?p1 ?p2); (case p1 => (simp [go_sem, *]; done)); (case p2 => (simp; done)))); (try ((have ky1 := hgrow1.cell (a := ⟨wc.heap.size, 1, none⟩) (v := .int .i64 xd) ?p1 ?p2); (case p1 => (simp [go_sem, *]; done)); (case p2 => (simp; done)))); (try ((have kz0 := hgrow1.cell (a := ⟨wc.heap.size + 1, 0, none⟩) (v := .int .i64 xn) ?p1 ?p2); (case p1 => (simp [go_sem, *]; done)); (case p2 => (simp; done)))); (try ((have kz1 := hgrow1.cell (a := ⟨wc.heap.size + 1, 1, none⟩) (v := .int .i64 xd) ?p1 ?p2); (case p1 => (simp [go_sem, *]; done)); (case p2 => (simp; done))))))
              all_goals
                have hbe := (unhide HB6).trans (hb3.mono (unhide HB6).size)
                have HO3 := hide hown3
                have HBE := hide hbe
                clear hown3 hown2 hown1 hgrow1 hgrow2 hgrow3 hb1 hb2 hb3 hbe
                go_wp2_with fail
                go_ret
                exact ⟨_, rfl, by rw [HR.out, HRN.out]; exact (unhide HO3).mono (by omega), unhide HBE⟩
      · obtain rfl : k = n := by omega
        have HNEW := Lib.hid ((unhide HNW) (fun h => absurd h (Nat.lt_irrefl _)))
        have hcap := own_cap (unhide HA)
        clear HAT HLT HSM HNW HOR hbwr hkK hKl
        go_upto_region 2 with fail
        go_cut [18] (fun s18 wx => s18 = .bool false ∧ wx.cell? ⟨w.heap.size, 0, none⟩ = some (.int .i64 xn) ∧ wx.cell? ⟨w.heap.size, 1, none⟩ = some (.int .i64 xd) ∧ Below wr.heap.size wr wx)
        case first =>
          go_quiet (fail)
          go_wp2_with fail
          go_meet
          exact ⟨by simp [*], by simp [*], by simp [*], (by repeat (first | with_reducible exact Below.refl _ _ | with_reducible assumption | (with_reducible refine Below.trans ?_ (Below.mono (by assumption) (by first | omega | (simp <;> omega)))) | with_reducible apply Below.drew | with_reducible apply below_drewN | (with_reducible refine Below.alloc ?_ (by first | omega | (simp <;> omega)) _) | (with_reducible refine Below.setCell ?_ (by first | omega | (simp <;> omega)) _)))⟩
        case rest =>
          obtain ⟨rfl, c0, c1, hbwc⟩ := hcut
          have hzc := hbwc.size
          have hb := unhide HB
          have HBZ := hide (hb.trans (hbwc.mono hb.size))
          clear hb hbwc hx0 hx1
          go_upto_region 4 with fail
          go_cut [32] (fun s32 wx => s32 = .bool false ∧ wx.cell? ⟨w.heap.size, 0, none⟩ = some (.int .i64 xn) ∧ wx.cell? ⟨w.heap.size, 1, none⟩ = some (.int .i64 xd) ∧ Below wc.heap.size wc wx)
          case first =>
            go_quiet (fail)
            go_wp2_with fail
            go_meet
            exact ⟨by simp [*], by simp [*], by simp [*], (by repeat (first | with_reducible exact Below.refl _ _ | with_reducible assumption | (with_reducible refine Below.trans ?_ (Below.mono (by assumption) (by first | omega | (simp <;> omega)))) | with_reducible apply Below.drew | with_reducible apply below_drewN | (with_reducible refine Below.alloc ?_ (by first | omega | (simp <;> omega)) _) | (with_reducible refine Below.setCell ?_ (by first | omega | (simp <;> omega)) _)))⟩
          case rest =>
            obtain ⟨rfl, e0, e1, hbwd⟩ := hcut
            have hzd := hbwd.size
            have hb := unhide HBZ
            have hbe := hb.trans (hbwd.mono hb.size)
            have hze := hbe.size
            have hwl : w.heap.size < wc.heap.size := by omega
            have HB6 := hide hbe
            clear hb hbwd hbe c0 c1
            rcases Nat.eq_zero_or_pos k with h0 | h0
            · subst h0
              obtain ⟨rfl, rfl⟩ := hA rfl
              have hres : frcs ((putL l x).map qf) = [] ++ [.int .i64 xn, .int .i64 xd] ++ [] := by
                rw [HXN.out, HXD.out, List.eq_nil_of_length_eq_zero hlen]; rfl
              have hrn : (putL l x).length = 0 + 1 := by rw [List.eq_nil_of_length_eq_zero hlen]; rfl
              have HR := Lib.hid hres; have HRN := Lib.hid hrn
              clear hres hrn hlen
              simp only [Int.natCast_zero]
              go_upto_region 6 with fail
              go_region_held3 (fun w' => w'.cell? ⟨w.heap.size, 0, none⟩ = some (.int .i64 xn) ∧ w'.cell? ⟨w.heap.size, 1, none⟩ = some (.int .i64 xd)) (simp [go_sem, World.cell?_alloc_past, *])
                (first
                  | (have _t := hgrow2; clear _t; refine step_append_any (by rfl) _ _ _ (by rfl) wc.heap.size 26 i0 _ 2 16 Try.underlying76 hi0 hz0 hz1 hz2 rfl (by omega) (.slice A2 (0 + 1) c2) (0 + 1) _ (by rfl) hown2 _ (0) ([]) (by rfl) (.inl ⟨rfl, rfl, rfl⟩) (rfl) (by simp) (Nat.le_trans (by omega) maxLen_ge) (by omega) (by omega) (0 + 1) (by omega) ?_; intro A3 c3 w3 hown3 hgrow3; have hb3 : Below wc.heap.size wc w3 := hb2.grown hgrow3 hb2.size (fun k hk => (hown2.lt k hk).1); have hz3 := hb3.size; have kx0 := hgrow3.cell (a := ⟨w.heap.size, 0, none⟩) (v := .int .i64 xn) (by assumption) (fun e => absurd (hown2.lt _ e.symm).1 (Nat.not_le.2 hwl)); have kx1 := hgrow3.cell (a := ⟨w.heap.size, 1, none⟩) (v := .int .i64 xd) (by assumption) (fun e => absurd (hown2.lt _ e.symm).1 (Nat.not_le.2 hwl)))
                  | (have _t := hgrow1; clear _t; refine step_append_any (by rfl) _ _ _ (by rfl) wc.heap.size 26 i0 _ 2 16 Try.underlying76 hi0 hz0 hz1 hz2 rfl (by omega) (.slice A1 0 c1) 0 ([]) (by rfl) (by first | with_reducible exact hown1 | with_reducible exact hown1.alloc _) _ 1 [.int .i64 xn, .int .i64 xd] (by rfl) (lies2 (by simp [go_sem, *]) (by simp [go_sem, *])) rfl (by simp [Value.oneCell']) (Nat.le_trans (by omega) maxLen_ge) (by omega) (by first | omega | (simp <;> omega)) (0 + 1) rfl ?_; intro A2 c2 w2 hown2 hgrow2; have hb2 : Below wc.heap.size wc w2 := Below.grown (show Below wc.heap.size wc _ from (by repeat (first | with_reducible exact Below.refl _ _ | with_reducible assumption | (with_reducible refine Below.trans ?_ (Below.mono (by assumption) (by first | omega | (simp <;> omega)))) | with_reducible apply Below.drew | with_reducible apply below_drewN | (with_reducible refine Below.alloc ?_ (by first | omega | (simp <;> omega)) _) | (with_reducible refine Below.setCell ?_ (by first | omega | (simp <;> omega)) _)))) hgrow2 (by first | omega | (simp <;> omega)) (fun k hk => (hown1.lt k hk).1); have hz2' := hb2.size; have hwl2 : w.heap.size < w2.heap.size := Nat.lt_of_lt_of_le hwl hz2'; have kx0 := hgrow2.cell (a := ⟨w.heap.size, 0, none⟩) (v := .int .i64 xn) (by simp [go_sem, *]) (fun e => absurd (hown1.lt _ e.symm).1 (Nat.not_le.2 hwl)); have kx1 := hgrow2.cell (a := ⟨w.heap.size, 1, none⟩) (v := .int .i64 xd) (by simp [go_sem, *]) (fun e => absurd (hown1.lt _ e.symm).1 (Nat.not_le.2 hwl)))
                  | (refine step_append_any (by rfl) _ _ _ (by rfl) wc.heap.size 26 i0 _ 2 16 Try.underlying76 hi0 hz0 hz1 hz2 rfl (by omega) _ 0 [] (by rfl) (by first | (refine lit0 _ _ _ _ ?_ ?_ <;> first | exact Nat.le_refl _ | (simp <;> omega)) | (refine World.ownsRow.alloc ?_ _; (refine lit0 _ _ _ _ ?_ ?_ <;> first | exact Nat.le_refl _ | (simp <;> omega)))) _ 0 ([]) (by rfl) (.inl ⟨rfl, rfl, rfl⟩) (rfl) (by simp) (Nat.le_trans (by omega) maxLen_ge) (by omega) (by first | omega | (simp <;> omega)) 0 (by omega) ?_; intro A1 c1 w1 hown1 hgrow1; rw [List.nil_append] at hown1; replace hgrow1 : World.grownBy _ _ (some _) := hgrow1; dsimp only at hgrow1; have hb1 : Below wc.heap.size wc w1 := Below.grown (show Below wc.heap.size wc _ from (by repeat (first | with_reducible exact Below.refl _ _ | with_reducible assumption | (with_reducible refine Below.trans ?_ (Below.mono (by assumption) (by first | omega | (simp <;> omega)))) | with_reducible apply Below.drew | with_reducible apply below_drewN | (with_reducible refine Below.alloc ?_ (by first | omega | (simp <;> omega)) _) | (with_reducible refine Below.setCell ?_ (by first | omega | (simp <;> omega)) _)))) hgrow1 (by first | omega | (simp <;> omega)) (fun k hk => by (simp at hk; omega)); have hz1' := hb1.size; have hwl1 : w.heap.size < w1.heap.size := Nat.lt_of_lt_of_le hwl hz1'; have kx0 := hgrow1.cell (a := ⟨w.heap.size, 0, none⟩) (v := .int .i64 xn) (by simp [go_sem, *]) (by simp; omega); have kx1 := hgrow1.cell (a := ⟨w.heap.size, 1, none⟩) (v := .int .i64 xd) (by simp [go_sem, *]) (by simp; omega); (try ((have ky0 := hgrow1.cell (a := ⟨wc.heap.size, 0, none⟩) (v := .int .i64 xn) ?p1 ?p2); (case p1 => (simp [go_sem, *]; done)); (case p2 => (simp; done)))); (try ((have ky1 := hgrow1.cell (a := ⟨wc.heap.size, 1, none⟩) (v := .int .i64 xd) ?p1 ?p2); (case p1 => (simp [go_sem, *]; done)); (case p2 => (simp; done)))); (try ((have kz0 := hgrow1.cell (a := ⟨wc.heap.size + 1, 0, none⟩) (v := .int .i64 xn) ?p1 ?p2); (case p1 => (simp [go_sem, *]; done)); (case p2 => (simp; done)))); (try ((have kz1 := hgrow1.cell (a := ⟨wc.heap.size + 1, 1, none⟩) (v := .int .i64 xd) ?p1 ?p2); (case p1 => (simp [go_sem, *]; done)); (case p2 => (simp; done))))))
              all_goals
                have hbe := (unhide HB6).trans (hb3.mono (unhide HB6).size)
                have HO3 := hide hown3
                have HBE := hide hbe
                clear hown3 hown2 hown1 hgrow1 hgrow2 hgrow3 hb1 hb2 hb3 hbe
                go_wp2_with fail
                go_ret
                exact ⟨_, rfl, by rw [HR.out, HRN.out]; exact (unhide HO3).mono (by omega), unhide HBE⟩
          
            · obtain ⟨g, cap, hv, _, _⟩ := (unhide HA).form h0
              obtain rfl : A = some ⟨g, 0, none⟩ := by injection hv
              clear hv
              have hcl38 : ∀ W : World, Below w.heap.size w W → Lies W (.slice (some ⟨g, 0, none⟩) k c) k (frcs ((l.take k).map qf)) := by
                intro W hW
                have h := lies_part (k := 0) (m := k) (d := c) (own_below (unhide HA) hW) (by omega)
                rw [List.map_take, frcs_take]
                simpa using h
              have hol38 : (frcs ((l.take k).map qf)).length = k * 2 := by rw [frcs_len, List.length_map, List.length_take, hlen, Nat.min_eq_left (by omega)]
              have hoc38 : ∀ u ∈ frcs ((l.take k).map qf), u.oneCell' = true := frcs_one rfl
              have hres : frcs ((putL l x).map qf) = frcs ((l.take k).map qf) ++ [.int .i64 xn, .int .i64 xd] ++ [] := by
                rw [HNEW.out, HXN.out, HXD.out, List.drop_of_length_le (by omega)]
                simp [frcs, frc, qf]
              have hrn : (putL l x).length = k + 1 := by rw [HNEW.out, List.drop_of_length_le (by omega)]; simp [hlen]
              generalize frcs ((l.take k).map qf) = C38 at *
              have HL38 := hide hcl38
              have HC38 := Lib.hid hol38; have HO38 := Lib.hid hoc38
              have HR := Lib.hid hres; have HRN := Lib.hid hrn
              clear hcl38 hol38 hoc38 hres hrn
              have p1 : (0 : Int) ≤ (k : Int) := by omega
              have p2 : (k : Int) ≤ (c : Int) := by omega
              by_cases hck : c = k
              · subst hck
                go_upto_region 6 with fail
                go_region_held3 (fun w' => w'.cell? ⟨w.heap.size, 0, none⟩ = some (.int .i64 xn) ∧ w'.cell? ⟨w.heap.size, 1, none⟩ = some (.int .i64 xd)) (simp [go_sem, World.cell?_alloc_past, *])
                  (first
                    | (have _t := hgrow2; clear _t; refine step_append_any (by rfl) _ _ _ (by rfl) wc.heap.size 26 i0 _ 2 16 Try.underlying76 hi0 hz0 hz1 hz2 rfl (by omega) (.slice A2 (c + 1) c2) (c + 1) _ (by rfl) hown2 _ (0) ([]) (by rfl) (lies_none _ _ _) (rfl) (by simp) (Nat.le_trans (by omega) maxLen_ge) (by omega) (by omega) (c + 1) (by omega) ?_; intro A3 c3 w3 hown3 hgrow3; have hb3 : Below wc.heap.size wc w3 := hb2.grown hgrow3 hb2.size (fun k hk => (hown2.lt k hk).1); have hz3 := hb3.size; have kx0 := hgrow3.cell (a := ⟨w.heap.size, 0, none⟩) (v := .int .i64 xn) (by assumption) (fun e => absurd (hown2.lt _ e.symm).1 (Nat.not_le.2 hwl)); have kx1 := hgrow3.cell (a := ⟨w.heap.size, 1, none⟩) (v := .int .i64 xd) (by assumption) (fun e => absurd (hown2.lt _ e.symm).1 (Nat.not_le.2 hwl)))
                    | (have _t := hgrow1; clear _t; refine step_append_any (by rfl) _ _ _ (by rfl) wc.heap.size 26 i0 _ 2 16 Try.underlying76 hi0 hz0 hz1 hz2 rfl (by omega) (.slice A1 c c1) c (C38) (by rfl) (by first | with_reducible exact hown1 | with_reducible exact hown1.alloc _) _ 1 [.int .i64 xn, .int .i64 xd] (by rfl) (lies2 (by simp [go_sem, *]) (by simp [go_sem, *])) rfl (by simp [Value.oneCell']) (Nat.le_trans (by omega) maxLen_ge) (by omega) (by first | omega | (simp <;> omega)) (c + 1) rfl ?_; intro A2 c2 w2 hown2 hgrow2; have hb2 : Below wc.heap.size wc w2 := Below.grown (show Below wc.heap.size wc _ from (by repeat (first | with_reducible exact Below.refl _ _ | with_reducible assumption | (with_reducible refine Below.trans ?_ (Below.mono (by assumption) (by first | omega | (simp <;> omega)))) | with_reducible apply Below.drew | with_reducible apply below_drewN | (with_reducible refine Below.alloc ?_ (by first | omega | (simp <;> omega)) _) | (with_reducible refine Below.setCell ?_ (by first | omega | (simp <;> omega)) _)))) hgrow2 (by first | omega | (simp <;> omega)) (fun k hk => (hown1.lt k hk).1); have hz2' := hb2.size; have hwl2 : w.heap.size < w2.heap.size := Nat.lt_of_lt_of_le hwl hz2'; have kx0 := hgrow2.cell (a := ⟨w.heap.size, 0, none⟩) (v := .int .i64 xn) (by simp [go_sem, *]) (fun e => absurd (hown1.lt _ e.symm).1 (Nat.not_le.2 hwl)); have kx1 := hgrow2.cell (a := ⟨w.heap.size, 1, none⟩) (v := .int .i64 xd) (by simp [go_sem, *]) (fun e => absurd (hown1.lt _ e.symm).1 (Nat.not_le.2 hwl)))
                    | (refine step_append_any (by rfl) _ _ _ (by rfl) wc.heap.size 26 i0 _ 2 16 Try.underlying76 hi0 hz0 hz1 hz2 rfl (by omega) _ 0 [] (by rfl) (by first | (refine lit0 _ _ _ _ ?_ ?_ <;> first | exact Nat.le_refl _ | (simp <;> omega)) | (refine World.ownsRow.alloc ?_ _; (refine lit0 _ _ _ _ ?_ ?_ <;> first | exact Nat.le_refl _ | (simp <;> omega)))) _ c (C38) (by rfl) ((unhide HL38) _ ?l38) (by rw [HC38.out]) (HO38.out) (Nat.le_trans (by omega) maxLen_ge) (by omega) (by first | omega | (simp <;> omega)) c (by omega) ?_; (case l38 => exact (unhide HB6).trans (Below.mono (show Below wc.heap.size wc _ from (by repeat (first | with_reducible exact Below.refl _ _ | with_reducible assumption | (with_reducible refine Below.trans ?_ (Below.mono (by assumption) (by first | omega | (simp <;> omega)))) | with_reducible apply Below.drew | with_reducible apply below_drewN | (with_reducible refine Below.alloc ?_ (by first | omega | (simp <;> omega)) _) | (with_reducible refine Below.setCell ?_ (by first | omega | (simp <;> omega)) _)))) (unhide HB6).size)); intro A1 c1 w1 hown1 hgrow1; rw [List.nil_append] at hown1; replace hgrow1 : World.grownBy _ _ (some _) := hgrow1; dsimp only at hgrow1; have hb1 : Below wc.heap.size wc w1 := Below.grown (show Below wc.heap.size wc _ from (by repeat (first | with_reducible exact Below.refl _ _ | with_reducible assumption | (with_reducible refine Below.trans ?_ (Below.mono (by assumption) (by first | omega | (simp <;> omega)))) | with_reducible apply Below.drew | with_reducible apply below_drewN | (with_reducible refine Below.alloc ?_ (by first | omega | (simp <;> omega)) _) | (with_reducible refine Below.setCell ?_ (by first | omega | (simp <;> omega)) _)))) hgrow1 (by first | omega | (simp <;> omega)) (fun k hk => by (simp at hk; omega)); have hz1' := hb1.size; have hwl1 : w.heap.size < w1.heap.size := Nat.lt_of_lt_of_le hwl hz1'; have kx0 := hgrow1.cell (a := ⟨w.heap.size, 0, none⟩) (v := .int .i64 xn) (by simp [go_sem, *]) (by simp; omega); have kx1 := hgrow1.cell (a := ⟨w.heap.size, 1, none⟩) (v := .int .i64 xd) (by simp [go_sem, *]) (by simp; omega); (try ((have ky0 := hgrow1.cell (a := ⟨wc.heap.size, 0, none⟩) (v := .int .i64 xn) ?p1 ?p2); (case p1 => (simp [go_sem, *]; done)); (case p2 => (simp; done)))); (try ((have ky1 := hgrow1.cell (a := ⟨wc.heap.size, 1, none⟩) (v := .int .i64 xd) ?p1 ?p2); (case p1 => (simp [go_sem, *]; done)); (case p2 => (simp; done)))); (try ((have kz0 := hgrow1.cell (a := ⟨wc.heap.size + 1, 0, none⟩) (v := .int .i64 xn) ?p1 ?p2); (case p1 => (simp [go_sem, *]; done)); (case p2 => (simp; done)))); (try ((have kz1 := hgrow1.cell (a := ⟨wc.heap.size + 1, 1, none⟩) (v := .int .i64 xd) ?p1 ?p2); (case p1 => (simp [go_sem, *]; done)); (case p2 => (simp; done))))))
                all_goals
                  have hbe := (unhide HB6).trans (hb3.mono (unhide HB6).size)
                  have HO3 := hide hown3
                  have HBE := hide hbe
                  clear hown3 hown2 hown1 hgrow1 hgrow2 hgrow3 hb1 hb2 hb3 hbe
                  go_wp2_with fail
                  go_ret
                  exact ⟨_, rfl, by rw [HR.out, HRN.out]; exact (unhide HO3).mono (by omega), unhide HBE⟩
              · skip
                go_upto_region 6 with fail
                go_region_held3 (fun w' => w'.cell? ⟨w.heap.size, 0, none⟩ = some (.int .i64 xn) ∧ w'.cell? ⟨w.heap.size, 1, none⟩ = some (.int .i64 xd)) (simp [go_sem, World.cell?_alloc_past, *])
                  (first
                    | (have _t := hgrow2; clear _t; refine step_append_any (by rfl) _ _ _ (by rfl) wc.heap.size 26 i0 _ 2 16 Try.underlying76 hi0 hz0 hz1 hz2 rfl (by omega) (.slice A2 (k + 1) c2) (k + 1) _ (by rfl) hown2 _ (0) ([]) (by rfl) (lies_none _ _ _) (rfl) (by simp) (Nat.le_trans (by omega) maxLen_ge) (by omega) (by omega) (k + 1) (by omega) ?_; intro A3 c3 w3 hown3 hgrow3; have hb3 : Below wc.heap.size wc w3 := hb2.grown hgrow3 hb2.size (fun k hk => (hown2.lt k hk).1); have hz3 := hb3.size; have kx0 := hgrow3.cell (a := ⟨w.heap.size, 0, none⟩) (v := .int .i64 xn) (by assumption) (fun e => absurd (hown2.lt _ e.symm).1 (Nat.not_le.2 hwl)); have kx1 := hgrow3.cell (a := ⟨w.heap.size, 1, none⟩) (v := .int .i64 xd) (by assumption) (fun e => absurd (hown2.lt _ e.symm).1 (Nat.not_le.2 hwl)))
                    | (have _t := hgrow1; clear _t; refine step_append_any (by rfl) _ _ _ (by rfl) wc.heap.size 26 i0 _ 2 16 Try.underlying76 hi0 hz0 hz1 hz2 rfl (by omega) (.slice A1 k c1) k (C38) (by rfl) (by first | with_reducible exact hown1 | with_reducible exact hown1.alloc _) _ 1 [.int .i64 xn, .int .i64 xd] (by rfl) (lies2 (by simp [go_sem, *]) (by simp [go_sem, *])) rfl (by simp [Value.oneCell']) (Nat.le_trans (by omega) maxLen_ge) (by omega) (by first | omega | (simp <;> omega)) (k + 1) rfl ?_; intro A2 c2 w2 hown2 hgrow2; have hb2 : Below wc.heap.size wc w2 := Below.grown (show Below wc.heap.size wc _ from (by repeat (first | with_reducible exact Below.refl _ _ | with_reducible assumption | (with_reducible refine Below.trans ?_ (Below.mono (by assumption) (by first | omega | (simp <;> omega)))) | with_reducible apply Below.drew | with_reducible apply below_drewN | (with_reducible refine Below.alloc ?_ (by first | omega | (simp <;> omega)) _) | (with_reducible refine Below.setCell ?_ (by first | omega | (simp <;> omega)) _)))) hgrow2 (by first | omega | (simp <;> omega)) (fun k hk => (hown1.lt k hk).1); have hz2' := hb2.size; have hwl2 : w.heap.size < w2.heap.size := Nat.lt_of_lt_of_le hwl hz2'; have kx0 := hgrow2.cell (a := ⟨w.heap.size, 0, none⟩) (v := .int .i64 xn) (by simp [go_sem, *]) (fun e => absurd (hown1.lt _ e.symm).1 (Nat.not_le.2 hwl)); have kx1 := hgrow2.cell (a := ⟨w.heap.size, 1, none⟩) (v := .int .i64 xd) (by simp [go_sem, *]) (fun e => absurd (hown1.lt _ e.symm).1 (Nat.not_le.2 hwl)))
                    | (refine step_append_any (by rfl) _ _ _ (by rfl) wc.heap.size 26 i0 _ 2 16 Try.underlying76 hi0 hz0 hz1 hz2 rfl (by omega) _ 0 [] (by rfl) (by first | (refine lit0 _ _ _ _ ?_ ?_ <;> first | exact Nat.le_refl _ | (simp <;> omega)) | (refine World.ownsRow.alloc ?_ _; (refine lit0 _ _ _ _ ?_ ?_ <;> first | exact Nat.le_refl _ | (simp <;> omega)))) _ k (C38) (by rfl) ((unhide HL38) _ ?l38) (by rw [HC38.out]) (HO38.out) (Nat.le_trans (by omega) maxLen_ge) (by omega) (by first | omega | (simp <;> omega)) k (by omega) ?_; (case l38 => exact (unhide HB6).trans (Below.mono (show Below wc.heap.size wc _ from (by repeat (first | with_reducible exact Below.refl _ _ | with_reducible assumption | (with_reducible refine Below.trans ?_ (Below.mono (by assumption) (by first | omega | (simp <;> omega)))) | with_reducible apply Below.drew | with_reducible apply below_drewN | (with_reducible refine Below.alloc ?_ (by first | omega | (simp <;> omega)) _) | (with_reducible refine Below.setCell ?_ (by first | omega | (simp <;> omega)) _)))) (unhide HB6).size)); intro A1 c1 w1 hown1 hgrow1; rw [List.nil_append] at hown1; replace hgrow1 : World.grownBy _ _ (some _) := hgrow1; dsimp only at hgrow1; have hb1 : Below wc.heap.size wc w1 := Below.grown (show Below wc.heap.size wc _ from (by repeat (first | with_reducible exact Below.refl _ _ | with_reducible assumption | (with_reducible refine Below.trans ?_ (Below.mono (by assumption) (by first | omega | (simp <;> omega)))) | with_reducible apply Below.drew | with_reducible apply below_drewN | (with_reducible refine Below.alloc ?_ (by first | omega | (simp <;> omega)) _) | (with_reducible refine Below.setCell ?_ (by first | omega | (simp <;> omega)) _)))) hgrow1 (by first | omega | (simp <;> omega)) (fun k hk => by (simp at hk; omega)); have hz1' := hb1.size; have hwl1 : w.heap.size < w1.heap.size := Nat.lt_of_lt_of_le hwl hz1'; have kx0 := hgrow1.cell (a := ⟨w.heap.size, 0, none⟩) (v := .int .i64 xn) (by simp [go_sem, *]) (by simp; omega); have kx1 := hgrow1.cell (a := ⟨w.heap.size, 1, none⟩) (v := .int .i64 xd) (by simp [go_sem, *]) (by simp; omega); (try ((have ky0 := hgrow1.cell (a := ⟨wc.heap.size, 0, none⟩) (v := .int .i64 xn) ?p1 ?p2); (case p1 => (simp [go_sem, *]; done)); (case p2 => (simp; done)))); (try ((have ky1 := hgrow1.cell (a := ⟨wc.heap.size, 1, none⟩) (v := .int .i64 xd) ?p1 ?p2); (case p1 => (simp [go_sem, *]; done)); (case p2 => (simp; done)))); (try ((have kz0 := hgrow1.cell (a := ⟨wc.heap.size + 1, 0, none⟩) (v := .int .i64 xn) ?p1 ?p2); (case p1 => (simp [go_sem, *]; done)); (case p2 => (simp; done)))); (try ((have kz1 := hgrow1.cell (a := ⟨wc.heap.size + 1, 1, none⟩) (v := .int .i64 xd) ?p1 ?p2); (case p1 => (simp [go_sem, *]; done)); (case p2 => (simp; done))))))
                all_goals
                  have hbe := (unhide HB6).trans (hb3.mono (unhide HB6).size)
                  have HO3 := hide hown3
                  have HBE := hide hbe
                  clear hown3 hown2 hown1 hgrow1 hgrow2 hgrow3 hb1 hb2 hb3 hbe
                  go_wp2_with fail
                  go_ret
                  exact ⟨_, rfl, by rw [HR.out, HRN.out]; exact (unhide HO3).mono (by omega), unhide HBE⟩
end Go.Proofs.Ythccdooacbablaa

/-
  Joined texts: Za, Zl, Zm, Zn, Zo, Zp.
-/
import Derived.Test.YthccdooacbablaaOa
import Derived.Test.YthccdooacbablaaGi
import Derived.Test.YthccdooacbablaaZv
import Derived.Test.YthccdooacbablaaWc
import Derived.Deep.DeepCutAuto
namespace Go.Proofs.Ythccdooacbablaa
open Go.RowKit Rm

/-- The numbers of the first j fractions. -/
def nbK (fn : Rat → Nat) (l : List Rat) (j : Nat) : List Int := (l.take j).map fun y => (fn y : Int)
theorem nbK_len {fn : Rat → Nat} {l : List Rat} {j : Nat} (h : j ≤ l.length) : (nbK fn l j).length = j := by unfold nbK; rw [List.length_map, List.length_take]; omega
theorem nbK_sn {fn : Rat → Nat} {l : List Rat} {j : Nat} (h : j < l.length) : ints (nbK fn l (j + 1)) = ints (nbK fn l j) ++ [.int .i64 (fn (l.getD j 0) : Int)] := by
  unfold nbK ints
  rw [List.take_succ_eq_append_getElem h, List.map_append, List.map_append]
  simp [h]
theorem nbK_all {fn : Rat → Nat} {l : List Rat} : nbK fn l l.length = l.map fun y => (fn y : Int) := by unfold nbK; rw [List.take_length]
theorem zfAt_q (l : List Rat) {k : Nat} (h : k < l.length) : fAt (l.map qf) k = ((l.getD k 0).num, ((l.getD k 0).den : Int)) := by simp [fAt, h, qf]
theorem zlies_one {W : World} {Y c : Nat} {a : Value} (h0 : W.cell? ⟨Y, 0, none⟩ = some a) : Lies W (.slice (some ⟨Y, 0, none⟩) 1 c) 1 [a] := by
  refine .inr ⟨_, _, rfl, fun j u hu => ?_⟩
  rw [add_at]
  match j, hu with
  | 0, hu => simp only [List.getElem?_cons_zero, Option.some.injEq] at hu; subst hu; exact h0
  | j + 1, hu => simp at hu
theorem zone_cell {a : Value} (h : a.oneCell' = true) : ∀ u ∈ ([a] : List Value), u.oneCell' = true := fun u hu => by rw [List.mem_singleton.1 hu]; exact h
/-- The facts on the orbit that is told. -/
theorem orbO_un {ps : List Pt} {a b m : Int} {l : List Rat} (h : orbO ps a b m = some l) : l.length ≤ 61 ∧ (∀ i, i < l.length → Un (l.getD i 0)) ∧ ∃ qs : List QP, ps = qs.map qp ∧ GMap qs := by
  rcases orb_cases ps a b m with ⟨_, _, h2⟩ | ⟨qs2, x, k, e, hg, rfl, rfl, hx, hmk, hk, hr', _, ⟨_, _, h2⟩ | ⟨hO, h2⟩⟩
  · rw [h] at h2; cases h2
  · rw [h] at h2; cases h2
  · rw [h] at h2
    injection h2 with h2
    rw [h2]
    have := hO.len
    exact ⟨by omega, fun i hi => hO.all i (by omega), qs2, e, hg⟩

set_option maxRecDepth 100000 in
set_option maxHeartbeats 1600000 in
theorem numbersP_any (fn : Rat → Nat) (A : Option Addr) (n c base : Nat) (ps : List Pt) (a b m : Int) (fb : Nat) (w : World) (ha : w.ownsRow base 62 4 (.slice A n c) n (ptcs ps)) (hn : n ≤ 1048576)
    (h1 : 1 ≤ m) (h2 : m ≤ 60) (hcl : mapB ps = true → ∀ (y : Rat) (W : World), Un y → Below w.heap.size w W → Calls Try.prog 57 #[.agg #[.int .i64 (y.num), .int .i64 (y.den)], .pointer (some ⟨fb, 0, none⟩)] W fun e w' => e = .returned (.int .i64 (fn y : Int)) ∧ Below W.heap.size W w') :
    Calls Try.prog 56 #[.slice A n c, .agg #[.int .i64 (a), .int .i64 (b)], .int .i64 m, .func (.func 57) #[] #[.pointer (some ⟨fb, 0, none⟩)]] w fun e w' =>
      GivesI w.heap.size (((orbO ps a b (m - 1)).getD []).map fun y => (fn y : Int)) (orbO ps a b (m - 1)).isSome e w' ∧ Below w.heap.size w w' := by
  obtain ⟨i0, hi0, iz0, iz1, iz2⟩ := info_parts iInt
  have hor := fun W hW => iOrbitOf_any A n c base ps a b (m - 1) W hW hn
  have e1 : IntKind.i64.wrap (m - 1) = m - 1 := IntWalk.i64_in _ (by omega)
  have HA := hide ha
  clear ha
  rcases ho : orbO ps a b (m - 1) with _ | l
  · rw [ho] at hor
    have HO := hide hor
    clear hor ho hcl
    simp only [Option.getD_none, List.map_nil, Option.isSome_none] at HO ⊢
    go_enter Try.func56, Try.ntmps56
    go_wp2_with (go_at_call 96; (with_reducible refine ((unhide HO) _ (own_below (unhide HA) ?pb)).mono ?_); (case pb => exact (by repeat (first | with_reducible exact Below.refl _ _ | with_reducible assumption | (with_reducible refine Below.trans ?_ (Below.mono (by assumption) (by first | omega | (simp <;> omega)))) | with_reducible apply Below.drew | with_reducible apply below_drewN | (with_reducible refine Below.alloc ?_ (by first | omega | (simp <;> omega)) _) | (with_reducible refine Below.setCell ?_ (by first | omega | (simp <;> omega)) _)))); rintro e w2 ⟨⟨A2, d2, rfl, ho2⟩, hbw2⟩; have hz2' := hbw2.size; (try simp at hz2'); (skip; (try ((have kw2w0 := (bnew hbw2) (w.heap.size) ?pf); (case pf => (first | omega | (simp; done) | (simp; omega))); obtain ⟨kcw2w0, kfw2w0, klw2w0⟩ := kw2w0))))
    go_ret2
    exact ⟨givesI_none _ _, (by repeat (first | with_reducible exact Below.refl _ _ | with_reducible assumption | (with_reducible refine Below.trans ?_ (Below.mono (by assumption) (by first | omega | (simp <;> omega)))) | with_reducible apply Below.drew | with_reducible apply below_drewN | (with_reducible refine Below.alloc ?_ (by first | omega | (simp <;> omega)) _) | (with_reducible refine Below.setCell ?_ (by first | omega | (simp <;> omega)) _)))⟩
  · obtain ⟨hln, hun, qs0, hq0, hg0⟩ := orbO_un ho
    replace hcl := hcl (by rw [hq0]; exact hg0.mapB)
    clear hq0 hg0 qs0
    have hall := nbK_all (fn := fn) (l := l)
    simp only [Option.getD_some, Option.isSome_some]
    rw [← hall]
    rw [ho] at hor
    unfold GivesR at hor
    simp only [Option.getD_some, Option.isSome_some, List.length_map] at hor
    have HO := hide hor; have HU := hide hun; have HCL := hide hcl
    clear hor ho hall hun hcl
    have hlk := nbK_len (fn := fn) (l := l) (Nat.le_refl l.length)
    obtain ⟨N, hN⟩ : ∃ N, N = l.length := ⟨_, rfl⟩
    rw [← hN] at HO hlk hln ⊢
    have HLK := Lib.hid hlk
    have HN := Lib.hid hN; clear hN hlk
    go_enter Try.func56, Try.ntmps56
    go_wp2_with (go_at_call 96; (with_reducible refine ((unhide HO) _ (own_below (unhide HA) ?pb)).mono ?_); (case pb => exact (by repeat (first | with_reducible exact Below.refl _ _ | with_reducible assumption | (with_reducible refine Below.trans ?_ (Below.mono (by assumption) (by first | omega | (simp <;> omega)))) | with_reducible apply Below.drew | with_reducible apply below_drewN | (with_reducible refine Below.alloc ?_ (by first | omega | (simp <;> omega)) _) | (with_reducible refine Below.setCell ?_ (by first | omega | (simp <;> omega)) _)))); rintro e w2 ⟨⟨A2, d2, rfl, ho2⟩, hbw2⟩; have hz2' := hbw2.size; (try simp at hz2'); (skip; (try ((have kw2w0 := (bnew hbw2) (w.heap.size) ?pf); (case pf => (first | omega | (simp; done) | (simp; omega))); obtain ⟨kcw2w0, kfw2w0, klw2w0⟩ := kw2w0))))
    have hbA : Below w.heap.size w w2 := (by repeat (first | with_reducible exact Below.refl _ _ | with_reducible assumption | (with_reducible refine Below.trans ?_ (Below.mono (by assumption) (by first | omega | (simp <;> omega)))) | with_reducible apply Below.drew | with_reducible apply below_drewN | (with_reducible refine Below.alloc ?_ (by first | omega | (simp <;> omega)) _) | (with_reducible refine Below.setCell ?_ (by first | omega | (simp <;> omega)) _)))
    have HBA := hide hbA
    have HO2 := hide ho2
    have hzA := hbA.size
    clear ho2 hbA hbw2 kcw2w0 kfw2w0 klw2w0
    go_loopw [12, 27] (fun v i wr => ∃ (j : Nat) (A4 : Option Addr) (c4 : Nat), i = .int .i64 (j : Int) ∧ v = .slice A4 j c4 ∧ j ≤ N ∧ wr.ownsRow w2.heap.size 3 1 (.slice A4 j c4) j (ints (nbK fn l j)) ∧ Below w2.heap.size w2 wr) (fun _ i _ => N - (intOf i).toNat)
    case atStart => exact ⟨0, none, 0, rfl, rfl, by omega, World.ownsRow_nil _ _ _ _, Below.refl _ _⟩
    case round =>
      obtain ⟨j, A4, c4, rfl, rfl, hj, hown, hbwr⟩ := hrel
      have hzwr := hbwr.size
      by_cases hlt : j < N
      · have hjl : j < l.length := by rw [← HN.out]; exact hlt
        obtain ⟨g1, rfl, hg1, _, f0, f1⟩ := frs_cells (own_below (unhide HO2) hbwr) hlt (zfAt_q l hjl)
        have hu := (unhide HU) j hjl
        have hbw := (unhide HBA).trans (hbwr.mono hzA)
        have hfl := fun W hV => (unhide HCL) (l.getD j 0) W hu (hbw.trans (Below.mono hV hbw.size))
        have hsn := nbK_sn (fn := fn) hjl
        have hvB : ∀ k, (Value.slice A4 j c4).ownBlock = some k → w2.heap.size ≤ k := fun k e => (hown.lt k e).1
        have HFL := hide hfl; have HSN := Lib.hid hsn; have HVB := hide hvB; have HO := hide hown; have HB := hide hbwr
        clear hu hfl hsn hvB hown hbwr hbw
        generalize fn (l.getD j 0) = z at *
        generalize (l.getD j 0).num = yn at *
        generalize ((l.getD j 0).den : Int) = yd at *
        go_wp2_with (first
          | (go_at_call 57; (with_reducible refine ((unhide HFL) _ ?pb).mono ?_); (case pb => exact (by repeat (first | with_reducible exact Below.refl _ _ | with_reducible assumption | (with_reducible refine Below.trans ?_ (Below.mono (by assumption) (by first | omega | (simp <;> omega)))) | with_reducible apply Below.drew | with_reducible apply below_drewN | (with_reducible refine Below.alloc ?_ (by first | omega | (simp <;> omega)) _) | (with_reducible refine Below.setCell ?_ (by first | omega | (simp <;> omega)) _)))); rintro e w3 ⟨rfl, hbw3⟩; have hz3 := hbw3.size; (try simp at hz3))
          | (at_builtin; refine wpList_append_any rfl _ _ _ rfl w2.heap.size 3 i0 _ 1 8 Try.underlying23 hi0 iz0 iz1 iz2 rfl (by omega) (.slice A4 j c4) j _ rfl (own_below (unhide HO) (show Below wr.heap.size wr _ from (by repeat (first | with_reducible exact Below.refl _ _ | with_reducible assumption | (with_reducible refine Below.trans ?_ (Below.mono (by assumption) (by first | omega | (simp <;> omega)))) | with_reducible apply Below.drew | with_reducible apply below_drewN | (with_reducible refine Below.alloc ?_ (by first | omega | (simp <;> omega)) _) | (with_reducible refine Below.setCell ?_ (by first | omega | (simp <;> omega)) _))))) _ 1 [.int .i64 (z : Int)] rfl (zlies_one (by simp [go_sem, *])) rfl (zone_cell rfl) (Nat.le_trans (by omega) maxLen_ge) (by omega) (by first | omega | (simp <;> omega)) (j + 1) rfl ?_; intro A5 c5 w5 hown5 hgrow5))
        rw [← HSN.out] at hown5
        have hb := unhide HB
        have hbz : Below w2.heap.size w2 w5 := Below.grown (hb.trans ((show Below wr.heap.size wr _ from (by repeat (first | with_reducible exact Below.refl _ _ | with_reducible assumption | (with_reducible refine Below.trans ?_ (Below.mono (by assumption) (by first | omega | (simp <;> omega)))) | with_reducible apply Below.drew | with_reducible apply below_drewN | (with_reducible refine Below.alloc ?_ (by first | omega | (simp <;> omega)) _) | (with_reducible refine Below.setCell ?_ (by first | omega | (simp <;> omega)) _)))).mono hb.size)) hgrow5 (by first | omega | (simp <;> omega)) (unhide HVB)
        have HO5 := hide hown5; have HBZ := hide hbz
        clear hown5 hbz hgrow5 hb
        go_wp2_with fail
        go_roundw
        case rel => exact ⟨j + 1, A5, c5, by go_num, rfl, by omega, unhide HO5, unhide HBZ⟩
        case measure => (simp [intOf] <;> omega)
      · obtain rfl : j = N := by omega
        have HO := hide hown
        have HB := hide hbwr
        clear hown hbwr
        go_wp2
        go_ret2
        exact ⟨⟨A4, c4, by rw [HLK.out] <;> rfl, by rw [HLK.out]; exact (unhide HO).mono hzA⟩, (unhide HBA).trans ((unhide HB).mono hzA)⟩
end Go.Proofs.Ythccdooacbablaa

namespace Go.Proofs.Ythccdooacbablaa
open Go.RowKit Rm

/-- A fraction is in a piece. -/
def hasQ (p q : QP) (x : Rat) : Bool := decide (¬ x < p.1) && decide (¬ q.1 < x)
theorem zcq_le {a b : Rat} : cq a b ≤ 0 ↔ ¬ b < a := by
  constructor
  · intro h h2
    have := cq_gt.2 h2
    omega
  · intro h
    by_cases h1 : 0 < cq a b
    · exact absurd (cq_gt.1 h1) h
    · omega

set_option maxRecDepth 100000 in
set_option maxHeartbeats 3200000 in
theorem has_q {w : World} {v1 v2 : Value} {p q : QP} (hp : PcAt w v1 v2 p q) (x : Rat) (hx : fits x = true) (h1 : fits p.1 = true) (h2 : fits q.1 = true) :
    Calls Try.prog 97 #[.agg #[v1, v2], .agg #[.int .i64 (x.num), .int .i64 (x.den)]] w fun e w' => e = .returned (.bool (hasQ p q x)) ∧ Below w.heap.size w w' := by
  obtain ⟨ge, bs, bt, rfl, rfl, l1, l2, l3, ⟨a0, a1, a2, a3⟩, ⟨b0, b1, b2, b3⟩, _, _⟩ := hp
  have ho1 := fun W => orderOf_q p.1 x h1 hx W
  have ho2 := fun W => orderOf_q x q.1 hx h2 W
  have hl : ∀ W, Below w.heap.size w W → Calls Try.prog 138 #[.slice (some ⟨ge, 0, none⟩) 2 2] W fun e w' => e = .returned (.agg #[.int .i64 (q.1.num), .int .i64 (q.1.den), .int .i64 (q.2.num), .int .i64 (q.2.den)]) ∧ Below W.heap.size W w' := fun W hW =>
    last_any ge 0 1 2 q W (by omega) (Nat.lt_of_lt_of_le l1 hW.size) ((hW.cell (p := ⟨ge, 4, none⟩) l1).trans b0) ((hW.cell (p := ⟨ge, 5, none⟩) l1).trans b1) ((hW.cell (p := ⟨ge, 6, none⟩) l1).trans b2) ((hW.cell (p := ⟨ge, 7, none⟩) l1).trans b3)
  have hv : hasQ p q x = (decide (cq p.1 x ≤ 0) && decide (cq x q.1 ≤ 0)) := by unfold hasQ; simp only [zcq_le]
  rw [hv]
  have HO1 := hide ho1; have HO2 := hide ho2; have HL := hide hl
  clear ho1 ho2 hl hv h1 h2 hx b0 b1 b2 b3 a2 a3
  generalize cq p.1 x = k1 at *
  generalize cq x q.1 = k2 at *
  generalize x.num = xn at *
  generalize (x.den : Int) = xd at *
  generalize p.1.num = pn at *
  generalize (p.1.den : Int) = pd at *
  generalize q.1.num = qn at *
  generalize (q.1.den : Int) = qd at *
  generalize q.2.num = rn at *
  generalize (q.2.den : Int) = rd at *
  have hfd := fun W => field0_pt qn qd rn rd W
  by_cases hk : k1 ≤ 0
  · have d1 : decide (k1 ≤ 0) = true := decide_eq_true hk
    rw [d1, Bool.true_and]
    go_enter Try.func97, Try.ntmps97
    go_upto_region 1 with fail
    refine wp_region_held_drew (S := (fun w' => w'.cell? ⟨w.heap.size, 0, none⟩ = some (.slice (some ⟨ge, 0, none⟩) 2 2) ∧ (w'.cell? ⟨w.heap.size + 1, 0, none⟩ = some (.int .i64 xn) ∧ w'.cell? ⟨w.heap.size + 1, 1, none⟩ = some (.int .i64 xd)) ∧ (w'.cell? ⟨ge, 0, none⟩ = some (.int .i64 pn) ∧ w'.cell? ⟨ge, 1, none⟩ = some (.int .i64 pd)))) (by kernel_rfl) ?_ (fun hHeld => ?_)
    · ((try dsimp only); simp [go_sem, *])
    refine wpAnyH_take (i := 0) (oi := _) (v := ?_) (op_at rfl rfl) (by kernel_rfl) (by kernel_rfl) (by kernel_rfl) (fun _ _ _ h => h) (Or.inl ⟨by kernel_rfl, ?_⟩) hHeld ?_
    rotate_left
    · (intro w hSw; (try dsimp only at hSw); go_simp) <;> with_reducible rfl
    try simp only [Act.put, List.setIfInBounds_toArray, List.set_cons_zero, List.set_cons_succ]
    refine wpAnyH_take (i := 1) (oi := _) (v := ?_) (op_at rfl rfl) (by kernel_rfl) (by kernel_rfl) (by kernel_rfl) (fun _ _ _ h => h) (Or.inl ⟨by kernel_rfl, ?_⟩) hHeld ?_
    rotate_left
    · (intro w hSw; (try dsimp only at hSw); go_simp) <;> with_reducible rfl
    try simp only [Act.put, List.setIfInBounds_toArray, List.set_cons_zero, List.set_cons_succ]
    refine wpAnyH_take (i := 2) (oi := _) (v := ?_) (op_at rfl rfl) (by kernel_rfl) (by kernel_rfl) (by kernel_rfl) (fun _ _ _ h => h) (Or.inl ⟨by kernel_rfl, ?_⟩) hHeld ?_
    rotate_left
    · (intro w hSw; (try dsimp only at hSw); go_simp) <;> with_reducible rfl
    try simp only [Act.put, List.setIfInBounds_toArray, List.set_cons_zero, List.set_cons_succ]
    refine wpAnyH_take (i := 3) (oi := _) (v := ?_) (op_at rfl rfl) (by kernel_rfl) (by kernel_rfl) (by kernel_rfl) (fun _ _ _ h => h) (Or.inl ⟨by kernel_rfl, ?_⟩) hHeld ?_
    rotate_left
    · (intro w hSw; (try dsimp only at hSw); go_simp) <;> with_reducible rfl
    try simp only [Act.put, List.setIfInBounds_toArray, List.set_cons_zero, List.set_cons_succ]
    refine wpAnyH_take (i := 4) (oi := _) (v := ?_) (op_at rfl rfl) (by kernel_rfl) (by kernel_rfl) (by kernel_rfl) (fun _ _ _ h => h) (Or.inl ⟨by kernel_rfl, ?_⟩) hHeld ?_
    rotate_left
    · (intro w hSw; (try dsimp only at hSw); go_simp) <;> with_reducible rfl
    try simp only [Act.put, List.setIfInBounds_toArray, List.set_cons_zero, List.set_cons_succ]
    refine wpAnyH_take (i := 5) (oi := _) (v := ?_) (op_at rfl rfl) (by kernel_rfl) (by kernel_rfl) (by kernel_rfl) (fun _ _ _ h => h) (Or.inl ⟨by kernel_rfl, ?_⟩) hHeld ?_
    rotate_left
    · (intro w hSw; (try dsimp only at hSw); go_simp) <;> with_reducible rfl
    try simp only [Act.put, List.setIfInBounds_toArray, List.set_cons_zero, List.set_cons_succ]
    refine wpAnyH_ready (rs := [6]) (by kernel_rfl) (by simp) ?_
    refine AllReadyH.cons (o := _) (op_at rfl rfl) (fun K hK => ?_) AllReadyH.nil
    go_simp
    (first | (go_at_call 102; (with_reducible refine ((unhide HO1) _).mono ?_); rintro e w1 ⟨rfl, hbw1⟩; obtain ⟨hcw1, hfw1⟩ := bcell hbw1; have hzw1 := hbw1.size; (try simp at hzw1); (try ((have kw1w0 := (bnew hbw1) (w.heap.size) ?pf); (case pf => (first | omega | (simp; done) | (simp; omega))); obtain ⟨kcw1w0, kfw1w0, klw1w0⟩ := kw1w0)); (try ((have kw1w1 := (bnew hbw1) (w.heap.size + 1) ?pf); (case pf => (first | omega | (simp; done) | (simp; omega))); obtain ⟨kcw1w1, kfw1w1, klw1w1⟩ := kw1w1)); (try ((have kw1geX0 := (bnew hbw1) (ge) ?pf); (case pf => (first | omega | (simp; done) | (simp; omega))); obtain ⟨kcw1geX0, kfw1geX0, klw1geX0⟩ := kw1geX0))) | (go_at_call 138; (with_reducible refine ((unhide HL) _ ?pb).mono ?_); (case pb => exact (by repeat (first | with_reducible exact Below.refl _ _ | with_reducible assumption | (with_reducible refine Below.trans ?_ (Below.mono (by assumption) (by first | omega | (simp <;> omega)))) | with_reducible apply Below.drew | with_reducible apply below_drewN | (with_reducible refine Below.alloc ?_ (by first | omega | (simp <;> omega)) _) | (with_reducible refine Below.setCell ?_ (by first | omega | (simp <;> omega)) _)))); rintro e w2 ⟨rfl, hbw2⟩; have hz2 := hbw2.size; (try simp at hz2); (skip; (try ((have kw2w0 := (bnew hbw2) (w.heap.size) ?pf); (case pf => (first | omega | (simp; done) | (simp; omega))); obtain ⟨kcw2w0, kfw2w0, klw2w0⟩ := kw2w0)); (try ((have kw2w1 := (bnew hbw2) (w.heap.size + 1) ?pf); (case pf => (first | omega | (simp; done) | (simp; omega))); obtain ⟨kcw2w1, kfw2w1, klw2w1⟩ := kw2w1)); (try ((have kw2geX0 := (bnew hbw2) (ge) ?pf); (case pf => (first | omega | (simp; done) | (simp; omega))); obtain ⟨kcw2geX0, kfw2geX0, klw2geX0⟩ := kw2geX0)))) | (go_at_call 102; (with_reducible refine ((unhide HO2) _).mono ?_); rintro e w3 ⟨rfl, hbw3⟩; obtain ⟨hcw3, hfw3⟩ := bcell hbw3; have hzw3 := hbw3.size; (try simp at hzw3); (try ((have kw3w0 := (bnew hbw3) (w.heap.size) ?pf); (case pf => (first | omega | (simp; done) | (simp; omega))); obtain ⟨kcw3w0, kfw3w0, klw3w0⟩ := kw3w0)); (try ((have kw3w1 := (bnew hbw3) (w.heap.size + 1) ?pf); (case pf => (first | omega | (simp; done) | (simp; omega))); obtain ⟨kcw3w1, kfw3w1, klw3w1⟩ := kw3w1)); (try ((have kw3geX0 := (bnew hbw3) (ge) ?pf); (case pf => (first | omega | (simp; done) | (simp; omega))); obtain ⟨kcw3geX0, kfw3geX0, klw3geX0⟩ := kw3geX0))))
    go_wp2_with fail
    refine hK.out _ _ ?_ (fun hHeld => ?_)
    · ((try dsimp only); simp [go_sem, *])
    clear hK K
    try simp only [Act.put, List.setIfInBounds_toArray, List.set_cons_zero, List.set_cons_succ]
    refine wpAnyH_take (i := 7) (oi := _) (v := ?_) (op_at rfl rfl) (by kernel_rfl) (by kernel_rfl) (by kernel_rfl) (fun _ _ _ h => h) (Or.inl ⟨by kernel_rfl, ?_⟩) hHeld ?_
    rotate_left
    · (intro w hSw; (try dsimp only at hSw); go_simp) <;> with_reducible rfl
    try simp only [Act.put, List.setIfInBounds_toArray, List.set_cons_zero, List.set_cons_succ]
    refine wpAnyH_take (i := 8) (oi := _) (v := ?_) (op_at rfl rfl) (by kernel_rfl) (by kernel_rfl) (by kernel_rfl) (fun _ _ _ h => h) (Or.inl ⟨by kernel_rfl, ?_⟩) hHeld ?_
    rotate_left
    · (intro w hSw; (try dsimp only at hSw); go_simp) <;> with_reducible rfl
    try simp only [Act.put, List.setIfInBounds_toArray, List.set_cons_zero, List.set_cons_succ]
    refine wpAnyH_take (i := 9) (oi := _) (v := ?_) (op_at rfl rfl) (by kernel_rfl) (by kernel_rfl) (by kernel_rfl) (fun _ _ _ h => h) (Or.inl ⟨by kernel_rfl, ?_⟩) hHeld ?_
    rotate_left
    · (intro w hSw; (try dsimp only at hSw); go_simp) <;> with_reducible rfl
    try simp only [Act.put, List.setIfInBounds_toArray, List.set_cons_zero, List.set_cons_succ]
    refine wpAnyH_take (i := 10) (oi := _) (v := ?_) (op_at rfl rfl) (by kernel_rfl) (by kernel_rfl) (by kernel_rfl) (fun _ _ _ h => h) (Or.inl ⟨by kernel_rfl, ?_⟩) hHeld ?_
    rotate_left
    · (intro w hSw; (try dsimp only at hSw); go_simp) <;> with_reducible rfl
    try simp only [Act.put, List.setIfInBounds_toArray, List.set_cons_zero, List.set_cons_succ]
    refine wpAnyH_take (i := 11) (oi := _) (v := ?_) (op_at rfl rfl) (by kernel_rfl) (by kernel_rfl) (by kernel_rfl) (fun _ _ _ h => h) (Or.inl ⟨by kernel_rfl, ?_⟩) hHeld ?_
    rotate_left
    · (intro w hSw; (try dsimp only at hSw); go_simp) <;> with_reducible rfl
    try simp only [Act.put, List.setIfInBounds_toArray, List.set_cons_zero, List.set_cons_succ]
    refine wpAnyH_ready (rs := [12]) (by kernel_rfl) (by simp) ?_
    refine AllReadyH.cons (o := _) (op_at rfl rfl) (fun K hK => ?_) AllReadyH.nil
    go_simp
    (first | (go_at_call 102; (with_reducible refine ((unhide HO1) _).mono ?_); rintro e w1 ⟨rfl, hbw1⟩; obtain ⟨hcw1, hfw1⟩ := bcell hbw1; have hzw1 := hbw1.size; (try simp at hzw1); (try ((have kw1w0 := (bnew hbw1) (w.heap.size) ?pf); (case pf => (first | omega | (simp; done) | (simp; omega))); obtain ⟨kcw1w0, kfw1w0, klw1w0⟩ := kw1w0)); (try ((have kw1w1 := (bnew hbw1) (w.heap.size + 1) ?pf); (case pf => (first | omega | (simp; done) | (simp; omega))); obtain ⟨kcw1w1, kfw1w1, klw1w1⟩ := kw1w1)); (try ((have kw1geX0 := (bnew hbw1) (ge) ?pf); (case pf => (first | omega | (simp; done) | (simp; omega))); obtain ⟨kcw1geX0, kfw1geX0, klw1geX0⟩ := kw1geX0))) | (go_at_call 138; (with_reducible refine ((unhide HL) _ ?pb).mono ?_); (case pb => exact (by repeat (first | with_reducible exact Below.refl _ _ | with_reducible assumption | (with_reducible refine Below.trans ?_ (Below.mono (by assumption) (by first | omega | (simp <;> omega)))) | with_reducible apply Below.drew | with_reducible apply below_drewN | (with_reducible refine Below.alloc ?_ (by first | omega | (simp <;> omega)) _) | (with_reducible refine Below.setCell ?_ (by first | omega | (simp <;> omega)) _)))); rintro e w2 ⟨rfl, hbw2⟩; have hz2 := hbw2.size; (try simp at hz2); (skip; (try ((have kw2w0 := (bnew hbw2) (w.heap.size) ?pf); (case pf => (first | omega | (simp; done) | (simp; omega))); obtain ⟨kcw2w0, kfw2w0, klw2w0⟩ := kw2w0)); (try ((have kw2w1 := (bnew hbw2) (w.heap.size + 1) ?pf); (case pf => (first | omega | (simp; done) | (simp; omega))); obtain ⟨kcw2w1, kfw2w1, klw2w1⟩ := kw2w1)); (try ((have kw2geX0 := (bnew hbw2) (ge) ?pf); (case pf => (first | omega | (simp; done) | (simp; omega))); obtain ⟨kcw2geX0, kfw2geX0, klw2geX0⟩ := kw2geX0)))) | (go_at_call 102; (with_reducible refine ((unhide HO2) _).mono ?_); rintro e w3 ⟨rfl, hbw3⟩; obtain ⟨hcw3, hfw3⟩ := bcell hbw3; have hzw3 := hbw3.size; (try simp at hzw3); (try ((have kw3w0 := (bnew hbw3) (w.heap.size) ?pf); (case pf => (first | omega | (simp; done) | (simp; omega))); obtain ⟨kcw3w0, kfw3w0, klw3w0⟩ := kw3w0)); (try ((have kw3w1 := (bnew hbw3) (w.heap.size + 1) ?pf); (case pf => (first | omega | (simp; done) | (simp; omega))); obtain ⟨kcw3w1, kfw3w1, klw3w1⟩ := kw3w1)); (try ((have kw3geX0 := (bnew hbw3) (ge) ?pf); (case pf => (first | omega | (simp; done) | (simp; omega))); obtain ⟨kcw3geX0, kfw3geX0, klw3geX0⟩ := kw3geX0))))
    go_wp2_with fail
    refine hK.out _ _ ?_ (fun hHeld => ?_)
    · ((try dsimp only); simp [go_sem, *])
    clear hK K
    try simp only [Act.put, List.setIfInBounds_toArray, List.set_cons_zero, List.set_cons_succ]
    refine wpAnyH_take (i := 13) (oi := _) (v := ?_) (op_at rfl rfl) (by kernel_rfl) (by kernel_rfl) (by kernel_rfl) (fun _ _ _ h => h) (Or.inl ⟨by kernel_rfl, ?_⟩) hHeld ?_
    rotate_left
    · (intro w hSw; (try dsimp only at hSw); go_simp) <;> with_reducible rfl
    try simp only [Act.put, List.setIfInBounds_toArray, List.set_cons_zero, List.set_cons_succ]
    refine wpAnyH_ready (rs := [14]) (by kernel_rfl) (by simp) ?_
    refine AllReadyH.cons (o := _) (op_at rfl rfl) (fun K hK => ?_) AllReadyH.nil
    go_simp
    (first | (go_at_call 102; (with_reducible refine ((unhide HO1) _).mono ?_); rintro e w1 ⟨rfl, hbw1⟩; obtain ⟨hcw1, hfw1⟩ := bcell hbw1; have hzw1 := hbw1.size; (try simp at hzw1); (try ((have kw1w0 := (bnew hbw1) (w.heap.size) ?pf); (case pf => (first | omega | (simp; done) | (simp; omega))); obtain ⟨kcw1w0, kfw1w0, klw1w0⟩ := kw1w0)); (try ((have kw1w1 := (bnew hbw1) (w.heap.size + 1) ?pf); (case pf => (first | omega | (simp; done) | (simp; omega))); obtain ⟨kcw1w1, kfw1w1, klw1w1⟩ := kw1w1)); (try ((have kw1geX0 := (bnew hbw1) (ge) ?pf); (case pf => (first | omega | (simp; done) | (simp; omega))); obtain ⟨kcw1geX0, kfw1geX0, klw1geX0⟩ := kw1geX0))) | (go_at_call 138; (with_reducible refine ((unhide HL) _ ?pb).mono ?_); (case pb => exact (by repeat (first | with_reducible exact Below.refl _ _ | with_reducible assumption | (with_reducible refine Below.trans ?_ (Below.mono (by assumption) (by first | omega | (simp <;> omega)))) | with_reducible apply Below.drew | with_reducible apply below_drewN | (with_reducible refine Below.alloc ?_ (by first | omega | (simp <;> omega)) _) | (with_reducible refine Below.setCell ?_ (by first | omega | (simp <;> omega)) _)))); rintro e w2 ⟨rfl, hbw2⟩; have hz2 := hbw2.size; (try simp at hz2); (skip; (try ((have kw2w0 := (bnew hbw2) (w.heap.size) ?pf); (case pf => (first | omega | (simp; done) | (simp; omega))); obtain ⟨kcw2w0, kfw2w0, klw2w0⟩ := kw2w0)); (try ((have kw2w1 := (bnew hbw2) (w.heap.size + 1) ?pf); (case pf => (first | omega | (simp; done) | (simp; omega))); obtain ⟨kcw2w1, kfw2w1, klw2w1⟩ := kw2w1)); (try ((have kw2geX0 := (bnew hbw2) (ge) ?pf); (case pf => (first | omega | (simp; done) | (simp; omega))); obtain ⟨kcw2geX0, kfw2geX0, klw2geX0⟩ := kw2geX0)))) | (go_at_call 102; (with_reducible refine ((unhide HO2) _).mono ?_); rintro e w3 ⟨rfl, hbw3⟩; obtain ⟨hcw3, hfw3⟩ := bcell hbw3; have hzw3 := hbw3.size; (try simp at hzw3); (try ((have kw3w0 := (bnew hbw3) (w.heap.size) ?pf); (case pf => (first | omega | (simp; done) | (simp; omega))); obtain ⟨kcw3w0, kfw3w0, klw3w0⟩ := kw3w0)); (try ((have kw3w1 := (bnew hbw3) (w.heap.size + 1) ?pf); (case pf => (first | omega | (simp; done) | (simp; omega))); obtain ⟨kcw3w1, kfw3w1, klw3w1⟩ := kw3w1)); (try ((have kw3geX0 := (bnew hbw3) (ge) ?pf); (case pf => (first | omega | (simp; done) | (simp; omega))); obtain ⟨kcw3geX0, kfw3geX0, klw3geX0⟩ := kw3geX0))))
    go_wp2_with fail
    refine hK.out _ _ ?_ (fun hHeld => ?_)
    · ((try dsimp only); simp [go_sem, *])
    clear hK K
    try simp only [Act.put, List.setIfInBounds_toArray, List.set_cons_zero, List.set_cons_succ]
    refine wpAnyH_take (i := 15) (oi := _) (v := ?_) (op_at rfl rfl) (by kernel_rfl) (by kernel_rfl) (by kernel_rfl) (fun _ _ _ h => h) (Or.inl ⟨by kernel_rfl, ?_⟩) hHeld ?_
    rotate_left
    · (intro w hSw; (try dsimp only at hSw); go_simp) <;> with_reducible rfl
    try simp only [Act.put, List.setIfInBounds_toArray, List.set_cons_zero, List.set_cons_succ]
    refine wpAnyH_take (i := 16) (oi := _) (v := ?_) (op_at rfl rfl) (by kernel_rfl) (by kernel_rfl) (by kernel_rfl) (fun _ _ _ h => h) (Or.inl ⟨by kernel_rfl, ?_⟩) hHeld ?_
    rotate_left
    · (intro w hSw; (try dsimp only at hSw); go_simp) <;> with_reducible rfl
    try simp only [Act.put, List.setIfInBounds_toArray, List.set_cons_zero, List.set_cons_succ]
    refine wpAnyH_take (i := 17) (oi := _) (v := ?_) (op_at rfl rfl) (by kernel_rfl) (by kernel_rfl) (by kernel_rfl) (fun _ _ _ h => h) (Or.inl ⟨by kernel_rfl, ?_⟩) hHeld ?_
    rotate_left
    · (intro w hSw; (try dsimp only at hSw); go_simp) <;> with_reducible rfl
    try simp only [Act.put, List.setIfInBounds_toArray, List.set_cons_zero, List.set_cons_succ]
    refine wpAnyH_done (by kernel_rfl) ?_ _
    all_goals
      go_wp2_with fail
      go_ret
      exact ⟨rfl, (by repeat (first | with_reducible exact Below.refl _ _ | with_reducible assumption | (with_reducible refine Below.trans ?_ (Below.mono (by assumption) (by first | omega | (simp <;> omega)))) | with_reducible apply Below.drew | with_reducible apply below_drewN | (with_reducible refine Below.alloc ?_ (by first | omega | (simp <;> omega)) _) | (with_reducible refine Below.setCell ?_ (by first | omega | (simp <;> omega)) _)))⟩
  · have d1 : decide (k1 ≤ 0) = false := decide_eq_false hk
    rw [d1, Bool.false_and]
    go_enter Try.func97, Try.ntmps97
    go_upto_region 1 with fail
    refine wp_region_held_drew (S := (fun w' => w'.cell? ⟨w.heap.size, 0, none⟩ = some (.slice (some ⟨ge, 0, none⟩) 2 2) ∧ (w'.cell? ⟨w.heap.size + 1, 0, none⟩ = some (.int .i64 xn) ∧ w'.cell? ⟨w.heap.size + 1, 1, none⟩ = some (.int .i64 xd)) ∧ (w'.cell? ⟨ge, 0, none⟩ = some (.int .i64 pn) ∧ w'.cell? ⟨ge, 1, none⟩ = some (.int .i64 pd)))) (by kernel_rfl) ?_ (fun hHeld => ?_)
    · ((try dsimp only); simp [go_sem, *])
    refine wpAnyH_take (i := 0) (oi := _) (v := ?_) (op_at rfl rfl) (by kernel_rfl) (by kernel_rfl) (by kernel_rfl) (fun _ _ _ h => h) (Or.inl ⟨by kernel_rfl, ?_⟩) hHeld ?_
    rotate_left
    · (intro w hSw; (try dsimp only at hSw); go_simp) <;> with_reducible rfl
    try simp only [Act.put, List.setIfInBounds_toArray, List.set_cons_zero, List.set_cons_succ]
    refine wpAnyH_take (i := 1) (oi := _) (v := ?_) (op_at rfl rfl) (by kernel_rfl) (by kernel_rfl) (by kernel_rfl) (fun _ _ _ h => h) (Or.inl ⟨by kernel_rfl, ?_⟩) hHeld ?_
    rotate_left
    · (intro w hSw; (try dsimp only at hSw); go_simp) <;> with_reducible rfl
    try simp only [Act.put, List.setIfInBounds_toArray, List.set_cons_zero, List.set_cons_succ]
    refine wpAnyH_take (i := 2) (oi := _) (v := ?_) (op_at rfl rfl) (by kernel_rfl) (by kernel_rfl) (by kernel_rfl) (fun _ _ _ h => h) (Or.inl ⟨by kernel_rfl, ?_⟩) hHeld ?_
    rotate_left
    · (intro w hSw; (try dsimp only at hSw); go_simp) <;> with_reducible rfl
    try simp only [Act.put, List.setIfInBounds_toArray, List.set_cons_zero, List.set_cons_succ]
    refine wpAnyH_take (i := 3) (oi := _) (v := ?_) (op_at rfl rfl) (by kernel_rfl) (by kernel_rfl) (by kernel_rfl) (fun _ _ _ h => h) (Or.inl ⟨by kernel_rfl, ?_⟩) hHeld ?_
    rotate_left
    · (intro w hSw; (try dsimp only at hSw); go_simp) <;> with_reducible rfl
    try simp only [Act.put, List.setIfInBounds_toArray, List.set_cons_zero, List.set_cons_succ]
    refine wpAnyH_take (i := 4) (oi := _) (v := ?_) (op_at rfl rfl) (by kernel_rfl) (by kernel_rfl) (by kernel_rfl) (fun _ _ _ h => h) (Or.inl ⟨by kernel_rfl, ?_⟩) hHeld ?_
    rotate_left
    · (intro w hSw; (try dsimp only at hSw); go_simp) <;> with_reducible rfl
    try simp only [Act.put, List.setIfInBounds_toArray, List.set_cons_zero, List.set_cons_succ]
    refine wpAnyH_take (i := 5) (oi := _) (v := ?_) (op_at rfl rfl) (by kernel_rfl) (by kernel_rfl) (by kernel_rfl) (fun _ _ _ h => h) (Or.inl ⟨by kernel_rfl, ?_⟩) hHeld ?_
    rotate_left
    · (intro w hSw; (try dsimp only at hSw); go_simp) <;> with_reducible rfl
    try simp only [Act.put, List.setIfInBounds_toArray, List.set_cons_zero, List.set_cons_succ]
    refine wpAnyH_ready (rs := [6]) (by kernel_rfl) (by simp) ?_
    refine AllReadyH.cons (o := _) (op_at rfl rfl) (fun K hK => ?_) AllReadyH.nil
    go_simp
    (first | (go_at_call 102; (with_reducible refine ((unhide HO1) _).mono ?_); rintro e w1 ⟨rfl, hbw1⟩; obtain ⟨hcw1, hfw1⟩ := bcell hbw1; have hzw1 := hbw1.size; (try simp at hzw1); (try ((have kw1w0 := (bnew hbw1) (w.heap.size) ?pf); (case pf => (first | omega | (simp; done) | (simp; omega))); obtain ⟨kcw1w0, kfw1w0, klw1w0⟩ := kw1w0)); (try ((have kw1w1 := (bnew hbw1) (w.heap.size + 1) ?pf); (case pf => (first | omega | (simp; done) | (simp; omega))); obtain ⟨kcw1w1, kfw1w1, klw1w1⟩ := kw1w1)); (try ((have kw1geX0 := (bnew hbw1) (ge) ?pf); (case pf => (first | omega | (simp; done) | (simp; omega))); obtain ⟨kcw1geX0, kfw1geX0, klw1geX0⟩ := kw1geX0))) | (go_at_call 138; (with_reducible refine ((unhide HL) _ ?pb).mono ?_); (case pb => exact (by repeat (first | with_reducible exact Below.refl _ _ | with_reducible assumption | (with_reducible refine Below.trans ?_ (Below.mono (by assumption) (by first | omega | (simp <;> omega)))) | with_reducible apply Below.drew | with_reducible apply below_drewN | (with_reducible refine Below.alloc ?_ (by first | omega | (simp <;> omega)) _) | (with_reducible refine Below.setCell ?_ (by first | omega | (simp <;> omega)) _)))); rintro e w2 ⟨rfl, hbw2⟩; have hz2 := hbw2.size; (try simp at hz2); (skip; (try ((have kw2w0 := (bnew hbw2) (w.heap.size) ?pf); (case pf => (first | omega | (simp; done) | (simp; omega))); obtain ⟨kcw2w0, kfw2w0, klw2w0⟩ := kw2w0)); (try ((have kw2w1 := (bnew hbw2) (w.heap.size + 1) ?pf); (case pf => (first | omega | (simp; done) | (simp; omega))); obtain ⟨kcw2w1, kfw2w1, klw2w1⟩ := kw2w1)); (try ((have kw2geX0 := (bnew hbw2) (ge) ?pf); (case pf => (first | omega | (simp; done) | (simp; omega))); obtain ⟨kcw2geX0, kfw2geX0, klw2geX0⟩ := kw2geX0)))) | (go_at_call 102; (with_reducible refine ((unhide HO2) _).mono ?_); rintro e w3 ⟨rfl, hbw3⟩; obtain ⟨hcw3, hfw3⟩ := bcell hbw3; have hzw3 := hbw3.size; (try simp at hzw3); (try ((have kw3w0 := (bnew hbw3) (w.heap.size) ?pf); (case pf => (first | omega | (simp; done) | (simp; omega))); obtain ⟨kcw3w0, kfw3w0, klw3w0⟩ := kw3w0)); (try ((have kw3w1 := (bnew hbw3) (w.heap.size + 1) ?pf); (case pf => (first | omega | (simp; done) | (simp; omega))); obtain ⟨kcw3w1, kfw3w1, klw3w1⟩ := kw3w1)); (try ((have kw3geX0 := (bnew hbw3) (ge) ?pf); (case pf => (first | omega | (simp; done) | (simp; omega))); obtain ⟨kcw3geX0, kfw3geX0, klw3geX0⟩ := kw3geX0))))
    go_wp2_with fail
    refine hK.out _ _ ?_ (fun hHeld => ?_)
    · ((try dsimp only); simp [go_sem, *])
    clear hK K
    try simp only [Act.put, List.setIfInBounds_toArray, List.set_cons_zero, List.set_cons_succ]
    refine wpAnyH_take (i := 7) (oi := _) (v := ?_) (op_at rfl rfl) (by kernel_rfl) (by kernel_rfl) (by kernel_rfl) (fun _ _ _ h => h) (Or.inl ⟨by kernel_rfl, ?_⟩) hHeld ?_
    rotate_left
    · (intro w hSw; (try dsimp only at hSw); go_simp) <;> with_reducible rfl
    try simp only [Act.put, List.setIfInBounds_toArray, List.set_cons_zero, List.set_cons_succ]
    refine wpAnyH_take (i := 8) (oi := _) (v := ?_) (op_at rfl rfl) (by kernel_rfl) (by kernel_rfl) (by kernel_rfl) (fun _ _ _ h => h) (Or.inl ⟨by kernel_rfl, ?_⟩) hHeld ?_
    rotate_left
    · (intro w hSw; (try dsimp only at hSw); go_simp) <;> with_reducible rfl
    try simp only [Act.put, List.setIfInBounds_toArray, List.set_cons_zero, List.set_cons_succ]
    refine wpAnyH_take (i := 9) (oi := _) (v := undef) (op_at rfl rfl) (by kernel_rfl) (by kernel_rfl) (by kernel_rfl) (fun _ _ _ h => h) (Or.inr ⟨by kernel_rfl, rfl⟩) hHeld ?_
    try simp only [Act.put, List.setIfInBounds_toArray, List.set_cons_zero, List.set_cons_succ]
    refine wpAnyH_take (i := 10) (oi := _) (v := undef) (op_at rfl rfl) (by kernel_rfl) (by kernel_rfl) (by kernel_rfl) (fun _ _ _ h => h) (Or.inr ⟨by kernel_rfl, rfl⟩) hHeld ?_
    try simp only [Act.put, List.setIfInBounds_toArray, List.set_cons_zero, List.set_cons_succ]
    refine wpAnyH_take (i := 11) (oi := _) (v := undef) (op_at rfl rfl) (by kernel_rfl) (by kernel_rfl) (by kernel_rfl) (fun _ _ _ h => h) (Or.inr ⟨by kernel_rfl, rfl⟩) hHeld ?_
    try simp only [Act.put, List.setIfInBounds_toArray, List.set_cons_zero, List.set_cons_succ]
    refine wpAnyH_take (i := 12) (oi := _) (v := undef) (op_at rfl rfl) (by kernel_rfl) (by kernel_rfl) (by kernel_rfl) (fun _ _ _ h => h) (Or.inr ⟨by kernel_rfl, rfl⟩) hHeld ?_
    try simp only [Act.put, List.setIfInBounds_toArray, List.set_cons_zero, List.set_cons_succ]
    refine wpAnyH_take (i := 13) (oi := _) (v := undef) (op_at rfl rfl) (by kernel_rfl) (by kernel_rfl) (by kernel_rfl) (fun _ _ _ h => h) (Or.inr ⟨by kernel_rfl, rfl⟩) hHeld ?_
    try simp only [Act.put, List.setIfInBounds_toArray, List.set_cons_zero, List.set_cons_succ]
    refine wpAnyH_take (i := 14) (oi := _) (v := undef) (op_at rfl rfl) (by kernel_rfl) (by kernel_rfl) (by kernel_rfl) (fun _ _ _ h => h) (Or.inr ⟨by kernel_rfl, rfl⟩) hHeld ?_
    try simp only [Act.put, List.setIfInBounds_toArray, List.set_cons_zero, List.set_cons_succ]
    refine wpAnyH_take (i := 15) (oi := _) (v := undef) (op_at rfl rfl) (by kernel_rfl) (by kernel_rfl) (by kernel_rfl) (fun _ _ _ h => h) (Or.inr ⟨by kernel_rfl, rfl⟩) hHeld ?_
    try simp only [Act.put, List.setIfInBounds_toArray, List.set_cons_zero, List.set_cons_succ]
    refine wpAnyH_take (i := 16) (oi := _) (v := ?_) (op_at rfl rfl) (by kernel_rfl) (by kernel_rfl) (by kernel_rfl) (fun _ _ _ h => h) (Or.inl ⟨by kernel_rfl, ?_⟩) hHeld ?_
    rotate_left
    · (intro w hSw; (try dsimp only at hSw); go_simp) <;> with_reducible rfl
    try simp only [Act.put, List.setIfInBounds_toArray, List.set_cons_zero, List.set_cons_succ]
    refine wpAnyH_take (i := 17) (oi := _) (v := ?_) (op_at rfl rfl) (by kernel_rfl) (by kernel_rfl) (by kernel_rfl) (fun _ _ _ h => h) (Or.inl ⟨by kernel_rfl, ?_⟩) hHeld ?_
    rotate_left
    · (intro w hSw; (try dsimp only at hSw); go_simp) <;> with_reducible rfl
    try simp only [Act.put, List.setIfInBounds_toArray, List.set_cons_zero, List.set_cons_succ]
    refine wpAnyH_done (by kernel_rfl) ?_ _
    all_goals
      go_wp2_with fail
      go_ret
      exact ⟨rfl, (by repeat (first | with_reducible exact Below.refl _ _ | with_reducible assumption | (with_reducible refine Below.trans ?_ (Below.mono (by assumption) (by first | omega | (simp <;> omega)))) | with_reducible apply Below.drew | with_reducible apply below_drewN | (with_reducible refine Below.alloc ?_ (by first | omega | (simp <;> omega)) _) | (with_reducible refine Below.setCell ?_ (by first | omega | (simp <;> omega)) _)))⟩
end Go.Proofs.Ythccdooacbablaa

namespace Go.Proofs.Ythccdooacbablaa
open Go.RowKit Rm

/-- b / (1 - m), if it is from 0 to 1. -/
def slO (l : Rat × Rat) : Option Rat := (osub (some 1) (some l.1)).bind fun d => if d.num = 0 then none else (odiv (some l.2) (some d)).bind fun x => match uB x.num x.den with | true => some x | false => none
/-- The values of all steps but the last are there, and a fraction and those behind it are in their pieces. -/
def foB (qs : List QP) (L : List (QP × QP)) (x : Rat) : Bool :=
  decide ((run qs (L.length - 1) x).length = L.length) && (List.range L.length).all fun j => hasQ (L.getD j ((0, 0), (0, 0))).1 (L.getD j ((0, 0), (0, 0))).2 ((run qs (L.length - 1) x).getD j 0)
def svL (qs : List QP) (L : List (QP × QP)) (l : Rat × Rat) : Option Rat := (slO l).bind fun x => match foB qs L x with | true => some x | false => none
theorem slO_none1 {l : Rat × Rat} (h : osub (some 1) (some l.1) = none) : slO l = none := by unfold slO; rw [h]; rfl
theorem slO_none2 {l : Rat × Rat} {d : Rat} (h : osub (some 1) (some l.1) = some d) (h0 : d.num = 0) : slO l = none := by unfold slO; rw [h, Option.bind_some, if_pos h0]
theorem slO_none3 {l : Rat × Rat} {d : Rat} (h : osub (some 1) (some l.1) = some d) (h1 : odiv (some l.2) (some d) = none) : slO l = none := by unfold slO; rw [h, Option.bind_some, h1]; split <;> rfl
theorem slO_is {l : Rat × Rat} {d x : Rat} (h : osub (some 1) (some l.1) = some d) (h0 : ¬ d.num = 0) (h1 : odiv (some l.2) (some d) = some x) : slO l = match uB x.num x.den with | true => some x | false => none := by
  unfold slO; rw [h, Option.bind_some, if_neg h0, h1]; rfl
theorem svL_none {qs : List QP} {L : List (QP × QP)} {l : Rat × Rat} (h : slO l = none) : svL qs L l = none := by unfold svL; rw [h]; rfl
theorem svL_some {qs : List QP} {L : List (QP × QP)} {l : Rat × Rat} {x : Rat} (h : slO l = some x) : svL qs L l = match foB qs L x with | true => some x | false => none := by unfold svL; rw [h]; rfl
theorem orbO_run {qs : List QP} {x : Rat} {k : Nat} (hg : GMap qs) (hx : Un x) (hk : k ≤ 60) : orbO (qs.map qp) x.num x.den k = if (run qs k x).length = k + 1 then some (run qs k x) else none := by
  unfold orbO
  rw [runO_map hg hx hk]
  simp
theorem un_uB {x : Rat} (h : uB x.num x.den = true) : Un x := by
  obtain ⟨y, e1, e2, hf, h0, h1⟩ := uB_rat h
  obtain rfl : x = y := eq_parts.1 ⟨e1, e2⟩
  exact ⟨hf, h0, h1⟩

set_option maxRecDepth 100000 in
set_option maxHeartbeats 6400000 in
theorem solutions_q (g n c base : Nat) (qs : List QP) (A2 : Option Addr) (k c2 B : Nat) (L : List (QP × QP)) (vs : List Value) (l : Rat × Rat) (w : World) (ha : w.ownsRow base 62 4 (.slice (some ⟨g, 0, none⟩) n c) n (ptcs (qs.map qp))) (hg : GMap qs) (hn : n ≤ 1048576)
    (hrow : PcRow w B (.slice A2 (k + 1) c2) L vs) (hL : L.length = k + 1) (hk : k ≤ 60) (hf : ∀ x ∈ L, fits x.1.1 = true ∧ fits x.2.1 = true) (hl1 : fits l.1 = true) (hl2 : fits l.2 = true) (o : Option Rat) (ho : Hid (o = svL qs L l)) :
    Calls Try.prog 50 #[.agg #[.slice A2 (k + 1) c2, .int .i64 l.1.num, .int .i64 l.1.den, .int .i64 l.2.num, .int .i64 l.2.den], .slice (some ⟨g, 0, none⟩) n c] w fun e w' =>
      (∀ x : Rat, o = some x → ∃ gs : Nat, e = .returned (.tuple #[.slice (some ⟨gs, 0, none⟩) 1 1, .bool true]) ∧ gs < w'.heap.size ∧ w'.cell? ⟨gs, 0, none⟩ = some (.int .i64 x.num) ∧ w'.cell? ⟨gs, 1, none⟩ = some (.int .i64 x.den)) ∧
      (o = none → ∃ z : Bool, e = .returned (.tuple #[.slice none 0 0, .bool z])) ∧ Below w.heap.size w w' := by
  have h1 : ∀ W, Calls Try.prog 93 #[.agg #[.int .i64 (1), .int .i64 (1)], .agg #[.int .i64 (l.1.num), .int .i64 (l.1.den)]] W fun e w' => e = .returned (.tuple #[.agg #[.int .i64 (oN (osub (some 1) (some l.1))), .int .i64 (oD (osub (some 1) (some l.1)))], .bool (osub (some 1) (some l.1)).isSome]) ∧ Below W.heap.size W w' :=
    fun W => iSubtractRats_o (some 1) (some l.1) (isR_some rfl) (isR_some hl1) W
  rcases hd : osub (some 1) (some l.1) with _ | d
  · have hno : o = none := by rw [ho.out, svL_none (slO_none1 hd)]
    rw [hd] at h1
    have H1 := hide h1; have HNO := Lib.hid hno
    clear h1 hd hno ho hf hrow ha hl1 hl2
    simp only [oN_none, oD_none, Option.isSome_none] at H1
    generalize l.1.num = m1 at *
    generalize (l.1.den : Int) = m2 at *
    generalize l.2.num = m3 at *
    generalize (l.2.den : Int) = m4 at *
    go_enter Try.func50, Try.ntmps50
    go_wp2_with ((go_at_call 93; (with_reducible refine ((unhide H1) _).mono ?_); rintro e w1 ⟨rfl, hbw1⟩; obtain ⟨hcw1, hfw1⟩ := bcell hbw1; have hzw1 := hbw1.size; (try simp at hzw1); (try ((have kw1w0 := (bnew hbw1) (w.heap.size) ?pf); (case pf => (first | omega | (simp; done) | (simp; omega))); obtain ⟨kcw1w0, kfw1w0, klw1w0⟩ := kw1w0))))
    go_ret2
    exact ⟨fun x hx => (by rw [HNO.out] at hx; cases hx), fun _ => ⟨_, rfl⟩, (by repeat (first | with_reducible exact Below.refl _ _ | with_reducible assumption | (with_reducible refine Below.trans ?_ (Below.mono (by assumption) (by first | omega | (simp <;> omega)))) | with_reducible apply Below.drew | with_reducible apply below_drewN | (with_reducible refine Below.alloc ?_ (by first | omega | (simp <;> omega)) _) | (with_reducible refine Below.setCell ?_ (by first | omega | (simp <;> omega)) _)))⟩
  · rw [hd] at h1
    have hdf := osub_is hd
    by_cases hd0 : d.num = 0
    · have hno : o = none := by rw [ho.out, svL_none (slO_none2 hd hd0)]
      have H1 := hide h1; have HNO := Lib.hid hno
      simp only [oN_some, oD_some, Option.isSome_some] at H1
      rw [hd0] at H1
      clear h1 hd hno ho hf hrow ha hl1 hl2 hd0
      generalize l.1.num = m1 at *
      generalize (l.1.den : Int) = m2 at *
      generalize l.2.num = m3 at *
      generalize (l.2.den : Int) = m4 at *
      generalize (d.den : Int) = d2 at *
      go_enter Try.func50, Try.ntmps50
      go_wp2_with ((go_at_call 93; (with_reducible refine ((unhide H1) _).mono ?_); rintro e w1 ⟨rfl, hbw1⟩; obtain ⟨hcw1, hfw1⟩ := bcell hbw1; have hzw1 := hbw1.size; (try simp at hzw1); (try ((have kw1w0 := (bnew hbw1) (w.heap.size) ?pf); (case pf => (first | omega | (simp; done) | (simp; omega))); obtain ⟨kcw1w0, kfw1w0, klw1w0⟩ := kw1w0))))
      go_ret2
      exact ⟨fun x hx => (by rw [HNO.out] at hx; cases hx), fun _ => ⟨_, rfl⟩, (by repeat (first | with_reducible exact Below.refl _ _ | with_reducible assumption | (with_reducible refine Below.trans ?_ (Below.mono (by assumption) (by first | omega | (simp <;> omega)))) | with_reducible apply Below.drew | with_reducible apply below_drewN | (with_reducible refine Below.alloc ?_ (by first | omega | (simp <;> omega)) _) | (with_reducible refine Below.setCell ?_ (by first | omega | (simp <;> omega)) _)))⟩
    · have h2 := fun W => iDivideRats_o (some l.2) (some d) (isR_some hl2) (isR_some hdf) W
      rcases hx : odiv (some l.2) (some d) with _ | x
      · have hno : o = none := by rw [ho.out, svL_none (slO_none3 hd hx)]
        rw [hx] at h2
        have H1 := hide h1; have H2 := hide h2; have HNO := Lib.hid hno
        simp only [oN_some, oD_some, Option.isSome_some] at H1
        simp only [oN_some, oD_some, oN_none, oD_none, Option.isSome_none] at H2
        clear h1 h2 hd hno ho hf hrow ha hl1 hl2 hx hdf
        generalize l.1.num = m1 at *
        generalize (l.1.den : Int) = m2 at *
        generalize l.2.num = m3 at *
        generalize (l.2.den : Int) = m4 at *
        generalize d.num = d1 at *
        generalize (d.den : Int) = d2 at *
        have e1 : (d1 == 0) = false := by simpa using hd0
        have e2 : decide (d1 = 0) = false := decide_eq_false hd0
        go_enter Try.func50, Try.ntmps50
        go_wp2_with (first | (go_at_call 93; (with_reducible refine ((unhide H1) _).mono ?_); rintro e w1 ⟨rfl, hbw1⟩; obtain ⟨hcw1, hfw1⟩ := bcell hbw1; have hzw1 := hbw1.size; (try simp at hzw1); (try ((have kw1w0 := (bnew hbw1) (w.heap.size) ?pf); (case pf => (first | omega | (simp; done) | (simp; omega))); obtain ⟨kcw1w0, kfw1w0, klw1w0⟩ := kw1w0))) | (go_at_call 94; (with_reducible refine ((unhide H2) _).mono ?_); rintro e w2 ⟨rfl, hbw2⟩; obtain ⟨hcw2, hfw2⟩ := bcell hbw2; have hzw2 := hbw2.size; (try simp at hzw2); (try ((have kw2w0 := (bnew hbw2) (w.heap.size) ?pf); (case pf => (first | omega | (simp; done) | (simp; omega))); obtain ⟨kcw2w0, kfw2w0, klw2w0⟩ := kw2w0)); (try ((have kw2w10 := (bnew hbw2) (w1.heap.size) ?pf); (case pf => (first | omega | (simp; done) | (simp; omega))); obtain ⟨kcw2w10, kfw2w10, klw2w10⟩ := kw2w10))))
        go_ret2
        exact ⟨fun x hx => (by rw [HNO.out] at hx; cases hx), fun _ => ⟨_, rfl⟩, (by repeat (first | with_reducible exact Below.refl _ _ | with_reducible assumption | (with_reducible refine Below.trans ?_ (Below.mono (by assumption) (by first | omega | (simp <;> omega)))) | with_reducible apply Below.drew | with_reducible apply below_drewN | (with_reducible refine Below.alloc ?_ (by first | omega | (simp <;> omega)) _) | (with_reducible refine Below.setCell ?_ (by first | omega | (simp <;> omega)) _)))⟩
      · rw [hx] at h2
        have hsl := slO_is hd hd0 hx
        have h3 := fun W => isUnit_any x.num x.den W
        rcases hu : uB x.num x.den with _ | _
        · rw [hu] at hsl h3
          have hno : o = none := by rw [ho.out, svL_none hsl]
          have H1 := hide h1; have H2 := hide h2; have H3 := hide h3; have HNO := Lib.hid hno
          simp only [oN_some, oD_some, Option.isSome_some] at H1 H2
          clear h1 h2 h3 hd hno ho hf hrow ha hl1 hl2 hx hdf hu hsl
          generalize l.1.num = m1 at *
          generalize (l.1.den : Int) = m2 at *
          generalize l.2.num = m3 at *
          generalize (l.2.den : Int) = m4 at *
          generalize d.num = d1 at *
          generalize (d.den : Int) = d2 at *
          generalize x.num = x1 at *
          generalize (x.den : Int) = x2 at *
          have e1 : (d1 == 0) = false := by simpa using hd0
          have e2 : decide (d1 = 0) = false := decide_eq_false hd0
          go_enter Try.func50, Try.ntmps50
          go_wp2_with (first | (go_at_call 93; (with_reducible refine ((unhide H1) _).mono ?_); rintro e w1 ⟨rfl, hbw1⟩; obtain ⟨hcw1, hfw1⟩ := bcell hbw1; have hzw1 := hbw1.size; (try simp at hzw1); (try ((have kw1w0 := (bnew hbw1) (w.heap.size) ?pf); (case pf => (first | omega | (simp; done) | (simp; omega))); obtain ⟨kcw1w0, kfw1w0, klw1w0⟩ := kw1w0))) | (go_at_call 94; (with_reducible refine ((unhide H2) _).mono ?_); rintro e w2 ⟨rfl, hbw2⟩; obtain ⟨hcw2, hfw2⟩ := bcell hbw2; have hzw2 := hbw2.size; (try simp at hzw2); (try ((have kw2w0 := (bnew hbw2) (w.heap.size) ?pf); (case pf => (first | omega | (simp; done) | (simp; omega))); obtain ⟨kcw2w0, kfw2w0, klw2w0⟩ := kw2w0)); (try ((have kw2w10 := (bnew hbw2) (w1.heap.size) ?pf); (case pf => (first | omega | (simp; done) | (simp; omega))); obtain ⟨kcw2w10, kfw2w10, klw2w10⟩ := kw2w10))) | (go_at_call 95; (with_reducible refine ((unhide H3) _).mono ?_); rintro e w3 ⟨rfl, hbw3⟩; obtain ⟨hcw3, hfw3⟩ := bcell hbw3; have hzw3 := hbw3.size; (try simp at hzw3); (try ((have kw3w0 := (bnew hbw3) (w.heap.size) ?pf); (case pf => (first | omega | (simp; done) | (simp; omega))); obtain ⟨kcw3w0, kfw3w0, klw3w0⟩ := kw3w0)); (try ((have kw3w10 := (bnew hbw3) (w1.heap.size) ?pf); (case pf => (first | omega | (simp; done) | (simp; omega))); obtain ⟨kcw3w10, kfw3w10, klw3w10⟩ := kw3w10)); (try ((have kw3w20 := (bnew hbw3) (w2.heap.size) ?pf); (case pf => (first | omega | (simp; done) | (simp; omega))); obtain ⟨kcw3w20, kfw3w20, klw3w20⟩ := kw3w20))))
          go_ret2
          exact ⟨fun x hx => (by rw [HNO.out] at hx; cases hx), fun _ => ⟨_, rfl⟩, (by repeat (first | with_reducible exact Below.refl _ _ | with_reducible assumption | (with_reducible refine Below.trans ?_ (Below.mono (by assumption) (by first | omega | (simp <;> omega)))) | with_reducible apply Below.drew | with_reducible apply below_drewN | (with_reducible refine Below.alloc ?_ (by first | omega | (simp <;> omega)) _) | (with_reducible refine Below.setCell ?_ (by first | omega | (simp <;> omega)) _)))⟩
        · rw [hu] at hsl h3
          have hxu := un_uB hu
          have hsv := svL_some (qs := qs) (L := L) (l := l) (x := x) hsl
          have h4 := fun W hW => iOrbitOf_any (some ⟨g, 0, none⟩) n c base (qs.map qp) x.num x.den k W hW hn
          have hor := orbO_run hg hxu hk
          have s1 : IntKind.i64.wrap (k : Int) = (k : Int) := IntWalk.i64_in _ (by omega)
          by_cases hrl : (run qs k x).length = k + 1
          · rw [if_pos hrl] at hor
            rw [hor] at h4
            obtain ⟨_, hun, _⟩ := orbO_un hor
            unfold GivesR at h4
            simp only [Option.getD_some, Option.isSome_some, List.length_map, hrl] at h4
            have hfo : foB qs L x = (List.range (k + 1)).all fun j => hasQ (L.getD j ((0, 0), (0, 0))).1 (L.getD j ((0, 0), (0, 0))).2 ((run qs k x).getD j 0) := by
              unfold foB; rw [hL, Nat.add_sub_cancel, decide_eq_true hrl]; rfl
            rw [hfo] at hsv
            rw [hrl] at hun
            have HA := hide ha; have HROW := hide hrow; have HL := Lib.hid hL; have HF := hide hf; have HU := hide hun; have HRL := Lib.hid hrl
            have H1 := hide h1; have H2 := hide h2; have H3 := hide h3; have H4 := hide h4
            simp only [oN_some, oD_some, Option.isSome_some] at H1 H2
            have hall : (∀ j, j < k + 1 → hasQ (L.getD j ((0, 0), (0, 0))).1 (L.getD j ((0, 0), (0, 0))).2 ((run qs k x).getD j 0) = true) → o = some x := fun h => by
              rw [ho.out, hsv, show ((List.range (k + 1)).all fun j => hasQ (L.getD j ((0, 0), (0, 0))).1 (L.getD j ((0, 0), (0, 0))).2 ((run qs k x).getD j 0)) = true by rw [List.all_eq_true]; exact fun j hj => h j (List.mem_range.1 hj)]
            have hone : ∀ j, j < k + 1 → hasQ (L.getD j ((0, 0), (0, 0))).1 (L.getD j ((0, 0), (0, 0))).2 ((run qs k x).getD j 0) = false → o = none := fun j hj h => by
              rw [ho.out, hsv, show ((List.range (k + 1)).all fun j => hasQ (L.getD j ((0, 0), (0, 0))).1 (L.getD j ((0, 0), (0, 0))).2 ((run qs k x).getD j 0)) = false by rw [List.all_eq_false]; exact ⟨j, List.mem_range.2 hj, by rw [h]; decide⟩]
            have HALL := hide hall; have HONE := hide hone
            clear h1 h2 h3 h4 hd ho hf hrow ha hl1 hl2 hx hdf hu hsl hsv hor hfo hun hxu hL hrl hall hone
            generalize l.1.num = m1 at *
            generalize (l.1.den : Int) = m2 at *
            generalize l.2.num = m3 at *
            generalize (l.2.den : Int) = m4 at *
            generalize d.num = d1 at *
            generalize (d.den : Int) = d2 at *
            generalize run qs k x = R at *
            obtain ⟨x1, hx1⟩ : ∃ r, r = x.num := ⟨_, rfl⟩
            obtain ⟨x2, hx2⟩ : ∃ r, r = (x.den : Int) := ⟨_, rfl⟩
            rw [← hx1, ← hx2] at H2 H3 H4
            have HX := Lib.hid (And.intro hx1 hx2); clear hx1 hx2
            have e1 : (d1 == 0) = false := by simpa using hd0
            have e2 : decide (d1 = 0) = false := decide_eq_false hd0
            go_enter Try.func50, Try.ntmps50
            go_wp2_with (first
              | (go_at_call 93; (with_reducible refine ((unhide H1) _).mono ?_); rintro e w1 ⟨rfl, hbw1⟩; obtain ⟨hcw1, hfw1⟩ := bcell hbw1; have hzw1 := hbw1.size; (try simp at hzw1); (try ((have kw1w0 := (bnew hbw1) (w.heap.size) ?pf); (case pf => (first | omega | (simp; done) | (simp; omega))); obtain ⟨kcw1w0, kfw1w0, klw1w0⟩ := kw1w0)))
              | (go_at_call 94; (with_reducible refine ((unhide H2) _).mono ?_); rintro e w2 ⟨rfl, hbw2⟩; obtain ⟨hcw2, hfw2⟩ := bcell hbw2; have hzw2 := hbw2.size; (try simp at hzw2); (try ((have kw2w0 := (bnew hbw2) (w.heap.size) ?pf); (case pf => (first | omega | (simp; done) | (simp; omega))); obtain ⟨kcw2w0, kfw2w0, klw2w0⟩ := kw2w0)); (try ((have kw2w10 := (bnew hbw2) (w1.heap.size) ?pf); (case pf => (first | omega | (simp; done) | (simp; omega))); obtain ⟨kcw2w10, kfw2w10, klw2w10⟩ := kw2w10)))
              | (go_at_call 95; (with_reducible refine ((unhide H3) _).mono ?_); rintro e w3 ⟨rfl, hbw3⟩; obtain ⟨hcw3, hfw3⟩ := bcell hbw3; have hzw3 := hbw3.size; (try simp at hzw3); (try ((have kw3w0 := (bnew hbw3) (w.heap.size) ?pf); (case pf => (first | omega | (simp; done) | (simp; omega))); obtain ⟨kcw3w0, kfw3w0, klw3w0⟩ := kw3w0)); (try ((have kw3w10 := (bnew hbw3) (w1.heap.size) ?pf); (case pf => (first | omega | (simp; done) | (simp; omega))); obtain ⟨kcw3w10, kfw3w10, klw3w10⟩ := kw3w10)); (try ((have kw3w20 := (bnew hbw3) (w2.heap.size) ?pf); (case pf => (first | omega | (simp; done) | (simp; omega))); obtain ⟨kcw3w20, kfw3w20, klw3w20⟩ := kw3w20)))
              | (go_at_call 96; (with_reducible refine ((unhide H4) _ (own_below (unhide HA) ?pb)).mono ?_); (case pb => exact (by repeat (first | with_reducible exact Below.refl _ _ | with_reducible assumption | (with_reducible refine Below.trans ?_ (Below.mono (by assumption) (by first | omega | (simp <;> omega)))) | with_reducible apply Below.drew | with_reducible apply below_drewN | (with_reducible refine Below.alloc ?_ (by first | omega | (simp <;> omega)) _) | (with_reducible refine Below.setCell ?_ (by first | omega | (simp <;> omega)) _)))); rintro e w4 ⟨⟨Ao, d4, rfl, hoo⟩, hbw4⟩; have hz4 := hbw4.size; (try simp at hz4); (skip; (try ((have kw4w0 := (bnew hbw4) (w.heap.size) ?pf); (case pf => (first | omega | (simp; done) | (simp; omega))); obtain ⟨kcw4w0, kfw4w0, klw4w0⟩ := kw4w0)); (try ((have kw4w20 := (bnew hbw4) (w2.heap.size) ?pf); (case pf => (first | omega | (simp; done) | (simp; omega))); obtain ⟨kcw4w20, kfw4w20, klw4w20⟩ := kw4w20))); have HOO := hide hoo; clear hoo))
            have hb04 : Below w.heap.size w w4 := (by repeat (first | with_reducible exact Below.refl _ _ | with_reducible assumption | (with_reducible refine Below.trans ?_ (Below.mono (by assumption) (by first | omega | (simp <;> omega)))) | with_reducible apply Below.drew | with_reducible apply below_drewN | (with_reducible refine Below.alloc ?_ (by first | omega | (simp <;> omega)) _) | (with_reducible refine Below.setCell ?_ (by first | omega | (simp <;> omega)) _)))
            have x0 : w4.cell? ⟨w.heap.size, 0, none⟩ = some (.slice A2 (k + 1) c2) := by simp [go_sem, *]
            have X0 : w4.cell? ⟨w2.heap.size, 0, none⟩ = some (.int .i64 x1) := by simp [go_sem, *]
            have X1 : w4.cell? ⟨w2.heap.size, 1, none⟩ = some (.int .i64 x2) := by simp [go_sem, *]
            have hl0 : w.heap.size < w4.heap.size := klw4w0
            have hl2 : w2.heap.size < w4.heap.size := klw4w20
            have HROW4 := hide ((unhide HROW).below hb04)
            have HB04 := hide hb04
            clear kcw1w0 kfw1w0 klw1w0 kcw2w0 kfw2w0 klw2w0 kcw3w0 kfw3w0 klw3w0 kcw4w0 kfw4w0 klw4w0 kcw3w20 kfw3w20 klw3w20 kcw4w20 kfw4w20 klw4w20 kcw2w10 kfw2w10 klw2w10 kcw3w10 kfw3w10 klw3w10 hbw1 hbw2 hbw3 hbw4 hb04 HROW H1 H2 H3 H4 e1 e2
            clear hcw1 hfw1 hcw2 hfw2 hcw3 hfw3
            generalize w2.heap.size = M at *
            go_loopw [52] (fun iv wr => ∃ j : Nat, iv = .int .i64 (j : Int) ∧ j ≤ k + 1 ∧ Hid (∀ i, i < j → hasQ (L.getD i ((0, 0), (0, 0))).1 (L.getD i ((0, 0), (0, 0))).2 (R.getD i 0) = true) ∧ Below w4.heap.size w4 wr) (fun iv _ => k + 1 - (intOf iv).toNat)
            case atStart => exact ⟨0, rfl, by omega, hide (fun i h => by omega), Below.refl _ _⟩
            case round =>
              obtain ⟨j, rfl, hj, hin, hbwr⟩ := hrel
              have hzwr := hbwr.size
              have q0 := (hbwr.cell (p := ⟨w.heap.size, 0, none⟩) hl0).trans x0
              have Q0 := (hbwr.cell (p := ⟨M, 0, none⟩) hl2).trans X0
              have Q1 := (hbwr.cell (p := ⟨M, 1, none⟩) hl2).trans X1
              have lM : M < wr.heap.size := by omega
              have lw : w.heap.size < wr.heap.size := by omega
              have hb := (unhide HB04).trans (hbwr.mono (unhide HB04).size)
              by_cases hlt : j < k + 1
              · have hjl : j < L.length := by rw [HL.out]; exact hlt
                have hjR : j < R.length := by rw [HRL.out]; exact hlt
                obtain ⟨p, q, hpq⟩ : ∃ p q, L[j]? = some (p, q) := ⟨(L[j]'hjl).1, (L[j]'hjl).2, List.getElem?_eq_getElem hjl⟩
                have hgd : L.getD j ((0, 0), (0, 0)) = (p, q) := by rw [List.getD_eq_getElem?_getD, hpq]; rfl
                obtain ⟨hf1, hf2⟩ := (unhide HF) (p, q) (List.mem_iff_getElem?.2 ⟨_, hpq⟩)
                obtain ⟨go, rfl, hgo, _, f0, f1⟩ := frs_cells (own_below (unhide HOO) hbwr) hlt (zfAt_q R hjR)
                obtain ⟨gp, v1, v2, rfl, hgp, y0, y1, hpc⟩ := ((unhide HROW4).below hbwr).at hpq
                obtain ⟨ge, bs, bt, rfl, rfl, hrest⟩ := hpc
                have hpc : PcAt wr (.slice (some ⟨ge, 0, none⟩) 2 2) (.func (.func 159) #[] #[.pointer (some ⟨bs, 0, none⟩), .pointer (some ⟨bt, 0, none⟩)]) p q := ⟨ge, bs, bt, rfl, rfl, hrest⟩
                have hhas := fun W (hW : Below wr.heap.size wr W) => has_q (hpc.below hW) (R.getD j 0) ((unhide HU) j hlt).fit hf1 hf2
                have hnx : hasQ p q (R.getD j 0) = true → ∀ i, i < j + 1 → hasQ (L.getD i ((0, 0), (0, 0))).1 (L.getD i ((0, 0), (0, 0))).2 (R.getD i 0) = true := fun h i hi => by
                  rcases Nat.lt_or_ge i j with h1 | h1
                  · exact (unhide hin) i h1
                  · obtain rfl : i = j := by omega
                    rw [hgd]; exact h
                have hbad : hasQ p q (R.getD j 0) = false → o = none := fun h => (unhide HONE) j hlt (by rw [hgd]; exact h)
                have HHAS := hide hhas; have HNX := hide hnx; have HBAD := hide hbad; have HB := hide hb; have HBW := hide hbwr
                clear hhas hnx hbad hb hbwr hpc hrest hin hgd hpq hf1 hf2 x0 X0 X1
                have s2 : (0 : Int) ≤ (j : Int) := by omega
                have s3 : (j : Int) < ((k + 1 : Nat) : Int) := by omega
                have s4 : (j : Int) < (k : Int) + 1 := by omega
                generalize (R.getD j 0).num = yn at *
                generalize ((R.getD j 0).den : Int) = yd at *
                cases hh : hasQ p q (R.getD j 0) with
                | true =>
                  rw [hh] at HHAS
                  have hn1 := hide ((unhide HNX) hh)
                  clear hh HNX HBAD
                  go_upto_region 17 with fail
                  go_region_held3 (fun w' => w'.cell? ⟨w.heap.size, 0, none⟩ = some (.slice (some ⟨gp, 0, none⟩) (k + 1) c2) ∧ (w'.cell? ⟨gp, j * 2, none⟩ = some (.slice (some ⟨ge, 0, none⟩) 2 2) ∧ w'.cell? ⟨gp, j * 2 + 1, none⟩ = some (.func (.func 159) #[] #[.pointer (some ⟨bs, 0, none⟩), .pointer (some ⟨bt, 0, none⟩)])) ∧ (w'.cell? ⟨wr.heap.size, 0, none⟩ = some (.int .i64 yn) ∧ w'.cell? ⟨wr.heap.size, 1, none⟩ = some (.int .i64 yd))) (simp [go_sem, *])
                    ((go_at_call 97; (with_reducible refine ((unhide HHAS) _ ?pb).mono ?_); (case pb => exact (by repeat (first | with_reducible exact Below.refl _ _ | with_reducible assumption | (with_reducible refine Below.trans ?_ (Below.mono (by assumption) (by first | omega | (simp <;> omega)))) | with_reducible apply Below.drew | with_reducible apply below_drewN | (with_reducible refine Below.alloc ?_ (by first | omega | (simp <;> omega)) _) | (with_reducible refine Below.setCell ?_ (by first | omega | (simp <;> omega)) _)))); rintro e w5 ⟨rfl, hbw5⟩; have hz5 := hbw5.size; (try simp at hz5); (skip; (try ((have kw5w0 := (bnew hbw5) (w.heap.size) ?pf); (case pf => (first | omega | (simp; done) | (simp; omega))); obtain ⟨kcw5w0, kfw5w0, klw5w0⟩ := kw5w0)); (try ((have kw5gpX0 := (bnew hbw5) (gp) ?pf); (case pf => (first | omega | (simp; done) | (simp; omega))); obtain ⟨kcw5gpX0, kfw5gpX0, klw5gpX0⟩ := kw5gpX0)); (try ((have kw5wr0 := (bnew hbw5) (wr.heap.size) ?pf); (case pf => (first | omega | (simp; done) | (simp; omega))); obtain ⟨kcw5wr0, kfw5wr0, klw5wr0⟩ := kw5wr0)))))
                  all_goals
                    go_wp2_with fail
                    have hb := unhide HBW
                    go_roundw
                    case rel => exact ⟨j + 1, by go_num, by omega, hn1, (by repeat (first | with_reducible exact Below.refl _ _ | with_reducible assumption | (with_reducible refine Below.trans ?_ (Below.mono (by assumption) (by first | omega | (simp <;> omega)))) | with_reducible apply Below.drew | with_reducible apply below_drewN | (with_reducible refine Below.alloc ?_ (by first | omega | (simp <;> omega)) _) | (with_reducible refine Below.setCell ?_ (by first | omega | (simp <;> omega)) _)))⟩
                    case measure => (simp [intOf] <;> omega)
                | false =>
                  rw [hh] at HHAS
                  have HNO := Lib.hid ((unhide HBAD) hh)
                  clear hh HNX HBAD
                  go_upto_region 17 with fail
                  go_region_held3 (fun w' => w'.cell? ⟨w.heap.size, 0, none⟩ = some (.slice (some ⟨gp, 0, none⟩) (k + 1) c2) ∧ (w'.cell? ⟨gp, j * 2, none⟩ = some (.slice (some ⟨ge, 0, none⟩) 2 2) ∧ w'.cell? ⟨gp, j * 2 + 1, none⟩ = some (.func (.func 159) #[] #[.pointer (some ⟨bs, 0, none⟩), .pointer (some ⟨bt, 0, none⟩)])) ∧ (w'.cell? ⟨wr.heap.size, 0, none⟩ = some (.int .i64 yn) ∧ w'.cell? ⟨wr.heap.size, 1, none⟩ = some (.int .i64 yd))) (simp [go_sem, *])
                    ((go_at_call 97; (with_reducible refine ((unhide HHAS) _ ?pb).mono ?_); (case pb => exact (by repeat (first | with_reducible exact Below.refl _ _ | with_reducible assumption | (with_reducible refine Below.trans ?_ (Below.mono (by assumption) (by first | omega | (simp <;> omega)))) | with_reducible apply Below.drew | with_reducible apply below_drewN | (with_reducible refine Below.alloc ?_ (by first | omega | (simp <;> omega)) _) | (with_reducible refine Below.setCell ?_ (by first | omega | (simp <;> omega)) _)))); rintro e w5 ⟨rfl, hbw5⟩; have hz5 := hbw5.size; (try simp at hz5); (skip; (try ((have kw5w0 := (bnew hbw5) (w.heap.size) ?pf); (case pf => (first | omega | (simp; done) | (simp; omega))); obtain ⟨kcw5w0, kfw5w0, klw5w0⟩ := kw5w0)); (try ((have kw5gpX0 := (bnew hbw5) (gp) ?pf); (case pf => (first | omega | (simp; done) | (simp; omega))); obtain ⟨kcw5gpX0, kfw5gpX0, klw5gpX0⟩ := kw5gpX0)); (try ((have kw5wr0 := (bnew hbw5) (wr.heap.size) ?pf); (case pf => (first | omega | (simp; done) | (simp; omega))); obtain ⟨kcw5wr0, kfw5wr0, klw5wr0⟩ := kw5wr0)))))
                  all_goals
                    go_wp2_with fail
                    have hb := unhide HB
                    go_ret2
                    exact ⟨fun x hx => (by rw [HNO.out] at hx; cases hx), fun _ => ⟨_, rfl⟩, (by repeat (first | with_reducible exact Below.refl _ _ | with_reducible assumption | (with_reducible refine Below.trans ?_ (Below.mono (by assumption) (by first | omega | (simp <;> omega)))) | with_reducible apply Below.drew | with_reducible apply below_drewN | (with_reducible refine Below.alloc ?_ (by first | omega | (simp <;> omega)) _) | (with_reducible refine Below.setCell ?_ (by first | omega | (simp <;> omega)) _)))⟩
              · obtain rfl : j = k + 1 := by omega
                have HOX := Lib.hid ((unhide HALL) (unhide hin))
                have HB := hide hb
                clear hin hb hbwr x0 X0 X1
                go_wp2_with fail
                have hb := unhide HB
                go_ret2
                exact ⟨fun y hy => (by rw [HOX.out] at hy; obtain rfl := Option.some.inj hy; exact ⟨_, rfl, by simp, by rw [← HX.out.1]; simp [go_sem], by rw [← HX.out.2]; simp [go_sem]⟩), fun h => (by rw [HOX.out] at h; cases h), (by repeat (first | with_reducible exact Below.refl _ _ | with_reducible assumption | (with_reducible refine Below.trans ?_ (Below.mono (by assumption) (by first | omega | (simp <;> omega)))) | with_reducible apply Below.drew | with_reducible apply below_drewN | (with_reducible refine Below.alloc ?_ (by first | omega | (simp <;> omega)) _) | (with_reducible refine Below.setCell ?_ (by first | omega | (simp <;> omega)) _)))⟩
          · rw [if_neg hrl] at hor
            rw [hor] at h4
            have hno : o = none := by rw [ho.out, hsv, show foB qs L x = false by unfold foB; rw [hL, Nat.add_sub_cancel, decide_eq_false hrl]; rfl]
            have HA := hide ha
            have H1 := hide h1; have H2 := hide h2; have H3 := hide h3; have H4 := hide h4; have HNO := Lib.hid hno
            simp only [oN_some, oD_some, Option.isSome_some] at H1 H2
            simp only [Option.getD_none, List.map_nil, Option.isSome_none] at H4
            clear h1 h2 h3 h4 hd hno ho hf hrow ha hl1 hl2 hx hdf hu hsl hsv hor hrl hxu
            generalize l.1.num = m1 at *
            generalize (l.1.den : Int) = m2 at *
            generalize l.2.num = m3 at *
            generalize (l.2.den : Int) = m4 at *
            generalize d.num = d1 at *
            generalize (d.den : Int) = d2 at *
            generalize x.num = x1 at *
            generalize (x.den : Int) = x2 at *
            have e1 : (d1 == 0) = false := by simpa using hd0
            have e2 : decide (d1 = 0) = false := decide_eq_false hd0
            go_enter Try.func50, Try.ntmps50
            go_wp2_with (first
              | (go_at_call 93; (with_reducible refine ((unhide H1) _).mono ?_); rintro e w1 ⟨rfl, hbw1⟩; obtain ⟨hcw1, hfw1⟩ := bcell hbw1; have hzw1 := hbw1.size; (try simp at hzw1); (try ((have kw1w0 := (bnew hbw1) (w.heap.size) ?pf); (case pf => (first | omega | (simp; done) | (simp; omega))); obtain ⟨kcw1w0, kfw1w0, klw1w0⟩ := kw1w0)))
              | (go_at_call 94; (with_reducible refine ((unhide H2) _).mono ?_); rintro e w2 ⟨rfl, hbw2⟩; obtain ⟨hcw2, hfw2⟩ := bcell hbw2; have hzw2 := hbw2.size; (try simp at hzw2); (try ((have kw2w0 := (bnew hbw2) (w.heap.size) ?pf); (case pf => (first | omega | (simp; done) | (simp; omega))); obtain ⟨kcw2w0, kfw2w0, klw2w0⟩ := kw2w0)); (try ((have kw2w10 := (bnew hbw2) (w1.heap.size) ?pf); (case pf => (first | omega | (simp; done) | (simp; omega))); obtain ⟨kcw2w10, kfw2w10, klw2w10⟩ := kw2w10)))
              | (go_at_call 95; (with_reducible refine ((unhide H3) _).mono ?_); rintro e w3 ⟨rfl, hbw3⟩; obtain ⟨hcw3, hfw3⟩ := bcell hbw3; have hzw3 := hbw3.size; (try simp at hzw3); (try ((have kw3w0 := (bnew hbw3) (w.heap.size) ?pf); (case pf => (first | omega | (simp; done) | (simp; omega))); obtain ⟨kcw3w0, kfw3w0, klw3w0⟩ := kw3w0)); (try ((have kw3w10 := (bnew hbw3) (w1.heap.size) ?pf); (case pf => (first | omega | (simp; done) | (simp; omega))); obtain ⟨kcw3w10, kfw3w10, klw3w10⟩ := kw3w10)); (try ((have kw3w20 := (bnew hbw3) (w2.heap.size) ?pf); (case pf => (first | omega | (simp; done) | (simp; omega))); obtain ⟨kcw3w20, kfw3w20, klw3w20⟩ := kw3w20)))
              | (go_at_call 96; (with_reducible refine ((unhide H4) _ (own_below (unhide HA) ?pb)).mono ?_); (case pb => exact (by repeat (first | with_reducible exact Below.refl _ _ | with_reducible assumption | (with_reducible refine Below.trans ?_ (Below.mono (by assumption) (by first | omega | (simp <;> omega)))) | with_reducible apply Below.drew | with_reducible apply below_drewN | (with_reducible refine Below.alloc ?_ (by first | omega | (simp <;> omega)) _) | (with_reducible refine Below.setCell ?_ (by first | omega | (simp <;> omega)) _)))); rintro e w4 ⟨⟨Ao, d4, rfl, hoo⟩, hbw4⟩; have hz4 := hbw4.size; (try simp at hz4); (skip; (try ((have kw4w0 := (bnew hbw4) (w.heap.size) ?pf); (case pf => (first | omega | (simp; done) | (simp; omega))); obtain ⟨kcw4w0, kfw4w0, klw4w0⟩ := kw4w0)))))
            go_ret2
            exact ⟨fun x hx => (by rw [HNO.out] at hx; cases hx), fun _ => ⟨_, rfl⟩, (by repeat (first | with_reducible exact Below.refl _ _ | with_reducible assumption | (with_reducible refine Below.trans ?_ (Below.mono (by assumption) (by first | omega | (simp <;> omega)))) | with_reducible apply Below.drew | with_reducible apply below_drewN | (with_reducible refine Below.alloc ?_ (by first | omega | (simp <;> omega)) _) | (with_reducible refine Below.setCell ?_ (by first | omega | (simp <;> omega)) _)))⟩
end Go.Proofs.Ythccdooacbablaa

namespace Go.Proofs.Ythccdooacbablaa
open Go.RowKit Rm

/-- A fraction is in the first piece, and what is behind it follows the others. -/
def folB (qs : List QP) : List (QP × QP) → Rat → Bool
  | [], _ => true
  | [pq], x => hasQ pq.1 pq.2 x
  | pq :: r :: L, x => hasQ pq.1 pq.2 x && match vAt qs x with | none => false | some y => folB qs (r :: L) y
theorem folB_one (qs : List QP) (pq : QP × QP) (x : Rat) : folB qs [pq] x = hasQ pq.1 pq.2 x := rfl
theorem folB_no {qs : List QP} {pq : QP × QP} {L : List (QP × QP)} {x : Rat} (h : hasQ pq.1 pq.2 x = false) : folB qs (pq :: L) x = false := by
  cases L with
  | nil => exact h
  | cons r L => show (hasQ pq.1 pq.2 x && _) = false; rw [h]; rfl
theorem folB_far {qs : List QP} {pq r : QP × QP} {L : List (QP × QP)} {x : Rat} (h : vAt qs x = none) : folB qs (pq :: r :: L) x = false := by
  show (hasQ pq.1 pq.2 x && _) = false
  rw [h]; simp
theorem folB_go {qs : List QP} {pq r : QP × QP} {L : List (QP × QP)} {x y : Rat} (h : hasQ pq.1 pq.2 x = true) (hv : vAt qs x = some y) : folB qs (pq :: r :: L) x = folB qs (r :: L) y := by
  show (hasQ pq.1 pq.2 x && _) = _
  rw [h, hv]; rfl
theorem all_range_succ (n : Nat) (f : Nat → Bool) : (List.range (n + 1)).all f = (f 0 && (List.range n).all fun j => f (j + 1)) := by
  rw [List.range_succ_eq_map, List.all_cons, List.all_map]; rfl
theorem folB_fo (qs : List QP) : ∀ (L : List (QP × QP)) (x : Rat), L ≠ [] → folB qs L x = foB qs L x
  | [], _, h => absurd rfl h
  | [pq], x, _ => by
    unfold foB
    simp [folB, run]
  | pq :: r :: L, x, _ => by
    have ih := fun y => folB_fo qs (r :: L) y (by simp)
    have hn : (pq :: r :: L).length - 1 = (r :: L).length - 1 + 1 := by simp
    cases hv : vAt qs x with
    | none =>
      rw [folB_far hv]
      unfold foB
      rw [hn, run_none hv]
      simp
    | some y =>
      show (hasQ pq.1 pq.2 x && _) = _
      rw [hv]
      show (hasQ pq.1 pq.2 x && folB qs (r :: L) y) = _
      rw [ih y]
      unfold foB
      rw [hn, run_some hv, show (pq :: r :: L).length = (r :: L).length + 1 from rfl, all_range_succ]
      simp only [List.length_cons, Nat.add_right_cancel_iff, List.getD_cons_zero, List.getD_cons_succ, Nat.add_sub_cancel]
      cases hasQ pq.1 pq.2 x <;> simp

theorem own_base {w w' : World} {base : Nat} {e : TypeId} {size g n c X : Nat} {xs : List Value} (h : w.ownsRow base e size (.slice (some ⟨g, 0, none⟩) n c) n xs) (hb : Below X w w') (hg : g < X) : w'.ownsRow base e size (.slice (some ⟨g, 0, none⟩) n c) n xs := by
  refine ⟨h.1, ?_⟩
  rcases h.2 with ⟨hv, _⟩ | ⟨g', cap, cur, hv, h1, h2, h3⟩
  · cases hv
  · injection hv with e1 e2 e3
    injection e1 with e1
    obtain rfl : g = g' := (Addr.mk.inj e1).1
    exact .inr ⟨g, cap, cur, by rw [e3], h1, (hb.block g hg).trans h2, h3⟩

set_option maxRecDepth 100000 in
set_option maxHeartbeats 12800000 in
theorem peFollows_q (g n c base gw m cw : Nat) (qs : List QP) (r : List Int) (x : Rat) (w : World) (ha : w.ownsRow base 62 4 (.slice (some ⟨g, 0, none⟩) n c) n (ptcs (qs.map qp))) (hg : GMap qs)
    (hw : WCells w gw m r) (hm : m ≤ 1048576) (hl : r.length = m) (h0 : 1 ≤ m) (hr : ∀ k ∈ r, 0 ≤ k ∧ k ≤ (n : Int) - 2) (hx : Un x) (z : Bool) (hz : Hid (z = folB qs (wdL qs r) x)) :
    Calls Try.prog 92 #[.slice (some ⟨g, 0, none⟩) n c, .slice (some ⟨gw, 0, none⟩) m cw, .agg #[.int .i64 (x.num), .int .i64 (x.den)]] w fun e w' => ∃ i o : Bool, e = .returned (.tuple #[.bool i, .bool o]) ∧ (i && o) = z ∧ Below w.heap.size w w' := by
  have hlen : qs.length = n := by have := own_len ha; rw [List.length_map] at this; exact this
  have hlo := hg.lo
  have hhi := hg.hi
  rw [hlen] at hlo hhi
  have hgl := (ha.lt g rfl).2
  have hwl := hw.lt
  have hwn : (wdL qs r).length = m := by unfold wdL; rw [List.length_map, hl]
  have HA := hide ha; have HW := hide hw; have HL := Lib.hid hl; have HR := hide hr; have HG := Lib.hid hg; have HLN := Lib.hid hlen; have HU := Lib.hid hx; have HWN := Lib.hid hwn
  clear ha hw hl hr hg hlen hx hwn
  obtain ⟨X, hX⟩ : ∃ X, X = w.heap.size := ⟨_, rfl⟩
  have HX := Lib.hid hX
  go_enter Try.func92, Try.ntmps92
  go_wp2_with fail
  have b0 : (w.alloc (.cells #[.int .i64 x.num, .int .i64 x.den] 26)).cell? ⟨w.heap.size, 0, none⟩ = some (.int .i64 x.num) := by simp [go_sem]
  have b1 : (w.alloc (.cells #[.int .i64 x.num, .int .i64 x.den] 26)).cell? ⟨w.heap.size, 1, none⟩ = some (.int .i64 x.den) := by simp [go_sem]
  have bf : ∀ o, (w.alloc (.cells #[.int .i64 x.num, .int .i64 x.den] 26)).frozen? ⟨w.heap.size, o, none⟩ = false := by intro o; simp [go_sem]
  have hb0 : Below w.heap.size w (w.alloc (.cells #[.int .i64 x.num, .int .i64 x.den] 26)) := (by repeat (first | with_reducible exact Below.refl _ _ | with_reducible assumption | (with_reducible refine Below.trans ?_ (Below.mono (by assumption) (by first | omega | (simp <;> omega)))) | with_reducible apply Below.drew | with_reducible apply below_drewN | (with_reducible refine Below.alloc ?_ (by first | omega | (simp <;> omega)) _) | (with_reducible refine Below.setCell ?_ (by first | omega | (simp <;> omega)) _)))
  have hXl : w.heap.size < (w.alloc (.cells #[.int .i64 x.num, .int .i64 x.den] 26)).heap.size := by simp
  have HAq := hide (own_below (unhide HA) hb0)
  have HWq := hide ((unhide HW).below hb0)
  have HBQ := hide hb0
  generalize w.alloc (.cells #[.int .i64 x.num, .int .i64 x.den] 26) = wq at *
  rw [← hX] at b0 b1 bf hXl ⊢
  clear hX hb0 HA HW
  go_loopw [14] (fun iv wr => ∃ (j : Nat) (cur : Rat), iv = .int .i64 (j : Int) ∧ j < m ∧ Hid (z = folB qs ((wdL qs r).drop j) cur) ∧ Hid (Un cur) ∧ wr.cell? ⟨X, 0, none⟩ = some (.int .i64 cur.num) ∧ wr.cell? ⟨X, 1, none⟩ = some (.int .i64 cur.den) ∧ (∀ o, wr.frozen? ⟨X, o, none⟩ = false) ∧ X < wr.heap.size ∧ Below X wq wr) (fun iv _ => m - (intOf iv).toNat)
  case atStart => exact ⟨0, x, rfl, by omega, by rw [List.drop_zero]; exact hz, HU, b0, b1, bf, hXl, Below.refl _ _⟩
  case round =>
    obtain ⟨j, cur, rfl, hj, HZ, HCU, c0, c1, cf, hXr, hbr⟩ := hrel
    have hXX := HX.out
    have hjr : j < r.length := by rw [HL.out]; exact hj
    have hc0 := (hbr.cell (p := ⟨gw, j, none⟩) (by show gw < X; omega)).trans ((unhide HWq).cel j hj)
    obtain ⟨hk0, hk1⟩ := (unhide HR) _ (mem_getD hjr)
    obtain ⟨k, hk⟩ : ∃ k : Nat, r.getD j 0 = (k : Int) := ⟨(r.getD j 0).toNat, by omega⟩
    have hwd := wdL_at (qs := qs) hjr
    rw [hk] at hc0 hk1 hwd
    have hkn : k + 1 < n := by omega
    have hkl : k + 1 < qs.length := by rw [HLN.out]; exact hkn
    obtain ⟨f0, f1, _, _⟩ := q_cells (unhide HAq) (k := k) (by omega)
    obtain ⟨e0, e1, _, _⟩ := q_cells (unhide HAq) (k := k + 1) hkn
    have hgX : g < X := by omega
    replace f0 := (hbr.cell (p := ⟨g, k * 4, none⟩) hgX).trans f0
    replace f1 := (hbr.cell (p := ⟨g, k * 4 + 1, none⟩) hgX).trans f1
    replace e0 := (hbr.cell (p := ⟨g, (k + 1) * 4, none⟩) hgX).trans e0
    replace e1 := (hbr.cell (p := ⟨g, (k + 1) * 4 + 1, none⟩) hgX).trans e1
    have hd : (wdL qs r).drop j = (qAt qs k, qAt qs (k + 1)) :: (wdL qs r).drop (j + 1) := by
      have hjw : j < (wdL qs r).length := by rw [HWN.out]; exact hj
      rw [List.drop_eq_getElem_cons hjw]
      congr 1
      rw [List.getElem?_eq_getElem hjw] at hwd
      exact Option.some.inj hwd
    have hpf := co_fits (HG.out.cx k (by omega))
    have hqf := co_fits (HG.out.cx (k + 1) hkl)
    have h1 := fun W => raCmp_q cur (qAt qs k).1 HCU.out.fit hpf W
    have h2 := fun W => raCmp_q (qAt qs (k + 1)).1 cur hqf HCU.out.fit W
    have hhq : hasQ (qAt qs k) (qAt qs (k + 1)) cur = (decide (¬ cq cur (qAt qs k).1 < 0) && decide (¬ cq (qAt qs (k + 1)).1 cur < 0)) := by unfold hasQ; simp only [cq_lt]
    have h3 := fun W hW => imAt_any g n c base qs cur W hW HG.out HCU.out.fit
    have hvu := fun y (h : vAt qs cur = some y) => vAt_unit HG.out HCU.out h
    have hz' := HZ.out
    rw [hd] at hz'
    have hno : hasQ (qAt qs k) (qAt qs (k + 1)) cur = false → z = false := fun h => by rw [hz']; exact folB_no h
    have hend : j + 1 = m → hasQ (qAt qs k) (qAt qs (k + 1)) cur = true → z = true := fun h h2 => by
      rw [hz', List.drop_of_length_le (by rw [HWN.out]; omega), folB_one]; exact h2
    have hlong : ¬ j + 1 = m → ∃ (pr : QP × QP) (L : List (QP × QP)), (wdL qs r).drop (j + 1) = pr :: L := fun h => ⟨_, _, List.drop_eq_getElem_cons (by rw [HWN.out]; omega)⟩
    have hfar : ¬ j + 1 = m → vAt qs cur = none → z = false := fun h h2 => by
      obtain ⟨pr, L, e⟩ := hlong h
      rw [hz', e]; exact folB_far h2
    have hgo : ¬ j + 1 = m → hasQ (qAt qs k) (qAt qs (k + 1)) cur = true → ∀ y, vAt qs cur = some y → z = folB qs ((wdL qs r).drop (j + 1)) y := fun h h2 y h3 => by
      obtain ⟨pr, L, e⟩ := hlong h
      rw [hz', e]; exact folB_go h2 h3
    have H1 := hide h1; have H2 := hide h2; have H3 := hide h3; have HNO := hide hno; have HEND := hide hend; have HFAR := hide hfar; have HGO := hide hgo; have HHQ := Lib.hid hhq; have HVU := hide hvu
    have HAr := hide (fun (W : World) (hW : Below X wq W) => own_base (unhide HAq) hW hgX)
    have HBR := hide hbr
    have s1 : IntKind.i64.wrap ((m : Int) - 1) = (m : Int) - 1 := IntWalk.i64_in _ (by omega)
    have t1 : (0 : Int) ≤ (k : Int) := by omega
    have t2 : (k : Int) < (n : Int) := by omega
    have t3 : IntKind.i64.wrap ((k : Int) + 1) = (k : Int) + 1 := IntWalk.i64_in _ (by omega)
    have t4 : (0 : Int) ≤ (k : Int) + 1 := by omega
    have t5 : (k : Int) + 1 < (n : Int) := by omega
    have t6 : ((k : Int) + 1).toNat = k + 1 := by omega
    have t7 : (j : Int) < (m : Int) := by omega
    have hgr : g < wr.heap.size := by omega
    clear h1 h2 h3 hno hend hlong hfar hgo hhq hvu hz' hd hwd hpf hqf hbr hk0 hk HZ b0 b1 bf
    obtain ⟨K1, hK1⟩ : ∃ q, q = cq cur (qAt qs k).1 := ⟨_, rfl⟩
    obtain ⟨K2, hK2⟩ : ∃ q, q = cq (qAt qs (k + 1)).1 cur := ⟨_, rfl⟩
    rw [← hK1] at H1 HHQ
    rw [← hK2] at H2 HHQ
    clear hK1 hK2
    generalize hasQ (qAt qs k) (qAt qs (k + 1)) cur = hh at *
    generalize (qAt qs k).1.num = p1 at *
    generalize ((qAt qs k).1.den : Int) = p2 at *
    generalize (qAt qs (k + 1)).1.num = q1 at *
    generalize ((qAt qs (k + 1)).1.den : Int) = q2 at *
    generalize cur.num = y1 at *
    generalize (cur.den : Int) = y2 at *
    clear hXX
    by_cases hA : K1 < 0
    · have d1 : decide (K1 < 0) = true := decide_eq_true hA
      have hzf := Lib.hid ((unhide HNO) (by rw [HHQ.out, decide_eq_false (by omega)]; rfl))
      go_upto_region 4 with fail
      refine wp_region_held_drew (S := (fun w' => (w'.cell? ⟨X, 0, none⟩ = some (.int .i64 y1) ∧ w'.cell? ⟨X, 1, none⟩ = some (.int .i64 y2)) ∧ (w'.cell? ⟨g, k * 4, none⟩ = some (.int .i64 p1) ∧ w'.cell? ⟨g, k * 4 + 1, none⟩ = some (.int .i64 p2)) ∧ (w'.cell? ⟨g, (k + 1) * 4, none⟩ = some (.int .i64 q1) ∧ w'.cell? ⟨g, (k + 1) * 4 + 1, none⟩ = some (.int .i64 q2)))) (by kernel_rfl) ?_ (fun hHeld => ?_)
      · ((try dsimp only); simp [go_sem, *])
      refine wpAnyH_take (i := 0) (oi := _) (v := ?_) (op_at rfl rfl) (by kernel_rfl) (by kernel_rfl) (by kernel_rfl) (fun _ _ _ h => h) (Or.inl ⟨by kernel_rfl, ?_⟩) hHeld ?_
      rotate_left
      · (intro w hSw; (try dsimp only at hSw); go_simp) <;> with_reducible rfl
      try simp only [Act.put, List.setIfInBounds_toArray, List.set_cons_zero, List.set_cons_succ]
      refine wpAnyH_take (i := 1) (oi := _) (v := ?_) (op_at rfl rfl) (by kernel_rfl) (by kernel_rfl) (by kernel_rfl) (fun _ _ _ h => h) (Or.inl ⟨by kernel_rfl, ?_⟩) hHeld ?_
      rotate_left
      · (intro w hSw; (try dsimp only at hSw); go_simp) <;> with_reducible rfl
      try simp only [Act.put, List.setIfInBounds_toArray, List.set_cons_zero, List.set_cons_succ]
      refine wpAnyH_take (i := 2) (oi := _) (v := ?_) (op_at rfl rfl) (by kernel_rfl) (by kernel_rfl) (by kernel_rfl) (fun _ _ _ h => h) (Or.inl ⟨by kernel_rfl, ?_⟩) hHeld ?_
      rotate_left
      · (intro w hSw; (try dsimp only at hSw); go_simp) <;> with_reducible rfl
      try simp only [Act.put, List.setIfInBounds_toArray, List.set_cons_zero, List.set_cons_succ]
      refine wpAnyH_take (i := 3) (oi := _) (v := ?_) (op_at rfl rfl) (by kernel_rfl) (by kernel_rfl) (by kernel_rfl) (fun _ _ _ h => h) (Or.inl ⟨by kernel_rfl, ?_⟩) hHeld ?_
      rotate_left
      · (intro w hSw; (try dsimp only at hSw); go_simp) <;> with_reducible rfl
      try simp only [Act.put, List.setIfInBounds_toArray, List.set_cons_zero, List.set_cons_succ]
      refine wpAnyH_take (i := 4) (oi := _) (v := ?_) (op_at rfl rfl) (by kernel_rfl) (by kernel_rfl) (by kernel_rfl) (fun _ _ _ h => h) (Or.inl ⟨by kernel_rfl, ?_⟩) hHeld ?_
      rotate_left
      · (intro w hSw; (try dsimp only at hSw); go_simp) <;> with_reducible rfl
      try simp only [Act.put, List.setIfInBounds_toArray, List.set_cons_zero, List.set_cons_succ]
      refine wpAnyH_take (i := 5) (oi := _) (v := ?_) (op_at rfl rfl) (by kernel_rfl) (by kernel_rfl) (by kernel_rfl) (fun _ _ _ h => h) (Or.inl ⟨by kernel_rfl, ?_⟩) hHeld ?_
      rotate_left
      · (intro w hSw; (try dsimp only at hSw); go_simp) <;> with_reducible rfl
      try simp only [Act.put, List.setIfInBounds_toArray, List.set_cons_zero, List.set_cons_succ]
      refine wpAnyH_ready (rs := [6]) (by kernel_rfl) (by simp) ?_
      refine AllReadyH.cons (o := _) (op_at rfl rfl) (fun K hK => ?_) AllReadyH.nil
      go_simp
      (first | (go_at_call 99; (with_reducible refine ((unhide H1) _).mono ?_); rintro e w5 ⟨rfl, hbw5⟩; obtain ⟨hcw5, hfw5⟩ := bcell hbw5; have hzw5 := hbw5.size; (try simp at hzw5); (try ((have kw5XX0 := (bnew hbw5) (X) ?pf); (case pf => (first | omega | (simp; done) | (simp; omega))); obtain ⟨kcw5XX0, kfw5XX0, klw5XX0⟩ := kw5XX0)); (try ((have kw5gX0 := (bnew hbw5) (g) ?pf); (case pf => (first | omega | (simp; done) | (simp; omega))); obtain ⟨kcw5gX0, kfw5gX0, klw5gX0⟩ := kw5gX0))) | (go_at_call 99; (with_reducible refine ((unhide H2) _).mono ?_); rintro e w6 ⟨rfl, hbw6⟩; obtain ⟨hcw6, hfw6⟩ := bcell hbw6; have hzw6 := hbw6.size; (try simp at hzw6); (try ((have kw6XX0 := (bnew hbw6) (X) ?pf); (case pf => (first | omega | (simp; done) | (simp; omega))); obtain ⟨kcw6XX0, kfw6XX0, klw6XX0⟩ := kw6XX0)); (try ((have kw6gX0 := (bnew hbw6) (g) ?pf); (case pf => (first | omega | (simp; done) | (simp; omega))); obtain ⟨kcw6gX0, kfw6gX0, klw6gX0⟩ := kw6gX0))))
      go_wp2_with fail
      refine hK.out _ _ ?_ (fun hHeld => ?_)
      · ((try dsimp only); simp [go_sem, *])
      clear hK K
      try simp only [Act.put, List.setIfInBounds_toArray, List.set_cons_zero, List.set_cons_succ]
      refine wpAnyH_take (i := 7) (oi := _) (v := ?_) (op_at rfl rfl) (by kernel_rfl) (by kernel_rfl) (by kernel_rfl) (fun _ _ _ h => h) (Or.inl ⟨by kernel_rfl, ?_⟩) hHeld ?_
      rotate_left
      · (intro w hSw; (try dsimp only at hSw); go_simp) <;> with_reducible rfl
      try simp only [Act.put, List.setIfInBounds_toArray, List.set_cons_zero, List.set_cons_succ]
      refine wpAnyH_take (i := 8) (oi := _) (v := ?_) (op_at rfl rfl) (by kernel_rfl) (by kernel_rfl) (by kernel_rfl) (fun _ _ _ h => h) (Or.inl ⟨by kernel_rfl, ?_⟩) hHeld ?_
      rotate_left
      · (intro w hSw; (try dsimp only at hSw); go_simp) <;> with_reducible rfl
      try simp only [Act.put, List.setIfInBounds_toArray, List.set_cons_zero, List.set_cons_succ]
      refine wpAnyH_take (i := 9) (oi := _) (v := undef) (op_at rfl rfl) (by kernel_rfl) (by kernel_rfl) (by kernel_rfl) (fun _ _ _ h => h) (Or.inr ⟨by kernel_rfl, rfl⟩) hHeld ?_
      try simp only [Act.put, List.setIfInBounds_toArray, List.set_cons_zero, List.set_cons_succ]
      refine wpAnyH_take (i := 10) (oi := _) (v := undef) (op_at rfl rfl) (by kernel_rfl) (by kernel_rfl) (by kernel_rfl) (fun _ _ _ h => h) (Or.inr ⟨by kernel_rfl, rfl⟩) hHeld ?_
      try simp only [Act.put, List.setIfInBounds_toArray, List.set_cons_zero, List.set_cons_succ]
      refine wpAnyH_take (i := 11) (oi := _) (v := undef) (op_at rfl rfl) (by kernel_rfl) (by kernel_rfl) (by kernel_rfl) (fun _ _ _ h => h) (Or.inr ⟨by kernel_rfl, rfl⟩) hHeld ?_
      try simp only [Act.put, List.setIfInBounds_toArray, List.set_cons_zero, List.set_cons_succ]
      refine wpAnyH_take (i := 12) (oi := _) (v := undef) (op_at rfl rfl) (by kernel_rfl) (by kernel_rfl) (by kernel_rfl) (fun _ _ _ h => h) (Or.inr ⟨by kernel_rfl, rfl⟩) hHeld ?_
      try simp only [Act.put, List.setIfInBounds_toArray, List.set_cons_zero, List.set_cons_succ]
      refine wpAnyH_take (i := 13) (oi := _) (v := undef) (op_at rfl rfl) (by kernel_rfl) (by kernel_rfl) (by kernel_rfl) (fun _ _ _ h => h) (Or.inr ⟨by kernel_rfl, rfl⟩) hHeld ?_
      try simp only [Act.put, List.setIfInBounds_toArray, List.set_cons_zero, List.set_cons_succ]
      refine wpAnyH_take (i := 14) (oi := _) (v := undef) (op_at rfl rfl) (by kernel_rfl) (by kernel_rfl) (by kernel_rfl) (fun _ _ _ h => h) (Or.inr ⟨by kernel_rfl, rfl⟩) hHeld ?_
      try simp only [Act.put, List.setIfInBounds_toArray, List.set_cons_zero, List.set_cons_succ]
      refine wpAnyH_take (i := 15) (oi := _) (v := undef) (op_at rfl rfl) (by kernel_rfl) (by kernel_rfl) (by kernel_rfl) (fun _ _ _ h => h) (Or.inr ⟨by kernel_rfl, rfl⟩) hHeld ?_
      try simp only [Act.put, List.setIfInBounds_toArray, List.set_cons_zero, List.set_cons_succ]
      refine wpAnyH_take (i := 16) (oi := _) (v := undef) (op_at rfl rfl) (by kernel_rfl) (by kernel_rfl) (by kernel_rfl) (fun _ _ _ h => h) (Or.inr ⟨by kernel_rfl, rfl⟩) hHeld ?_
      try simp only [Act.put, List.setIfInBounds_toArray, List.set_cons_zero, List.set_cons_succ]
      refine wpAnyH_take (i := 17) (oi := _) (v := undef) (op_at rfl rfl) (by kernel_rfl) (by kernel_rfl) (by kernel_rfl) (fun _ _ _ h => h) (Or.inr ⟨by kernel_rfl, rfl⟩) hHeld ?_
      try simp only [Act.put, List.setIfInBounds_toArray, List.set_cons_zero, List.set_cons_succ]
      refine wpAnyH_take (i := 18) (oi := _) (v := ?_) (op_at rfl rfl) (by kernel_rfl) (by kernel_rfl) (by kernel_rfl) (fun _ _ _ h => h) (Or.inl ⟨by kernel_rfl, ?_⟩) hHeld ?_
      rotate_left
      · (intro w hSw; (try dsimp only at hSw); go_simp) <;> with_reducible rfl
      try simp only [Act.put, List.setIfInBounds_toArray, List.set_cons_zero, List.set_cons_succ]
      refine wpAnyH_done (by kernel_rfl) ?_ _
      all_goals
        go_wp2_with fail
        have hXw := HX.out; have hb := unhide HBQ
        have hbr := unhide HBR
        go_ret2
        exact ⟨false, true, rfl, hzf.out.symm, (hb.trans (Below.mono (show Below X wq _ from (by repeat (first | with_reducible exact Below.refl _ _ | with_reducible assumption | (with_reducible refine Below.trans ?_ (Below.mono (by assumption) (by first | omega | (simp <;> omega)))) | with_reducible apply Below.drew | with_reducible apply below_drewN | (with_reducible refine Below.alloc ?_ (by first | omega | (simp <;> omega)) _) | (with_reducible refine Below.setCell ?_ (by first | omega | (simp <;> omega)) _)))) (by omega)))⟩
    · have d1 : decide (K1 < 0) = false := decide_eq_false hA
      by_cases hB : K2 < 0
      · have d2 : decide (K2 < 0) = true := decide_eq_true hB
        have hzf := Lib.hid ((unhide HNO) (by rw [HHQ.out, decide_eq_false (p := ¬ K2 < 0) (by omega), Bool.and_false]))
        go_upto_region 4 with fail
        refine wp_region_held_drew (S := (fun w' => (w'.cell? ⟨X, 0, none⟩ = some (.int .i64 y1) ∧ w'.cell? ⟨X, 1, none⟩ = some (.int .i64 y2)) ∧ (w'.cell? ⟨g, k * 4, none⟩ = some (.int .i64 p1) ∧ w'.cell? ⟨g, k * 4 + 1, none⟩ = some (.int .i64 p2)) ∧ (w'.cell? ⟨g, (k + 1) * 4, none⟩ = some (.int .i64 q1) ∧ w'.cell? ⟨g, (k + 1) * 4 + 1, none⟩ = some (.int .i64 q2)))) (by kernel_rfl) ?_ (fun hHeld => ?_)
        · ((try dsimp only); simp [go_sem, *])
        refine wpAnyH_take (i := 0) (oi := _) (v := ?_) (op_at rfl rfl) (by kernel_rfl) (by kernel_rfl) (by kernel_rfl) (fun _ _ _ h => h) (Or.inl ⟨by kernel_rfl, ?_⟩) hHeld ?_
        rotate_left
        · (intro w hSw; (try dsimp only at hSw); go_simp) <;> with_reducible rfl
        try simp only [Act.put, List.setIfInBounds_toArray, List.set_cons_zero, List.set_cons_succ]
        refine wpAnyH_take (i := 1) (oi := _) (v := ?_) (op_at rfl rfl) (by kernel_rfl) (by kernel_rfl) (by kernel_rfl) (fun _ _ _ h => h) (Or.inl ⟨by kernel_rfl, ?_⟩) hHeld ?_
        rotate_left
        · (intro w hSw; (try dsimp only at hSw); go_simp) <;> with_reducible rfl
        try simp only [Act.put, List.setIfInBounds_toArray, List.set_cons_zero, List.set_cons_succ]
        refine wpAnyH_take (i := 2) (oi := _) (v := ?_) (op_at rfl rfl) (by kernel_rfl) (by kernel_rfl) (by kernel_rfl) (fun _ _ _ h => h) (Or.inl ⟨by kernel_rfl, ?_⟩) hHeld ?_
        rotate_left
        · (intro w hSw; (try dsimp only at hSw); go_simp) <;> with_reducible rfl
        try simp only [Act.put, List.setIfInBounds_toArray, List.set_cons_zero, List.set_cons_succ]
        refine wpAnyH_take (i := 3) (oi := _) (v := ?_) (op_at rfl rfl) (by kernel_rfl) (by kernel_rfl) (by kernel_rfl) (fun _ _ _ h => h) (Or.inl ⟨by kernel_rfl, ?_⟩) hHeld ?_
        rotate_left
        · (intro w hSw; (try dsimp only at hSw); go_simp) <;> with_reducible rfl
        try simp only [Act.put, List.setIfInBounds_toArray, List.set_cons_zero, List.set_cons_succ]
        refine wpAnyH_take (i := 4) (oi := _) (v := ?_) (op_at rfl rfl) (by kernel_rfl) (by kernel_rfl) (by kernel_rfl) (fun _ _ _ h => h) (Or.inl ⟨by kernel_rfl, ?_⟩) hHeld ?_
        rotate_left
        · (intro w hSw; (try dsimp only at hSw); go_simp) <;> with_reducible rfl
        try simp only [Act.put, List.setIfInBounds_toArray, List.set_cons_zero, List.set_cons_succ]
        refine wpAnyH_take (i := 5) (oi := _) (v := ?_) (op_at rfl rfl) (by kernel_rfl) (by kernel_rfl) (by kernel_rfl) (fun _ _ _ h => h) (Or.inl ⟨by kernel_rfl, ?_⟩) hHeld ?_
        rotate_left
        · (intro w hSw; (try dsimp only at hSw); go_simp) <;> with_reducible rfl
        try simp only [Act.put, List.setIfInBounds_toArray, List.set_cons_zero, List.set_cons_succ]
        refine wpAnyH_ready (rs := [6]) (by kernel_rfl) (by simp) ?_
        refine AllReadyH.cons (o := _) (op_at rfl rfl) (fun K hK => ?_) AllReadyH.nil
        go_simp
        (first | (go_at_call 99; (with_reducible refine ((unhide H1) _).mono ?_); rintro e w5 ⟨rfl, hbw5⟩; obtain ⟨hcw5, hfw5⟩ := bcell hbw5; have hzw5 := hbw5.size; (try simp at hzw5); (try ((have kw5XX0 := (bnew hbw5) (X) ?pf); (case pf => (first | omega | (simp; done) | (simp; omega))); obtain ⟨kcw5XX0, kfw5XX0, klw5XX0⟩ := kw5XX0)); (try ((have kw5gX0 := (bnew hbw5) (g) ?pf); (case pf => (first | omega | (simp; done) | (simp; omega))); obtain ⟨kcw5gX0, kfw5gX0, klw5gX0⟩ := kw5gX0))) | (go_at_call 99; (with_reducible refine ((unhide H2) _).mono ?_); rintro e w6 ⟨rfl, hbw6⟩; obtain ⟨hcw6, hfw6⟩ := bcell hbw6; have hzw6 := hbw6.size; (try simp at hzw6); (try ((have kw6XX0 := (bnew hbw6) (X) ?pf); (case pf => (first | omega | (simp; done) | (simp; omega))); obtain ⟨kcw6XX0, kfw6XX0, klw6XX0⟩ := kw6XX0)); (try ((have kw6gX0 := (bnew hbw6) (g) ?pf); (case pf => (first | omega | (simp; done) | (simp; omega))); obtain ⟨kcw6gX0, kfw6gX0, klw6gX0⟩ := kw6gX0))))
        go_wp2_with fail
        refine hK.out _ _ ?_ (fun hHeld => ?_)
        · ((try dsimp only); simp [go_sem, *])
        clear hK K
        try simp only [Act.put, List.setIfInBounds_toArray, List.set_cons_zero, List.set_cons_succ]
        refine wpAnyH_take (i := 7) (oi := _) (v := ?_) (op_at rfl rfl) (by kernel_rfl) (by kernel_rfl) (by kernel_rfl) (fun _ _ _ h => h) (Or.inl ⟨by kernel_rfl, ?_⟩) hHeld ?_
        rotate_left
        · (intro w hSw; (try dsimp only at hSw); go_simp) <;> with_reducible rfl
        try simp only [Act.put, List.setIfInBounds_toArray, List.set_cons_zero, List.set_cons_succ]
        refine wpAnyH_take (i := 8) (oi := _) (v := ?_) (op_at rfl rfl) (by kernel_rfl) (by kernel_rfl) (by kernel_rfl) (fun _ _ _ h => h) (Or.inl ⟨by kernel_rfl, ?_⟩) hHeld ?_
        rotate_left
        · (intro w hSw; (try dsimp only at hSw); go_simp) <;> with_reducible rfl
        try simp only [Act.put, List.setIfInBounds_toArray, List.set_cons_zero, List.set_cons_succ]
        refine wpAnyH_take (i := 9) (oi := _) (v := ?_) (op_at rfl rfl) (by kernel_rfl) (by kernel_rfl) (by kernel_rfl) (fun _ _ _ h => h) (Or.inl ⟨by kernel_rfl, ?_⟩) hHeld ?_
        rotate_left
        · (intro w hSw; (try dsimp only at hSw); go_simp) <;> with_reducible rfl
        try simp only [Act.put, List.setIfInBounds_toArray, List.set_cons_zero, List.set_cons_succ]
        refine wpAnyH_take (i := 10) (oi := _) (v := ?_) (op_at rfl rfl) (by kernel_rfl) (by kernel_rfl) (by kernel_rfl) (fun _ _ _ h => h) (Or.inl ⟨by kernel_rfl, ?_⟩) hHeld ?_
        rotate_left
        · (intro w hSw; (try dsimp only at hSw); go_simp) <;> with_reducible rfl
        try simp only [Act.put, List.setIfInBounds_toArray, List.set_cons_zero, List.set_cons_succ]
        refine wpAnyH_take (i := 11) (oi := _) (v := ?_) (op_at rfl rfl) (by kernel_rfl) (by kernel_rfl) (by kernel_rfl) (fun _ _ _ h => h) (Or.inl ⟨by kernel_rfl, ?_⟩) hHeld ?_
        rotate_left
        · (intro w hSw; (try dsimp only at hSw); go_simp) <;> with_reducible rfl
        try simp only [Act.put, List.setIfInBounds_toArray, List.set_cons_zero, List.set_cons_succ]
        refine wpAnyH_take (i := 12) (oi := _) (v := ?_) (op_at rfl rfl) (by kernel_rfl) (by kernel_rfl) (by kernel_rfl) (fun _ _ _ h => h) (Or.inl ⟨by kernel_rfl, ?_⟩) hHeld ?_
        rotate_left
        · (intro w hSw; (try dsimp only at hSw); go_simp) <;> with_reducible rfl
        try simp only [Act.put, List.setIfInBounds_toArray, List.set_cons_zero, List.set_cons_succ]
        refine wpAnyH_take (i := 13) (oi := _) (v := ?_) (op_at rfl rfl) (by kernel_rfl) (by kernel_rfl) (by kernel_rfl) (fun _ _ _ h => h) (Or.inl ⟨by kernel_rfl, ?_⟩) hHeld ?_
        rotate_left
        · (intro w hSw; (try dsimp only at hSw); go_simp) <;> with_reducible rfl
        try simp only [Act.put, List.setIfInBounds_toArray, List.set_cons_zero, List.set_cons_succ]
        refine wpAnyH_take (i := 14) (oi := _) (v := ?_) (op_at rfl rfl) (by kernel_rfl) (by kernel_rfl) (by kernel_rfl) (fun _ _ _ h => h) (Or.inl ⟨by kernel_rfl, ?_⟩) hHeld ?_
        rotate_left
        · (intro w hSw; (try dsimp only at hSw); go_simp) <;> with_reducible rfl
        try simp only [Act.put, List.setIfInBounds_toArray, List.set_cons_zero, List.set_cons_succ]
        refine wpAnyH_take (i := 15) (oi := _) (v := ?_) (op_at rfl rfl) (by kernel_rfl) (by kernel_rfl) (by kernel_rfl) (fun _ _ _ h => h) (Or.inl ⟨by kernel_rfl, ?_⟩) hHeld ?_
        rotate_left
        · (intro w hSw; (try dsimp only at hSw); go_simp) <;> with_reducible rfl
        try simp only [Act.put, List.setIfInBounds_toArray, List.set_cons_zero, List.set_cons_succ]
        refine wpAnyH_ready (rs := [16]) (by kernel_rfl) (by simp) ?_
        refine AllReadyH.cons (o := _) (op_at rfl rfl) (fun K hK => ?_) AllReadyH.nil
        go_simp
        (first | (go_at_call 99; (with_reducible refine ((unhide H1) _).mono ?_); rintro e w5 ⟨rfl, hbw5⟩; obtain ⟨hcw5, hfw5⟩ := bcell hbw5; have hzw5 := hbw5.size; (try simp at hzw5); (try ((have kw5XX0 := (bnew hbw5) (X) ?pf); (case pf => (first | omega | (simp; done) | (simp; omega))); obtain ⟨kcw5XX0, kfw5XX0, klw5XX0⟩ := kw5XX0)); (try ((have kw5gX0 := (bnew hbw5) (g) ?pf); (case pf => (first | omega | (simp; done) | (simp; omega))); obtain ⟨kcw5gX0, kfw5gX0, klw5gX0⟩ := kw5gX0))) | (go_at_call 99; (with_reducible refine ((unhide H2) _).mono ?_); rintro e w6 ⟨rfl, hbw6⟩; obtain ⟨hcw6, hfw6⟩ := bcell hbw6; have hzw6 := hbw6.size; (try simp at hzw6); (try ((have kw6XX0 := (bnew hbw6) (X) ?pf); (case pf => (first | omega | (simp; done) | (simp; omega))); obtain ⟨kcw6XX0, kfw6XX0, klw6XX0⟩ := kw6XX0)); (try ((have kw6gX0 := (bnew hbw6) (g) ?pf); (case pf => (first | omega | (simp; done) | (simp; omega))); obtain ⟨kcw6gX0, kfw6gX0, klw6gX0⟩ := kw6gX0))))
        go_wp2_with fail
        refine hK.out _ _ ?_ (fun hHeld => ?_)
        · ((try dsimp only); simp [go_sem, *])
        clear hK K
        try simp only [Act.put, List.setIfInBounds_toArray, List.set_cons_zero, List.set_cons_succ]
        refine wpAnyH_take (i := 17) (oi := _) (v := ?_) (op_at rfl rfl) (by kernel_rfl) (by kernel_rfl) (by kernel_rfl) (fun _ _ _ h => h) (Or.inl ⟨by kernel_rfl, ?_⟩) hHeld ?_
        rotate_left
        · (intro w hSw; (try dsimp only at hSw); go_simp) <;> with_reducible rfl
        try simp only [Act.put, List.setIfInBounds_toArray, List.set_cons_zero, List.set_cons_succ]
        refine wpAnyH_take (i := 18) (oi := _) (v := ?_) (op_at rfl rfl) (by kernel_rfl) (by kernel_rfl) (by kernel_rfl) (fun _ _ _ h => h) (Or.inl ⟨by kernel_rfl, ?_⟩) hHeld ?_
        rotate_left
        · (intro w hSw; (try dsimp only at hSw); go_simp) <;> with_reducible rfl
        try simp only [Act.put, List.setIfInBounds_toArray, List.set_cons_zero, List.set_cons_succ]
        refine wpAnyH_done (by kernel_rfl) ?_ _
        all_goals
          go_wp2_with fail
          have hXw := HX.out; have hb := unhide HBQ
          have hbr := unhide HBR
          go_ret2
          exact ⟨false, true, rfl, hzf.out.symm, (hb.trans (Below.mono (show Below X wq _ from (by repeat (first | with_reducible exact Below.refl _ _ | with_reducible assumption | (with_reducible refine Below.trans ?_ (Below.mono (by assumption) (by first | omega | (simp <;> omega)))) | with_reducible apply Below.drew | with_reducible apply below_drewN | (with_reducible refine Below.alloc ?_ (by first | omega | (simp <;> omega)) _) | (with_reducible refine Below.setCell ?_ (by first | omega | (simp <;> omega)) _)))) (by omega)))⟩
      · have d2 : decide (K2 < 0) = false := decide_eq_false hB
        have hht : hh = true := by rw [HHQ.out, decide_eq_true hA, decide_eq_true hB]; rfl
        by_cases hlast : j + 1 = m
        · have hzt := Lib.hid ((unhide HEND) hlast hht)
          have e5 : ((j : Int) == (m : Int) - 1) = true := by rw [beq_iff_eq]; omega
          have e6 : decide ((j : Int) = (m : Int) - 1) = true := decide_eq_true (by omega)
          go_upto_region 4 with fail
          refine wp_region_held_drew (S := (fun w' => (w'.cell? ⟨X, 0, none⟩ = some (.int .i64 y1) ∧ w'.cell? ⟨X, 1, none⟩ = some (.int .i64 y2)) ∧ (w'.cell? ⟨g, k * 4, none⟩ = some (.int .i64 p1) ∧ w'.cell? ⟨g, k * 4 + 1, none⟩ = some (.int .i64 p2)) ∧ (w'.cell? ⟨g, (k + 1) * 4, none⟩ = some (.int .i64 q1) ∧ w'.cell? ⟨g, (k + 1) * 4 + 1, none⟩ = some (.int .i64 q2)))) (by kernel_rfl) ?_ (fun hHeld => ?_)
          · ((try dsimp only); simp [go_sem, *])
          refine wpAnyH_take (i := 0) (oi := _) (v := ?_) (op_at rfl rfl) (by kernel_rfl) (by kernel_rfl) (by kernel_rfl) (fun _ _ _ h => h) (Or.inl ⟨by kernel_rfl, ?_⟩) hHeld ?_
          rotate_left
          · (intro w hSw; (try dsimp only at hSw); go_simp) <;> with_reducible rfl
          try simp only [Act.put, List.setIfInBounds_toArray, List.set_cons_zero, List.set_cons_succ]
          refine wpAnyH_take (i := 1) (oi := _) (v := ?_) (op_at rfl rfl) (by kernel_rfl) (by kernel_rfl) (by kernel_rfl) (fun _ _ _ h => h) (Or.inl ⟨by kernel_rfl, ?_⟩) hHeld ?_
          rotate_left
          · (intro w hSw; (try dsimp only at hSw); go_simp) <;> with_reducible rfl
          try simp only [Act.put, List.setIfInBounds_toArray, List.set_cons_zero, List.set_cons_succ]
          refine wpAnyH_take (i := 2) (oi := _) (v := ?_) (op_at rfl rfl) (by kernel_rfl) (by kernel_rfl) (by kernel_rfl) (fun _ _ _ h => h) (Or.inl ⟨by kernel_rfl, ?_⟩) hHeld ?_
          rotate_left
          · (intro w hSw; (try dsimp only at hSw); go_simp) <;> with_reducible rfl
          try simp only [Act.put, List.setIfInBounds_toArray, List.set_cons_zero, List.set_cons_succ]
          refine wpAnyH_take (i := 3) (oi := _) (v := ?_) (op_at rfl rfl) (by kernel_rfl) (by kernel_rfl) (by kernel_rfl) (fun _ _ _ h => h) (Or.inl ⟨by kernel_rfl, ?_⟩) hHeld ?_
          rotate_left
          · (intro w hSw; (try dsimp only at hSw); go_simp) <;> with_reducible rfl
          try simp only [Act.put, List.setIfInBounds_toArray, List.set_cons_zero, List.set_cons_succ]
          refine wpAnyH_take (i := 4) (oi := _) (v := ?_) (op_at rfl rfl) (by kernel_rfl) (by kernel_rfl) (by kernel_rfl) (fun _ _ _ h => h) (Or.inl ⟨by kernel_rfl, ?_⟩) hHeld ?_
          rotate_left
          · (intro w hSw; (try dsimp only at hSw); go_simp) <;> with_reducible rfl
          try simp only [Act.put, List.setIfInBounds_toArray, List.set_cons_zero, List.set_cons_succ]
          refine wpAnyH_take (i := 5) (oi := _) (v := ?_) (op_at rfl rfl) (by kernel_rfl) (by kernel_rfl) (by kernel_rfl) (fun _ _ _ h => h) (Or.inl ⟨by kernel_rfl, ?_⟩) hHeld ?_
          rotate_left
          · (intro w hSw; (try dsimp only at hSw); go_simp) <;> with_reducible rfl
          try simp only [Act.put, List.setIfInBounds_toArray, List.set_cons_zero, List.set_cons_succ]
          refine wpAnyH_ready (rs := [6]) (by kernel_rfl) (by simp) ?_
          refine AllReadyH.cons (o := _) (op_at rfl rfl) (fun K hK => ?_) AllReadyH.nil
          go_simp
          (first | (go_at_call 99; (with_reducible refine ((unhide H1) _).mono ?_); rintro e w5 ⟨rfl, hbw5⟩; obtain ⟨hcw5, hfw5⟩ := bcell hbw5; have hzw5 := hbw5.size; (try simp at hzw5); (try ((have kw5XX0 := (bnew hbw5) (X) ?pf); (case pf => (first | omega | (simp; done) | (simp; omega))); obtain ⟨kcw5XX0, kfw5XX0, klw5XX0⟩ := kw5XX0)); (try ((have kw5gX0 := (bnew hbw5) (g) ?pf); (case pf => (first | omega | (simp; done) | (simp; omega))); obtain ⟨kcw5gX0, kfw5gX0, klw5gX0⟩ := kw5gX0))) | (go_at_call 99; (with_reducible refine ((unhide H2) _).mono ?_); rintro e w6 ⟨rfl, hbw6⟩; obtain ⟨hcw6, hfw6⟩ := bcell hbw6; have hzw6 := hbw6.size; (try simp at hzw6); (try ((have kw6XX0 := (bnew hbw6) (X) ?pf); (case pf => (first | omega | (simp; done) | (simp; omega))); obtain ⟨kcw6XX0, kfw6XX0, klw6XX0⟩ := kw6XX0)); (try ((have kw6gX0 := (bnew hbw6) (g) ?pf); (case pf => (first | omega | (simp; done) | (simp; omega))); obtain ⟨kcw6gX0, kfw6gX0, klw6gX0⟩ := kw6gX0))))
          go_wp2_with fail
          refine hK.out _ _ ?_ (fun hHeld => ?_)
          · ((try dsimp only); simp [go_sem, *])
          clear hK K
          try simp only [Act.put, List.setIfInBounds_toArray, List.set_cons_zero, List.set_cons_succ]
          refine wpAnyH_take (i := 7) (oi := _) (v := ?_) (op_at rfl rfl) (by kernel_rfl) (by kernel_rfl) (by kernel_rfl) (fun _ _ _ h => h) (Or.inl ⟨by kernel_rfl, ?_⟩) hHeld ?_
          rotate_left
          · (intro w hSw; (try dsimp only at hSw); go_simp) <;> with_reducible rfl
          try simp only [Act.put, List.setIfInBounds_toArray, List.set_cons_zero, List.set_cons_succ]
          refine wpAnyH_take (i := 8) (oi := _) (v := ?_) (op_at rfl rfl) (by kernel_rfl) (by kernel_rfl) (by kernel_rfl) (fun _ _ _ h => h) (Or.inl ⟨by kernel_rfl, ?_⟩) hHeld ?_
          rotate_left
          · (intro w hSw; (try dsimp only at hSw); go_simp) <;> with_reducible rfl
          try simp only [Act.put, List.setIfInBounds_toArray, List.set_cons_zero, List.set_cons_succ]
          refine wpAnyH_take (i := 9) (oi := _) (v := ?_) (op_at rfl rfl) (by kernel_rfl) (by kernel_rfl) (by kernel_rfl) (fun _ _ _ h => h) (Or.inl ⟨by kernel_rfl, ?_⟩) hHeld ?_
          rotate_left
          · (intro w hSw; (try dsimp only at hSw); go_simp) <;> with_reducible rfl
          try simp only [Act.put, List.setIfInBounds_toArray, List.set_cons_zero, List.set_cons_succ]
          refine wpAnyH_take (i := 10) (oi := _) (v := ?_) (op_at rfl rfl) (by kernel_rfl) (by kernel_rfl) (by kernel_rfl) (fun _ _ _ h => h) (Or.inl ⟨by kernel_rfl, ?_⟩) hHeld ?_
          rotate_left
          · (intro w hSw; (try dsimp only at hSw); go_simp) <;> with_reducible rfl
          try simp only [Act.put, List.setIfInBounds_toArray, List.set_cons_zero, List.set_cons_succ]
          refine wpAnyH_take (i := 11) (oi := _) (v := ?_) (op_at rfl rfl) (by kernel_rfl) (by kernel_rfl) (by kernel_rfl) (fun _ _ _ h => h) (Or.inl ⟨by kernel_rfl, ?_⟩) hHeld ?_
          rotate_left
          · (intro w hSw; (try dsimp only at hSw); go_simp) <;> with_reducible rfl
          try simp only [Act.put, List.setIfInBounds_toArray, List.set_cons_zero, List.set_cons_succ]
          refine wpAnyH_take (i := 12) (oi := _) (v := ?_) (op_at rfl rfl) (by kernel_rfl) (by kernel_rfl) (by kernel_rfl) (fun _ _ _ h => h) (Or.inl ⟨by kernel_rfl, ?_⟩) hHeld ?_
          rotate_left
          · (intro w hSw; (try dsimp only at hSw); go_simp) <;> with_reducible rfl
          try simp only [Act.put, List.setIfInBounds_toArray, List.set_cons_zero, List.set_cons_succ]
          refine wpAnyH_take (i := 13) (oi := _) (v := ?_) (op_at rfl rfl) (by kernel_rfl) (by kernel_rfl) (by kernel_rfl) (fun _ _ _ h => h) (Or.inl ⟨by kernel_rfl, ?_⟩) hHeld ?_
          rotate_left
          · (intro w hSw; (try dsimp only at hSw); go_simp) <;> with_reducible rfl
          try simp only [Act.put, List.setIfInBounds_toArray, List.set_cons_zero, List.set_cons_succ]
          refine wpAnyH_take (i := 14) (oi := _) (v := ?_) (op_at rfl rfl) (by kernel_rfl) (by kernel_rfl) (by kernel_rfl) (fun _ _ _ h => h) (Or.inl ⟨by kernel_rfl, ?_⟩) hHeld ?_
          rotate_left
          · (intro w hSw; (try dsimp only at hSw); go_simp) <;> with_reducible rfl
          try simp only [Act.put, List.setIfInBounds_toArray, List.set_cons_zero, List.set_cons_succ]
          refine wpAnyH_take (i := 15) (oi := _) (v := ?_) (op_at rfl rfl) (by kernel_rfl) (by kernel_rfl) (by kernel_rfl) (fun _ _ _ h => h) (Or.inl ⟨by kernel_rfl, ?_⟩) hHeld ?_
          rotate_left
          · (intro w hSw; (try dsimp only at hSw); go_simp) <;> with_reducible rfl
          try simp only [Act.put, List.setIfInBounds_toArray, List.set_cons_zero, List.set_cons_succ]
          refine wpAnyH_ready (rs := [16]) (by kernel_rfl) (by simp) ?_
          refine AllReadyH.cons (o := _) (op_at rfl rfl) (fun K hK => ?_) AllReadyH.nil
          go_simp
          (first | (go_at_call 99; (with_reducible refine ((unhide H1) _).mono ?_); rintro e w5 ⟨rfl, hbw5⟩; obtain ⟨hcw5, hfw5⟩ := bcell hbw5; have hzw5 := hbw5.size; (try simp at hzw5); (try ((have kw5XX0 := (bnew hbw5) (X) ?pf); (case pf => (first | omega | (simp; done) | (simp; omega))); obtain ⟨kcw5XX0, kfw5XX0, klw5XX0⟩ := kw5XX0)); (try ((have kw5gX0 := (bnew hbw5) (g) ?pf); (case pf => (first | omega | (simp; done) | (simp; omega))); obtain ⟨kcw5gX0, kfw5gX0, klw5gX0⟩ := kw5gX0))) | (go_at_call 99; (with_reducible refine ((unhide H2) _).mono ?_); rintro e w6 ⟨rfl, hbw6⟩; obtain ⟨hcw6, hfw6⟩ := bcell hbw6; have hzw6 := hbw6.size; (try simp at hzw6); (try ((have kw6XX0 := (bnew hbw6) (X) ?pf); (case pf => (first | omega | (simp; done) | (simp; omega))); obtain ⟨kcw6XX0, kfw6XX0, klw6XX0⟩ := kw6XX0)); (try ((have kw6gX0 := (bnew hbw6) (g) ?pf); (case pf => (first | omega | (simp; done) | (simp; omega))); obtain ⟨kcw6gX0, kfw6gX0, klw6gX0⟩ := kw6gX0))))
          go_wp2_with fail
          refine hK.out _ _ ?_ (fun hHeld => ?_)
          · ((try dsimp only); simp [go_sem, *])
          clear hK K
          try simp only [Act.put, List.setIfInBounds_toArray, List.set_cons_zero, List.set_cons_succ]
          refine wpAnyH_take (i := 17) (oi := _) (v := ?_) (op_at rfl rfl) (by kernel_rfl) (by kernel_rfl) (by kernel_rfl) (fun _ _ _ h => h) (Or.inl ⟨by kernel_rfl, ?_⟩) hHeld ?_
          rotate_left
          · (intro w hSw; (try dsimp only at hSw); go_simp) <;> with_reducible rfl
          try simp only [Act.put, List.setIfInBounds_toArray, List.set_cons_zero, List.set_cons_succ]
          refine wpAnyH_take (i := 18) (oi := _) (v := ?_) (op_at rfl rfl) (by kernel_rfl) (by kernel_rfl) (by kernel_rfl) (fun _ _ _ h => h) (Or.inl ⟨by kernel_rfl, ?_⟩) hHeld ?_
          rotate_left
          · (intro w hSw; (try dsimp only at hSw); go_simp) <;> with_reducible rfl
          try simp only [Act.put, List.setIfInBounds_toArray, List.set_cons_zero, List.set_cons_succ]
          refine wpAnyH_done (by kernel_rfl) ?_ _
          all_goals
            go_wp2_with fail
            have hXw := HX.out; have hb := unhide HBQ
            have hbr := unhide HBR
            go_ret2
            exact ⟨true, true, rfl, hzt.out.symm, (hb.trans (Below.mono (show Below X wq _ from (by repeat (first | with_reducible exact Below.refl _ _ | with_reducible assumption | (with_reducible refine Below.trans ?_ (Below.mono (by assumption) (by first | omega | (simp <;> omega)))) | with_reducible apply Below.drew | with_reducible apply below_drewN | (with_reducible refine Below.alloc ?_ (by first | omega | (simp <;> omega)) _) | (with_reducible refine Below.setCell ?_ (by first | omega | (simp <;> omega)) _)))) (by omega)))⟩
        · have e5 : ((j : Int) == (m : Int) - 1) = false := by rw [beq_eq_false_iff_ne]; omega
          have e6 : decide ((j : Int) = (m : Int) - 1) = false := decide_eq_false (by omega)
          have e7 : ¬ (j : Int) = (m : Int) - 1 := by omega
          rcases hv : vAt qs cur with _ | y
          · have hzf := Lib.hid ((unhide HFAR) hlast hv)
            rw [hv] at H3
            simp only [oN_none, oD_none, Option.isSome_none] at H3
            go_upto_region 4 with fail
            refine wp_region_held_drew (S := (fun w' => (w'.cell? ⟨X, 0, none⟩ = some (.int .i64 y1) ∧ w'.cell? ⟨X, 1, none⟩ = some (.int .i64 y2)) ∧ (w'.cell? ⟨g, k * 4, none⟩ = some (.int .i64 p1) ∧ w'.cell? ⟨g, k * 4 + 1, none⟩ = some (.int .i64 p2)) ∧ (w'.cell? ⟨g, (k + 1) * 4, none⟩ = some (.int .i64 q1) ∧ w'.cell? ⟨g, (k + 1) * 4 + 1, none⟩ = some (.int .i64 q2)))) (by kernel_rfl) ?_ (fun hHeld => ?_)
            · ((try dsimp only); simp [go_sem, *])
            refine wpAnyH_take (i := 0) (oi := _) (v := ?_) (op_at rfl rfl) (by kernel_rfl) (by kernel_rfl) (by kernel_rfl) (fun _ _ _ h => h) (Or.inl ⟨by kernel_rfl, ?_⟩) hHeld ?_
            rotate_left
            · (intro w hSw; (try dsimp only at hSw); go_simp) <;> with_reducible rfl
            try simp only [Act.put, List.setIfInBounds_toArray, List.set_cons_zero, List.set_cons_succ]
            refine wpAnyH_take (i := 1) (oi := _) (v := ?_) (op_at rfl rfl) (by kernel_rfl) (by kernel_rfl) (by kernel_rfl) (fun _ _ _ h => h) (Or.inl ⟨by kernel_rfl, ?_⟩) hHeld ?_
            rotate_left
            · (intro w hSw; (try dsimp only at hSw); go_simp) <;> with_reducible rfl
            try simp only [Act.put, List.setIfInBounds_toArray, List.set_cons_zero, List.set_cons_succ]
            refine wpAnyH_take (i := 2) (oi := _) (v := ?_) (op_at rfl rfl) (by kernel_rfl) (by kernel_rfl) (by kernel_rfl) (fun _ _ _ h => h) (Or.inl ⟨by kernel_rfl, ?_⟩) hHeld ?_
            rotate_left
            · (intro w hSw; (try dsimp only at hSw); go_simp) <;> with_reducible rfl
            try simp only [Act.put, List.setIfInBounds_toArray, List.set_cons_zero, List.set_cons_succ]
            refine wpAnyH_take (i := 3) (oi := _) (v := ?_) (op_at rfl rfl) (by kernel_rfl) (by kernel_rfl) (by kernel_rfl) (fun _ _ _ h => h) (Or.inl ⟨by kernel_rfl, ?_⟩) hHeld ?_
            rotate_left
            · (intro w hSw; (try dsimp only at hSw); go_simp) <;> with_reducible rfl
            try simp only [Act.put, List.setIfInBounds_toArray, List.set_cons_zero, List.set_cons_succ]
            refine wpAnyH_take (i := 4) (oi := _) (v := ?_) (op_at rfl rfl) (by kernel_rfl) (by kernel_rfl) (by kernel_rfl) (fun _ _ _ h => h) (Or.inl ⟨by kernel_rfl, ?_⟩) hHeld ?_
            rotate_left
            · (intro w hSw; (try dsimp only at hSw); go_simp) <;> with_reducible rfl
            try simp only [Act.put, List.setIfInBounds_toArray, List.set_cons_zero, List.set_cons_succ]
            refine wpAnyH_take (i := 5) (oi := _) (v := ?_) (op_at rfl rfl) (by kernel_rfl) (by kernel_rfl) (by kernel_rfl) (fun _ _ _ h => h) (Or.inl ⟨by kernel_rfl, ?_⟩) hHeld ?_
            rotate_left
            · (intro w hSw; (try dsimp only at hSw); go_simp) <;> with_reducible rfl
            try simp only [Act.put, List.setIfInBounds_toArray, List.set_cons_zero, List.set_cons_succ]
            refine wpAnyH_ready (rs := [6]) (by kernel_rfl) (by simp) ?_
            refine AllReadyH.cons (o := _) (op_at rfl rfl) (fun K hK => ?_) AllReadyH.nil
            go_simp
            (first | (go_at_call 99; (with_reducible refine ((unhide H1) _).mono ?_); rintro e w5 ⟨rfl, hbw5⟩; obtain ⟨hcw5, hfw5⟩ := bcell hbw5; have hzw5 := hbw5.size; (try simp at hzw5); (try ((have kw5XX0 := (bnew hbw5) (X) ?pf); (case pf => (first | omega | (simp; done) | (simp; omega))); obtain ⟨kcw5XX0, kfw5XX0, klw5XX0⟩ := kw5XX0)); (try ((have kw5gX0 := (bnew hbw5) (g) ?pf); (case pf => (first | omega | (simp; done) | (simp; omega))); obtain ⟨kcw5gX0, kfw5gX0, klw5gX0⟩ := kw5gX0))) | (go_at_call 99; (with_reducible refine ((unhide H2) _).mono ?_); rintro e w6 ⟨rfl, hbw6⟩; obtain ⟨hcw6, hfw6⟩ := bcell hbw6; have hzw6 := hbw6.size; (try simp at hzw6); (try ((have kw6XX0 := (bnew hbw6) (X) ?pf); (case pf => (first | omega | (simp; done) | (simp; omega))); obtain ⟨kcw6XX0, kfw6XX0, klw6XX0⟩ := kw6XX0)); (try ((have kw6gX0 := (bnew hbw6) (g) ?pf); (case pf => (first | omega | (simp; done) | (simp; omega))); obtain ⟨kcw6gX0, kfw6gX0, klw6gX0⟩ := kw6gX0))))
            go_wp2_with fail
            refine hK.out _ _ ?_ (fun hHeld => ?_)
            · ((try dsimp only); simp [go_sem, *])
            clear hK K
            try simp only [Act.put, List.setIfInBounds_toArray, List.set_cons_zero, List.set_cons_succ]
            refine wpAnyH_take (i := 7) (oi := _) (v := ?_) (op_at rfl rfl) (by kernel_rfl) (by kernel_rfl) (by kernel_rfl) (fun _ _ _ h => h) (Or.inl ⟨by kernel_rfl, ?_⟩) hHeld ?_
            rotate_left
            · (intro w hSw; (try dsimp only at hSw); go_simp) <;> with_reducible rfl
            try simp only [Act.put, List.setIfInBounds_toArray, List.set_cons_zero, List.set_cons_succ]
            refine wpAnyH_take (i := 8) (oi := _) (v := ?_) (op_at rfl rfl) (by kernel_rfl) (by kernel_rfl) (by kernel_rfl) (fun _ _ _ h => h) (Or.inl ⟨by kernel_rfl, ?_⟩) hHeld ?_
            rotate_left
            · (intro w hSw; (try dsimp only at hSw); go_simp) <;> with_reducible rfl
            try simp only [Act.put, List.setIfInBounds_toArray, List.set_cons_zero, List.set_cons_succ]
            refine wpAnyH_take (i := 9) (oi := _) (v := ?_) (op_at rfl rfl) (by kernel_rfl) (by kernel_rfl) (by kernel_rfl) (fun _ _ _ h => h) (Or.inl ⟨by kernel_rfl, ?_⟩) hHeld ?_
            rotate_left
            · (intro w hSw; (try dsimp only at hSw); go_simp) <;> with_reducible rfl
            try simp only [Act.put, List.setIfInBounds_toArray, List.set_cons_zero, List.set_cons_succ]
            refine wpAnyH_take (i := 10) (oi := _) (v := ?_) (op_at rfl rfl) (by kernel_rfl) (by kernel_rfl) (by kernel_rfl) (fun _ _ _ h => h) (Or.inl ⟨by kernel_rfl, ?_⟩) hHeld ?_
            rotate_left
            · (intro w hSw; (try dsimp only at hSw); go_simp) <;> with_reducible rfl
            try simp only [Act.put, List.setIfInBounds_toArray, List.set_cons_zero, List.set_cons_succ]
            refine wpAnyH_take (i := 11) (oi := _) (v := ?_) (op_at rfl rfl) (by kernel_rfl) (by kernel_rfl) (by kernel_rfl) (fun _ _ _ h => h) (Or.inl ⟨by kernel_rfl, ?_⟩) hHeld ?_
            rotate_left
            · (intro w hSw; (try dsimp only at hSw); go_simp) <;> with_reducible rfl
            try simp only [Act.put, List.setIfInBounds_toArray, List.set_cons_zero, List.set_cons_succ]
            refine wpAnyH_take (i := 12) (oi := _) (v := ?_) (op_at rfl rfl) (by kernel_rfl) (by kernel_rfl) (by kernel_rfl) (fun _ _ _ h => h) (Or.inl ⟨by kernel_rfl, ?_⟩) hHeld ?_
            rotate_left
            · (intro w hSw; (try dsimp only at hSw); go_simp) <;> with_reducible rfl
            try simp only [Act.put, List.setIfInBounds_toArray, List.set_cons_zero, List.set_cons_succ]
            refine wpAnyH_take (i := 13) (oi := _) (v := ?_) (op_at rfl rfl) (by kernel_rfl) (by kernel_rfl) (by kernel_rfl) (fun _ _ _ h => h) (Or.inl ⟨by kernel_rfl, ?_⟩) hHeld ?_
            rotate_left
            · (intro w hSw; (try dsimp only at hSw); go_simp) <;> with_reducible rfl
            try simp only [Act.put, List.setIfInBounds_toArray, List.set_cons_zero, List.set_cons_succ]
            refine wpAnyH_take (i := 14) (oi := _) (v := ?_) (op_at rfl rfl) (by kernel_rfl) (by kernel_rfl) (by kernel_rfl) (fun _ _ _ h => h) (Or.inl ⟨by kernel_rfl, ?_⟩) hHeld ?_
            rotate_left
            · (intro w hSw; (try dsimp only at hSw); go_simp) <;> with_reducible rfl
            try simp only [Act.put, List.setIfInBounds_toArray, List.set_cons_zero, List.set_cons_succ]
            refine wpAnyH_take (i := 15) (oi := _) (v := ?_) (op_at rfl rfl) (by kernel_rfl) (by kernel_rfl) (by kernel_rfl) (fun _ _ _ h => h) (Or.inl ⟨by kernel_rfl, ?_⟩) hHeld ?_
            rotate_left
            · (intro w hSw; (try dsimp only at hSw); go_simp) <;> with_reducible rfl
            try simp only [Act.put, List.setIfInBounds_toArray, List.set_cons_zero, List.set_cons_succ]
            refine wpAnyH_ready (rs := [16]) (by kernel_rfl) (by simp) ?_
            refine AllReadyH.cons (o := _) (op_at rfl rfl) (fun K hK => ?_) AllReadyH.nil
            go_simp
            (first | (go_at_call 99; (with_reducible refine ((unhide H1) _).mono ?_); rintro e w5 ⟨rfl, hbw5⟩; obtain ⟨hcw5, hfw5⟩ := bcell hbw5; have hzw5 := hbw5.size; (try simp at hzw5); (try ((have kw5XX0 := (bnew hbw5) (X) ?pf); (case pf => (first | omega | (simp; done) | (simp; omega))); obtain ⟨kcw5XX0, kfw5XX0, klw5XX0⟩ := kw5XX0)); (try ((have kw5gX0 := (bnew hbw5) (g) ?pf); (case pf => (first | omega | (simp; done) | (simp; omega))); obtain ⟨kcw5gX0, kfw5gX0, klw5gX0⟩ := kw5gX0))) | (go_at_call 99; (with_reducible refine ((unhide H2) _).mono ?_); rintro e w6 ⟨rfl, hbw6⟩; obtain ⟨hcw6, hfw6⟩ := bcell hbw6; have hzw6 := hbw6.size; (try simp at hzw6); (try ((have kw6XX0 := (bnew hbw6) (X) ?pf); (case pf => (first | omega | (simp; done) | (simp; omega))); obtain ⟨kcw6XX0, kfw6XX0, klw6XX0⟩ := kw6XX0)); (try ((have kw6gX0 := (bnew hbw6) (g) ?pf); (case pf => (first | omega | (simp; done) | (simp; omega))); obtain ⟨kcw6gX0, kfw6gX0, klw6gX0⟩ := kw6gX0))))
            go_wp2_with fail
            refine hK.out _ _ ?_ (fun hHeld => ?_)
            · ((try dsimp only); simp [go_sem, *])
            clear hK K
            try simp only [Act.put, List.setIfInBounds_toArray, List.set_cons_zero, List.set_cons_succ]
            refine wpAnyH_take (i := 17) (oi := _) (v := ?_) (op_at rfl rfl) (by kernel_rfl) (by kernel_rfl) (by kernel_rfl) (fun _ _ _ h => h) (Or.inl ⟨by kernel_rfl, ?_⟩) hHeld ?_
            rotate_left
            · (intro w hSw; (try dsimp only at hSw); go_simp) <;> with_reducible rfl
            try simp only [Act.put, List.setIfInBounds_toArray, List.set_cons_zero, List.set_cons_succ]
            refine wpAnyH_take (i := 18) (oi := _) (v := ?_) (op_at rfl rfl) (by kernel_rfl) (by kernel_rfl) (by kernel_rfl) (fun _ _ _ h => h) (Or.inl ⟨by kernel_rfl, ?_⟩) hHeld ?_
            rotate_left
            · (intro w hSw; (try dsimp only at hSw); go_simp) <;> with_reducible rfl
            try simp only [Act.put, List.setIfInBounds_toArray, List.set_cons_zero, List.set_cons_succ]
            refine wpAnyH_done (by kernel_rfl) ?_ _
            all_goals
              go_wp2_with (go_at_call 101; (with_reducible refine ((unhide H3) _ ((unhide HAr) _ ?pb)).mono ?_); (case pb => exact (unhide HBR).trans (show Below X wr _ from (by repeat (first | with_reducible exact Below.refl _ _ | with_reducible assumption | (with_reducible refine Below.trans ?_ (Below.mono (by assumption) (by first | omega | (simp <;> omega)))) | with_reducible apply Below.drew | with_reducible apply below_drewN | (with_reducible refine Below.alloc ?_ (by first | omega | (simp <;> omega)) _) | (with_reducible refine Below.setCell ?_ (by first | omega | (simp <;> omega)) _))))); rintro e w7 ⟨rfl, hbw7⟩; have hz7 := hbw7.size; (try simp at hz7))
              have hXw := HX.out; have hb := unhide HBQ
              have hbr := unhide HBR
              go_ret2
              exact ⟨false, false, rfl, hzf.out.symm, (hb.trans (Below.mono (show Below X wq _ from (by repeat (first | with_reducible exact Below.refl _ _ | with_reducible assumption | (with_reducible refine Below.trans ?_ (Below.mono (by assumption) (by first | omega | (simp <;> omega)))) | with_reducible apply Below.drew | with_reducible apply below_drewN | (with_reducible refine Below.alloc ?_ (by first | omega | (simp <;> omega)) _) | (with_reducible refine Below.setCell ?_ (by first | omega | (simp <;> omega)) _)))) (by omega)))⟩
          · have hgo := Lib.hid ((unhide HGO) hlast hht y hv)
            have hyu := Lib.hid ((unhide HVU) y hv)
            rw [hv] at H3
            simp only [oN_some, oD_some, Option.isSome_some] at H3
            obtain ⟨v1, hv1⟩ : ∃ q, q = y.num := ⟨_, rfl⟩
            obtain ⟨v2, hv2⟩ : ∃ q, q = (y.den : Int) := ⟨_, rfl⟩
            rw [← hv1, ← hv2] at H3
            have HV := Lib.hid (And.intro hv1 hv2)
            clear hv1 hv2 hv
            go_upto_region 4 with fail
            refine wp_region_held_drew (S := (fun w' => (w'.cell? ⟨X, 0, none⟩ = some (.int .i64 y1) ∧ w'.cell? ⟨X, 1, none⟩ = some (.int .i64 y2)) ∧ (w'.cell? ⟨g, k * 4, none⟩ = some (.int .i64 p1) ∧ w'.cell? ⟨g, k * 4 + 1, none⟩ = some (.int .i64 p2)) ∧ (w'.cell? ⟨g, (k + 1) * 4, none⟩ = some (.int .i64 q1) ∧ w'.cell? ⟨g, (k + 1) * 4 + 1, none⟩ = some (.int .i64 q2)))) (by kernel_rfl) ?_ (fun hHeld => ?_)
            · ((try dsimp only); simp [go_sem, *])
            refine wpAnyH_take (i := 0) (oi := _) (v := ?_) (op_at rfl rfl) (by kernel_rfl) (by kernel_rfl) (by kernel_rfl) (fun _ _ _ h => h) (Or.inl ⟨by kernel_rfl, ?_⟩) hHeld ?_
            rotate_left
            · (intro w hSw; (try dsimp only at hSw); go_simp) <;> with_reducible rfl
            try simp only [Act.put, List.setIfInBounds_toArray, List.set_cons_zero, List.set_cons_succ]
            refine wpAnyH_take (i := 1) (oi := _) (v := ?_) (op_at rfl rfl) (by kernel_rfl) (by kernel_rfl) (by kernel_rfl) (fun _ _ _ h => h) (Or.inl ⟨by kernel_rfl, ?_⟩) hHeld ?_
            rotate_left
            · (intro w hSw; (try dsimp only at hSw); go_simp) <;> with_reducible rfl
            try simp only [Act.put, List.setIfInBounds_toArray, List.set_cons_zero, List.set_cons_succ]
            refine wpAnyH_take (i := 2) (oi := _) (v := ?_) (op_at rfl rfl) (by kernel_rfl) (by kernel_rfl) (by kernel_rfl) (fun _ _ _ h => h) (Or.inl ⟨by kernel_rfl, ?_⟩) hHeld ?_
            rotate_left
            · (intro w hSw; (try dsimp only at hSw); go_simp) <;> with_reducible rfl
            try simp only [Act.put, List.setIfInBounds_toArray, List.set_cons_zero, List.set_cons_succ]
            refine wpAnyH_take (i := 3) (oi := _) (v := ?_) (op_at rfl rfl) (by kernel_rfl) (by kernel_rfl) (by kernel_rfl) (fun _ _ _ h => h) (Or.inl ⟨by kernel_rfl, ?_⟩) hHeld ?_
            rotate_left
            · (intro w hSw; (try dsimp only at hSw); go_simp) <;> with_reducible rfl
            try simp only [Act.put, List.setIfInBounds_toArray, List.set_cons_zero, List.set_cons_succ]
            refine wpAnyH_take (i := 4) (oi := _) (v := ?_) (op_at rfl rfl) (by kernel_rfl) (by kernel_rfl) (by kernel_rfl) (fun _ _ _ h => h) (Or.inl ⟨by kernel_rfl, ?_⟩) hHeld ?_
            rotate_left
            · (intro w hSw; (try dsimp only at hSw); go_simp) <;> with_reducible rfl
            try simp only [Act.put, List.setIfInBounds_toArray, List.set_cons_zero, List.set_cons_succ]
            refine wpAnyH_take (i := 5) (oi := _) (v := ?_) (op_at rfl rfl) (by kernel_rfl) (by kernel_rfl) (by kernel_rfl) (fun _ _ _ h => h) (Or.inl ⟨by kernel_rfl, ?_⟩) hHeld ?_
            rotate_left
            · (intro w hSw; (try dsimp only at hSw); go_simp) <;> with_reducible rfl
            try simp only [Act.put, List.setIfInBounds_toArray, List.set_cons_zero, List.set_cons_succ]
            refine wpAnyH_ready (rs := [6]) (by kernel_rfl) (by simp) ?_
            refine AllReadyH.cons (o := _) (op_at rfl rfl) (fun K hK => ?_) AllReadyH.nil
            go_simp
            (first | (go_at_call 99; (with_reducible refine ((unhide H1) _).mono ?_); rintro e w5 ⟨rfl, hbw5⟩; obtain ⟨hcw5, hfw5⟩ := bcell hbw5; have hzw5 := hbw5.size; (try simp at hzw5); (try ((have kw5XX0 := (bnew hbw5) (X) ?pf); (case pf => (first | omega | (simp; done) | (simp; omega))); obtain ⟨kcw5XX0, kfw5XX0, klw5XX0⟩ := kw5XX0)); (try ((have kw5gX0 := (bnew hbw5) (g) ?pf); (case pf => (first | omega | (simp; done) | (simp; omega))); obtain ⟨kcw5gX0, kfw5gX0, klw5gX0⟩ := kw5gX0))) | (go_at_call 99; (with_reducible refine ((unhide H2) _).mono ?_); rintro e w6 ⟨rfl, hbw6⟩; obtain ⟨hcw6, hfw6⟩ := bcell hbw6; have hzw6 := hbw6.size; (try simp at hzw6); (try ((have kw6XX0 := (bnew hbw6) (X) ?pf); (case pf => (first | omega | (simp; done) | (simp; omega))); obtain ⟨kcw6XX0, kfw6XX0, klw6XX0⟩ := kw6XX0)); (try ((have kw6gX0 := (bnew hbw6) (g) ?pf); (case pf => (first | omega | (simp; done) | (simp; omega))); obtain ⟨kcw6gX0, kfw6gX0, klw6gX0⟩ := kw6gX0))))
            go_wp2_with fail
            refine hK.out _ _ ?_ (fun hHeld => ?_)
            · ((try dsimp only); simp [go_sem, *])
            clear hK K
            try simp only [Act.put, List.setIfInBounds_toArray, List.set_cons_zero, List.set_cons_succ]
            refine wpAnyH_take (i := 7) (oi := _) (v := ?_) (op_at rfl rfl) (by kernel_rfl) (by kernel_rfl) (by kernel_rfl) (fun _ _ _ h => h) (Or.inl ⟨by kernel_rfl, ?_⟩) hHeld ?_
            rotate_left
            · (intro w hSw; (try dsimp only at hSw); go_simp) <;> with_reducible rfl
            try simp only [Act.put, List.setIfInBounds_toArray, List.set_cons_zero, List.set_cons_succ]
            refine wpAnyH_take (i := 8) (oi := _) (v := ?_) (op_at rfl rfl) (by kernel_rfl) (by kernel_rfl) (by kernel_rfl) (fun _ _ _ h => h) (Or.inl ⟨by kernel_rfl, ?_⟩) hHeld ?_
            rotate_left
            · (intro w hSw; (try dsimp only at hSw); go_simp) <;> with_reducible rfl
            try simp only [Act.put, List.setIfInBounds_toArray, List.set_cons_zero, List.set_cons_succ]
            refine wpAnyH_take (i := 9) (oi := _) (v := ?_) (op_at rfl rfl) (by kernel_rfl) (by kernel_rfl) (by kernel_rfl) (fun _ _ _ h => h) (Or.inl ⟨by kernel_rfl, ?_⟩) hHeld ?_
            rotate_left
            · (intro w hSw; (try dsimp only at hSw); go_simp) <;> with_reducible rfl
            try simp only [Act.put, List.setIfInBounds_toArray, List.set_cons_zero, List.set_cons_succ]
            refine wpAnyH_take (i := 10) (oi := _) (v := ?_) (op_at rfl rfl) (by kernel_rfl) (by kernel_rfl) (by kernel_rfl) (fun _ _ _ h => h) (Or.inl ⟨by kernel_rfl, ?_⟩) hHeld ?_
            rotate_left
            · (intro w hSw; (try dsimp only at hSw); go_simp) <;> with_reducible rfl
            try simp only [Act.put, List.setIfInBounds_toArray, List.set_cons_zero, List.set_cons_succ]
            refine wpAnyH_take (i := 11) (oi := _) (v := ?_) (op_at rfl rfl) (by kernel_rfl) (by kernel_rfl) (by kernel_rfl) (fun _ _ _ h => h) (Or.inl ⟨by kernel_rfl, ?_⟩) hHeld ?_
            rotate_left
            · (intro w hSw; (try dsimp only at hSw); go_simp) <;> with_reducible rfl
            try simp only [Act.put, List.setIfInBounds_toArray, List.set_cons_zero, List.set_cons_succ]
            refine wpAnyH_take (i := 12) (oi := _) (v := ?_) (op_at rfl rfl) (by kernel_rfl) (by kernel_rfl) (by kernel_rfl) (fun _ _ _ h => h) (Or.inl ⟨by kernel_rfl, ?_⟩) hHeld ?_
            rotate_left
            · (intro w hSw; (try dsimp only at hSw); go_simp) <;> with_reducible rfl
            try simp only [Act.put, List.setIfInBounds_toArray, List.set_cons_zero, List.set_cons_succ]
            refine wpAnyH_take (i := 13) (oi := _) (v := ?_) (op_at rfl rfl) (by kernel_rfl) (by kernel_rfl) (by kernel_rfl) (fun _ _ _ h => h) (Or.inl ⟨by kernel_rfl, ?_⟩) hHeld ?_
            rotate_left
            · (intro w hSw; (try dsimp only at hSw); go_simp) <;> with_reducible rfl
            try simp only [Act.put, List.setIfInBounds_toArray, List.set_cons_zero, List.set_cons_succ]
            refine wpAnyH_take (i := 14) (oi := _) (v := ?_) (op_at rfl rfl) (by kernel_rfl) (by kernel_rfl) (by kernel_rfl) (fun _ _ _ h => h) (Or.inl ⟨by kernel_rfl, ?_⟩) hHeld ?_
            rotate_left
            · (intro w hSw; (try dsimp only at hSw); go_simp) <;> with_reducible rfl
            try simp only [Act.put, List.setIfInBounds_toArray, List.set_cons_zero, List.set_cons_succ]
            refine wpAnyH_take (i := 15) (oi := _) (v := ?_) (op_at rfl rfl) (by kernel_rfl) (by kernel_rfl) (by kernel_rfl) (fun _ _ _ h => h) (Or.inl ⟨by kernel_rfl, ?_⟩) hHeld ?_
            rotate_left
            · (intro w hSw; (try dsimp only at hSw); go_simp) <;> with_reducible rfl
            try simp only [Act.put, List.setIfInBounds_toArray, List.set_cons_zero, List.set_cons_succ]
            refine wpAnyH_ready (rs := [16]) (by kernel_rfl) (by simp) ?_
            refine AllReadyH.cons (o := _) (op_at rfl rfl) (fun K hK => ?_) AllReadyH.nil
            go_simp
            (first | (go_at_call 99; (with_reducible refine ((unhide H1) _).mono ?_); rintro e w5 ⟨rfl, hbw5⟩; obtain ⟨hcw5, hfw5⟩ := bcell hbw5; have hzw5 := hbw5.size; (try simp at hzw5); (try ((have kw5XX0 := (bnew hbw5) (X) ?pf); (case pf => (first | omega | (simp; done) | (simp; omega))); obtain ⟨kcw5XX0, kfw5XX0, klw5XX0⟩ := kw5XX0)); (try ((have kw5gX0 := (bnew hbw5) (g) ?pf); (case pf => (first | omega | (simp; done) | (simp; omega))); obtain ⟨kcw5gX0, kfw5gX0, klw5gX0⟩ := kw5gX0))) | (go_at_call 99; (with_reducible refine ((unhide H2) _).mono ?_); rintro e w6 ⟨rfl, hbw6⟩; obtain ⟨hcw6, hfw6⟩ := bcell hbw6; have hzw6 := hbw6.size; (try simp at hzw6); (try ((have kw6XX0 := (bnew hbw6) (X) ?pf); (case pf => (first | omega | (simp; done) | (simp; omega))); obtain ⟨kcw6XX0, kfw6XX0, klw6XX0⟩ := kw6XX0)); (try ((have kw6gX0 := (bnew hbw6) (g) ?pf); (case pf => (first | omega | (simp; done) | (simp; omega))); obtain ⟨kcw6gX0, kfw6gX0, klw6gX0⟩ := kw6gX0))))
            go_wp2_with fail
            refine hK.out _ _ ?_ (fun hHeld => ?_)
            · ((try dsimp only); simp [go_sem, *])
            clear hK K
            try simp only [Act.put, List.setIfInBounds_toArray, List.set_cons_zero, List.set_cons_succ]
            refine wpAnyH_take (i := 17) (oi := _) (v := ?_) (op_at rfl rfl) (by kernel_rfl) (by kernel_rfl) (by kernel_rfl) (fun _ _ _ h => h) (Or.inl ⟨by kernel_rfl, ?_⟩) hHeld ?_
            rotate_left
            · (intro w hSw; (try dsimp only at hSw); go_simp) <;> with_reducible rfl
            try simp only [Act.put, List.setIfInBounds_toArray, List.set_cons_zero, List.set_cons_succ]
            refine wpAnyH_take (i := 18) (oi := _) (v := ?_) (op_at rfl rfl) (by kernel_rfl) (by kernel_rfl) (by kernel_rfl) (fun _ _ _ h => h) (Or.inl ⟨by kernel_rfl, ?_⟩) hHeld ?_
            rotate_left
            · (intro w hSw; (try dsimp only at hSw); go_simp) <;> with_reducible rfl
            try simp only [Act.put, List.setIfInBounds_toArray, List.set_cons_zero, List.set_cons_succ]
            refine wpAnyH_done (by kernel_rfl) ?_ _
            all_goals
              go_wp2_with (go_at_call 101; (with_reducible refine ((unhide H3) _ ((unhide HAr) _ ?pb)).mono ?_); (case pb => exact (unhide HBR).trans (show Below X wr _ from (by repeat (first | with_reducible exact Below.refl _ _ | with_reducible assumption | (with_reducible refine Below.trans ?_ (Below.mono (by assumption) (by first | omega | (simp <;> omega)))) | with_reducible apply Below.drew | with_reducible apply below_drewN | (with_reducible refine Below.alloc ?_ (by first | omega | (simp <;> omega)) _) | (with_reducible refine Below.setCell ?_ (by first | omega | (simp <;> omega)) _))))); rintro e w7 ⟨rfl, hbw7⟩; have hz7 := hbw7.size; (try simp at hz7); (skip; (try ((have kw7XX0 := (bnew hbw7) (X) ?pf); (case pf => (first | omega | (simp; done) | (simp; omega))); obtain ⟨kcw7XX0, kfw7XX0, klw7XX0⟩ := kw7XX0))))
              have hbr := unhide HBR
              go_roundw
              case rel => exact ⟨j + 1, y, by go_num, by omega, hgo, hyu, by rw [← HV.out.1]; simp [go_sem, *], by rw [← HV.out.2]; simp [go_sem, *], fun o => by simp [go_sem, *], by simp; omega, (by repeat (first | with_reducible exact Below.refl _ _ | with_reducible assumption | (with_reducible refine Below.trans ?_ (Below.mono (by assumption) (by first | omega | (simp <;> omega)))) | with_reducible apply Below.drew | with_reducible apply below_drewN | (with_reducible refine Below.alloc ?_ (by first | omega | (simp <;> omega)) _) | (with_reducible refine Below.setCell ?_ (by first | omega | (simp <;> omega)) _)))⟩
              case measure => (simp [intOf] <;> omega)
end Go.Proofs.Ythccdooacbablaa

namespace Go.Proofs.Ythccdooacbablaa
open Go.RowKit Rm

def svO (ps : List Pt) (r : List Int) : Option Rat := match peB ps r with | true => (lineK (dec ps) r r.length).bind (svL (dec ps) (wdL (dec ps) r)) | false => none
theorem svO_no {ps : List Pt} {r : List Int} (h : peB ps r = false) : svO ps r = none := by unfold svO; rw [h]
theorem svO_yes {qs : List QP} {r : List Int} (h : peB (qs.map qp) r = true) : svO (qs.map qp) r = (lineK qs r r.length).bind (svL qs (wdL qs r)) := by unfold svO; rw [h, dec_qp]

set_option maxRecDepth 100000 in
set_option maxHeartbeats 6400000 in
theorem peSolve_q (g n c base gw m cw : Nat) (qs : List QP) (r : List Int) (w : World) (ha : w.ownsRow base 62 4 (.slice (some ⟨g, 0, none⟩) n c) n (ptcs (qs.map qp))) (hg : GMap qs)
    (hw : WCells w gw m r) (hm : m ≤ 1048576) (hl : r.length = m) (h0 : 1 ≤ m) (hr : ∀ k ∈ r, 0 ≤ k ∧ k ≤ (n : Int) - 2) (o : Option Rat) (ho : Hid (o = (lineK qs r m).bind (svL qs (wdL qs r)))) :
    Calls Try.prog 49 #[.slice (some ⟨g, 0, none⟩) n c, .slice (some ⟨gw, 0, none⟩) m cw] w fun e w' =>
      (∀ x : Rat, o = some x → e = .returned (.tuple #[.agg #[.int .i64 (x.num), .int .i64 (x.den)], .bool true, .bool true])) ∧ (o = none → ∃ (a b : Int) (i k : Bool), e = .returned (.tuple #[.agg #[.int .i64 (a), .int .i64 (b)], .bool i, .bool k]) ∧ (i && k) = false) ∧ Below w.heap.size w w' := by
  have hln := fun W hW hw => peLine_q g n c base gw m cw qs r W hW hg hw hm hl hr
  have hpf := fun (x : Rat) (hx : Un x) (z : Bool) hz W hW hw => peFollows_q g n c base gw m cw qs r x W hW hg hw hm hl h0 hr hx z hz
  have hne : wdL qs r ≠ [] := fun h => by have : (wdL qs r).length = 0 := by rw [h]; rfl
                                          unfold wdL at this; rw [List.length_map] at this; omega
  have HA := hide ha; have HW := hide hw
  clear ha hw
  rcases hlk : lineK qs r m with _ | l
  · rw [hlk] at hln
    have hno : o = none := by rw [ho.out, hlk]; rfl
    simp only [mO, bO, Option.map_none, oN_none, oD_none, Option.isSome_none] at hln
    have HLN := hide hln; have HNO := Lib.hid hno
    clear hln hlk hno ho hpf hr
    go_enter Try.func49, Try.ntmps49
    go_wp2_with (go_at_call 45; (with_reducible refine ((unhide HLN) _ (own_below (unhide HA) ?pb) ((unhide HW).below ?pb)).mono ?_); (case pb => exact (by repeat (first | with_reducible exact Below.refl _ _ | with_reducible assumption | (with_reducible refine Below.trans ?_ (Below.mono (by assumption) (by first | omega | (simp <;> omega)))) | with_reducible apply Below.drew | with_reducible apply below_drewN | (with_reducible refine Below.alloc ?_ (by first | omega | (simp <;> omega)) _) | (with_reducible refine Below.setCell ?_ (by first | omega | (simp <;> omega)) _)))); rintro e w1 ⟨rfl, hbw1⟩; have hs1 := hbw1.size; (skip; (try ((have kw1w0 := (bnew hbw1) (w.heap.size) ?pf); (case pf => (first | omega | (simp; done) | (simp; omega))); obtain ⟨kcw1w0, kfw1w0, klw1w0⟩ := kw1w0))))
    exact bodyPost_ret (v := .tuple #[.agg #[.int .i64 (0), .int .i64 (0)], .bool false, .bool false]) (by simp [results, Try.results49, go_sem, *]) rfl ⟨fun x hx => (by rw [HNO.out] at hx; cases hx), fun _ => ⟨0, 0, false, false, rfl, rfl⟩, (by repeat (first | with_reducible exact Below.refl _ _ | with_reducible assumption | (with_reducible refine Below.trans ?_ (Below.mono (by assumption) (by first | omega | (simp <;> omega)))) | with_reducible apply Below.drew | with_reducible apply below_drewN | (with_reducible refine Below.alloc ?_ (by first | omega | (simp <;> omega)) _) | (with_reducible refine Below.setCell ?_ (by first | omega | (simp <;> omega)) _)))⟩
  · rw [hlk] at hln
    obtain ⟨hl1, hl2⟩ := lineK_fits hlk
    have ho' : o = svL qs (wdL qs r) l := by rw [ho.out, hlk]; rfl
    simp only [mO, bO, Option.map_some, oN_some, oD_some, Option.isSome_some] at hln
    have HLN := hide hln
    have h1 : ∀ W, Calls Try.prog 86 #[.agg #[.int .i64 (1), .int .i64 (1)], .agg #[.int .i64 (l.1.num), .int .i64 (l.1.den)]] W fun e w' => e = .returned (.tuple #[.agg #[.int .i64 (oN (osub (some 1) (some l.1))), .int .i64 (oD (osub (some 1) (some l.1)))], .bool (osub (some 1) (some l.1)).isSome]) ∧ Below W.heap.size W w' :=
      fun W => raSub_o (some 1) (some l.1) (isR_some rfl) (isR_some hl1) W
    clear hln hlk ho hr
    rcases hd : osub (some 1) (some l.1) with _ | d
    · rw [hd] at h1
      have hno : o = none := by rw [ho', svL_none (slO_none1 hd)]
      simp only [oN_none, oD_none, Option.isSome_none] at h1
      have H1 := hide h1; have HNO := Lib.hid hno
      clear h1 hno ho' hd hl1 hl2 hpf
      generalize l.1.num = m1 at *
      generalize (l.1.den : Int) = m2 at *
      generalize l.2.num = m3 at *
      generalize (l.2.den : Int) = m4 at *
      go_enter Try.func49, Try.ntmps49
      go_upto_region 4 with (go_at_call 45; (with_reducible refine ((unhide HLN) _ (own_below (unhide HA) ?pb) ((unhide HW).below ?pb)).mono ?_); (case pb => exact (by repeat (first | with_reducible exact Below.refl _ _ | with_reducible assumption | (with_reducible refine Below.trans ?_ (Below.mono (by assumption) (by first | omega | (simp <;> omega)))) | with_reducible apply Below.drew | with_reducible apply below_drewN | (with_reducible refine Below.alloc ?_ (by first | omega | (simp <;> omega)) _) | (with_reducible refine Below.setCell ?_ (by first | omega | (simp <;> omega)) _)))); rintro e w1 ⟨rfl, hbw1⟩; have hs1 := hbw1.size; (skip; (try ((have kw1w0 := (bnew hbw1) (w.heap.size) ?pf); (case pf => (first | omega | (simp; done) | (simp; omega))); obtain ⟨kcw1w0, kfw1w0, klw1w0⟩ := kw1w0))))
      have hb0 : Below w.heap.size w ((w1.alloc (.cells #[.int .i64 m1, .int .i64 m2] 26)).alloc (.cells #[.int .i64 m3, .int .i64 m4] 26)) := (by repeat (first | with_reducible exact Below.refl _ _ | with_reducible assumption | (with_reducible refine Below.trans ?_ (Below.mono (by assumption) (by first | omega | (simp <;> omega)))) | with_reducible apply Below.drew | with_reducible apply below_drewN | (with_reducible refine Below.alloc ?_ (by first | omega | (simp <;> omega)) _) | (with_reducible refine Below.setCell ?_ (by first | omega | (simp <;> omega)) _)))
      have M0 : ((w1.alloc (.cells #[.int .i64 m1, .int .i64 m2] 26)).alloc (.cells #[.int .i64 m3, .int .i64 m4] 26)).cell? ⟨w1.heap.size, 0, none⟩ = some (.int .i64 m1) := by simp [go_sem]
      have M1 : ((w1.alloc (.cells #[.int .i64 m1, .int .i64 m2] 26)).alloc (.cells #[.int .i64 m3, .int .i64 m4] 26)).cell? ⟨w1.heap.size, 1, none⟩ = some (.int .i64 m2) := by simp [go_sem]
      have B0 : ((w1.alloc (.cells #[.int .i64 m1, .int .i64 m2] 26)).alloc (.cells #[.int .i64 m3, .int .i64 m4] 26)).cell? ⟨w1.heap.size + 1, 0, none⟩ = some (.int .i64 m3) := by simp [go_sem]
      have B1 : ((w1.alloc (.cells #[.int .i64 m1, .int .i64 m2] 26)).alloc (.cells #[.int .i64 m3, .int .i64 m4] 26)).cell? ⟨w1.heap.size + 1, 1, none⟩ = some (.int .i64 m4) := by simp [go_sem]
      have r0 : ((w1.alloc (.cells #[.int .i64 m1, .int .i64 m2] 26)).alloc (.cells #[.int .i64 m3, .int .i64 m4] 26)).cell? ⟨w.heap.size, 0, none⟩ = some (.int .i64 0) := by simp [go_sem, *]
      have r1 : ((w1.alloc (.cells #[.int .i64 m1, .int .i64 m2] 26)).alloc (.cells #[.int .i64 m3, .int .i64 m4] 26)).cell? ⟨w.heap.size, 1, none⟩ = some (.int .i64 0) := by simp [go_sem, *]
      have rf : ∀ o, ((w1.alloc (.cells #[.int .i64 m1, .int .i64 m2] 26)).alloc (.cells #[.int .i64 m3, .int .i64 m4] 26)).frozen? ⟨w.heap.size, o, none⟩ = false := by intro o; simp [go_sem, *]
      have lM : w1.heap.size < ((w1.alloc (.cells #[.int .i64 m1, .int .i64 m2] 26)).alloc (.cells #[.int .i64 m3, .int .i64 m4] 26)).heap.size := by simp; omega
      have lB : w1.heap.size + 1 < ((w1.alloc (.cells #[.int .i64 m1, .int .i64 m2] 26)).alloc (.cells #[.int .i64 m3, .int .i64 m4] 26)).heap.size := by simp
      have lR : w.heap.size < ((w1.alloc (.cells #[.int .i64 m1, .int .i64 m2] 26)).alloc (.cells #[.int .i64 m3, .int .i64 m4] 26)).heap.size := by simp; omega
      generalize ((w1.alloc (.cells #[.int .i64 m1, .int .i64 m2] 26)).alloc (.cells #[.int .i64 m3, .int .i64 m4] 26)) = wq at *
      generalize w1.heap.size = M at *
      have HB0 := hide hb0
      clear hb0 hbw1 hs1 kcw1w0 kfw1w0 klw1w0
      go_cut [10, 11] (fun s10 s11 wx => s11 = .bool false ∧ ∃ D : Nat, s10 = .pointer (some ⟨D, 0, none⟩) ∧ Box2 wq wx D 0 0)
      case first =>
        go_region_held3 (fun w' => w'.cell? ⟨M, 0, none⟩ = some (.int .i64 m1) ∧ w'.cell? ⟨M, 1, none⟩ = some (.int .i64 m2)) (simp [go_sem, *])
          (first | (go_at_call 83; (with_reducible refine (raInt_any 1 _).mono ?_); rintro e w3 ⟨rfl, hbw3⟩; obtain ⟨hcw3, hfw3⟩ := bcell hbw3; have hzw3 := hbw3.size; (try simp at hzw3); (try ((have kw3MX0 := (bnew hbw3) (M) ?pf); (case pf => (first | omega | (simp; done) | (simp; omega))); obtain ⟨kcw3MX0, kfw3MX0, klw3MX0⟩ := kw3MX0)); (try ((have kw3wq0 := (bnew hbw3) (wq.heap.size) ?pf); (case pf => (first | omega | (simp; done) | (simp; omega))); obtain ⟨kcw3wq0, kfw3wq0, klw3wq0⟩ := kw3wq0))) | (go_at_call 86; (with_reducible refine ((unhide H1) _).mono ?_); rintro e w4 ⟨rfl, hbw4⟩; obtain ⟨hcw4, hfw4⟩ := bcell hbw4; have hzw4 := hbw4.size; (try simp at hzw4); (try ((have kw4MX0 := (bnew hbw4) (M) ?pf); (case pf => (first | omega | (simp; done) | (simp; omega))); obtain ⟨kcw4MX0, kfw4MX0, klw4MX0⟩ := kw4MX0)); (try ((have kw4wq0 := (bnew hbw4) (wq.heap.size) ?pf); (case pf => (first | omega | (simp; done) | (simp; omega))); obtain ⟨kcw4wq0, kfw4wq0, klw4wq0⟩ := kw4wq0)); (try ((have kw4w30 := (bnew hbw4) (w3.heap.size) ?pf); (case pf => (first | omega | (simp; done) | (simp; omega))); obtain ⟨kcw4w30, kfw4w30, klw4w30⟩ := kw4w30))))
        all_goals
          go_wp2_with fail
          go_meet
          refine ⟨rfl, _, rfl, ⟨(by repeat (first | with_reducible exact Below.refl _ _ | with_reducible assumption | (with_reducible refine Below.trans ?_ (Below.mono (by assumption) (by first | omega | (simp <;> omega)))) | with_reducible apply Below.drew | with_reducible apply below_drewN | (with_reducible refine Below.alloc ?_ (by first | omega | (simp <;> omega)) _) | (with_reducible refine Below.setCell ?_ (by first | omega | (simp <;> omega)) _))), ?_, ?_, ?_, ?_, ?_, ?_⟩⟩
        all_goals first | (go_simp; done) | (simp [go_sem, *]; done) | omega | (simp; omega)
      case rest =>
      obtain ⟨rfl, D, rfl, hB⟩ := hcut
      have hbc := hB.below; have D0 := hB.c0; have D1 := hB.c1; have lD := hB.hi; have hDlo := hB.lo
      replace B0 := (hbc.cell (p := ⟨M + 1, 0, none⟩) lB).trans B0
      replace B1 := (hbc.cell (p := ⟨M + 1, 1, none⟩) lB).trans B1
      replace r0 := (hbc.cell (p := ⟨w.heap.size, 0, none⟩) lR).trans r0
      replace r1 := (hbc.cell (p := ⟨w.heap.size, 1, none⟩) lR).trans r1
      replace rf := fun o => (hbc.frozen (p := ⟨w.heap.size, o, none⟩) lR).trans (rf o)
      replace lB := Nat.lt_of_lt_of_le lB hbc.size
      replace lR := Nat.lt_of_lt_of_le lR hbc.size
      have hb1 := (unhide HB0).trans (hbc.mono (unhide HB0).size)
      clear hB hbc M0 M1
      obtain ⟨wa, rfl⟩ : ∃ x, x = wc := ⟨wc, rfl⟩
      go_wp2_with fail
      exact bodyPost_ret (v := .tuple #[.agg #[.int .i64 (0), .int .i64 (0)], .bool false, .bool false]) (by simp [results, Try.results49, go_sem, *]) rfl ⟨fun x hx => (by rw [HNO.out] at hx; cases hx), fun _ => ⟨0, 0, false, false, rfl, rfl⟩, (by repeat (first | with_reducible exact Below.refl _ _ | with_reducible assumption | (with_reducible refine Below.trans ?_ (Below.mono (by assumption) (by first | omega | (simp <;> omega)))) | with_reducible apply Below.drew | with_reducible apply below_drewN | (with_reducible refine Below.alloc ?_ (by first | omega | (simp <;> omega)) _) | (with_reducible refine Below.setCell ?_ (by first | omega | (simp <;> omega)) _)))⟩
    · rw [hd] at h1
      have hdf := osub_is hd
      simp only [oN_some, oD_some, Option.isSome_some] at h1
      by_cases hd0 : d.num = 0
      · have hno : o = none := by rw [ho', svL_none (slO_none2 hd hd0)]
        rw [hd0] at h1
        have H1 := hide h1; have HNO := Lib.hid hno
        clear h1 hno ho' hd hl1 hl2 hpf hdf hd0
        generalize l.1.num = m1 at *
        generalize (l.1.den : Int) = m2 at *
        generalize l.2.num = m3 at *
        generalize (l.2.den : Int) = m4 at *
        generalize (d.den : Int) = d2 at *
        go_enter Try.func49, Try.ntmps49
        go_upto_region 4 with (go_at_call 45; (with_reducible refine ((unhide HLN) _ (own_below (unhide HA) ?pb) ((unhide HW).below ?pb)).mono ?_); (case pb => exact (by repeat (first | with_reducible exact Below.refl _ _ | with_reducible assumption | (with_reducible refine Below.trans ?_ (Below.mono (by assumption) (by first | omega | (simp <;> omega)))) | with_reducible apply Below.drew | with_reducible apply below_drewN | (with_reducible refine Below.alloc ?_ (by first | omega | (simp <;> omega)) _) | (with_reducible refine Below.setCell ?_ (by first | omega | (simp <;> omega)) _)))); rintro e w1 ⟨rfl, hbw1⟩; have hs1 := hbw1.size; (skip; (try ((have kw1w0 := (bnew hbw1) (w.heap.size) ?pf); (case pf => (first | omega | (simp; done) | (simp; omega))); obtain ⟨kcw1w0, kfw1w0, klw1w0⟩ := kw1w0))))
        have hb0 : Below w.heap.size w ((w1.alloc (.cells #[.int .i64 m1, .int .i64 m2] 26)).alloc (.cells #[.int .i64 m3, .int .i64 m4] 26)) := (by repeat (first | with_reducible exact Below.refl _ _ | with_reducible assumption | (with_reducible refine Below.trans ?_ (Below.mono (by assumption) (by first | omega | (simp <;> omega)))) | with_reducible apply Below.drew | with_reducible apply below_drewN | (with_reducible refine Below.alloc ?_ (by first | omega | (simp <;> omega)) _) | (with_reducible refine Below.setCell ?_ (by first | omega | (simp <;> omega)) _)))
        have M0 : ((w1.alloc (.cells #[.int .i64 m1, .int .i64 m2] 26)).alloc (.cells #[.int .i64 m3, .int .i64 m4] 26)).cell? ⟨w1.heap.size, 0, none⟩ = some (.int .i64 m1) := by simp [go_sem]
        have M1 : ((w1.alloc (.cells #[.int .i64 m1, .int .i64 m2] 26)).alloc (.cells #[.int .i64 m3, .int .i64 m4] 26)).cell? ⟨w1.heap.size, 1, none⟩ = some (.int .i64 m2) := by simp [go_sem]
        have B0 : ((w1.alloc (.cells #[.int .i64 m1, .int .i64 m2] 26)).alloc (.cells #[.int .i64 m3, .int .i64 m4] 26)).cell? ⟨w1.heap.size + 1, 0, none⟩ = some (.int .i64 m3) := by simp [go_sem]
        have B1 : ((w1.alloc (.cells #[.int .i64 m1, .int .i64 m2] 26)).alloc (.cells #[.int .i64 m3, .int .i64 m4] 26)).cell? ⟨w1.heap.size + 1, 1, none⟩ = some (.int .i64 m4) := by simp [go_sem]
        have r0 : ((w1.alloc (.cells #[.int .i64 m1, .int .i64 m2] 26)).alloc (.cells #[.int .i64 m3, .int .i64 m4] 26)).cell? ⟨w.heap.size, 0, none⟩ = some (.int .i64 0) := by simp [go_sem, *]
        have r1 : ((w1.alloc (.cells #[.int .i64 m1, .int .i64 m2] 26)).alloc (.cells #[.int .i64 m3, .int .i64 m4] 26)).cell? ⟨w.heap.size, 1, none⟩ = some (.int .i64 0) := by simp [go_sem, *]
        have rf : ∀ o, ((w1.alloc (.cells #[.int .i64 m1, .int .i64 m2] 26)).alloc (.cells #[.int .i64 m3, .int .i64 m4] 26)).frozen? ⟨w.heap.size, o, none⟩ = false := by intro o; simp [go_sem, *]
        have lM : w1.heap.size < ((w1.alloc (.cells #[.int .i64 m1, .int .i64 m2] 26)).alloc (.cells #[.int .i64 m3, .int .i64 m4] 26)).heap.size := by simp; omega
        have lB : w1.heap.size + 1 < ((w1.alloc (.cells #[.int .i64 m1, .int .i64 m2] 26)).alloc (.cells #[.int .i64 m3, .int .i64 m4] 26)).heap.size := by simp
        have lR : w.heap.size < ((w1.alloc (.cells #[.int .i64 m1, .int .i64 m2] 26)).alloc (.cells #[.int .i64 m3, .int .i64 m4] 26)).heap.size := by simp; omega
        generalize ((w1.alloc (.cells #[.int .i64 m1, .int .i64 m2] 26)).alloc (.cells #[.int .i64 m3, .int .i64 m4] 26)) = wq at *
        generalize w1.heap.size = M at *
        have HB0 := hide hb0
        clear hb0 hbw1 hs1 kcw1w0 kfw1w0 klw1w0
        go_cut [10, 11] (fun s10 s11 wx => s11 = .bool true ∧ ∃ D : Nat, s10 = .pointer (some ⟨D, 0, none⟩) ∧ Box2 wq wx D 0 d2)
        case first =>
          go_region_held3 (fun w' => w'.cell? ⟨M, 0, none⟩ = some (.int .i64 m1) ∧ w'.cell? ⟨M, 1, none⟩ = some (.int .i64 m2)) (simp [go_sem, *])
            (first | (go_at_call 83; (with_reducible refine (raInt_any 1 _).mono ?_); rintro e w3 ⟨rfl, hbw3⟩; obtain ⟨hcw3, hfw3⟩ := bcell hbw3; have hzw3 := hbw3.size; (try simp at hzw3); (try ((have kw3MX0 := (bnew hbw3) (M) ?pf); (case pf => (first | omega | (simp; done) | (simp; omega))); obtain ⟨kcw3MX0, kfw3MX0, klw3MX0⟩ := kw3MX0)); (try ((have kw3wq0 := (bnew hbw3) (wq.heap.size) ?pf); (case pf => (first | omega | (simp; done) | (simp; omega))); obtain ⟨kcw3wq0, kfw3wq0, klw3wq0⟩ := kw3wq0))) | (go_at_call 86; (with_reducible refine ((unhide H1) _).mono ?_); rintro e w4 ⟨rfl, hbw4⟩; obtain ⟨hcw4, hfw4⟩ := bcell hbw4; have hzw4 := hbw4.size; (try simp at hzw4); (try ((have kw4MX0 := (bnew hbw4) (M) ?pf); (case pf => (first | omega | (simp; done) | (simp; omega))); obtain ⟨kcw4MX0, kfw4MX0, klw4MX0⟩ := kw4MX0)); (try ((have kw4wq0 := (bnew hbw4) (wq.heap.size) ?pf); (case pf => (first | omega | (simp; done) | (simp; omega))); obtain ⟨kcw4wq0, kfw4wq0, klw4wq0⟩ := kw4wq0)); (try ((have kw4w30 := (bnew hbw4) (w3.heap.size) ?pf); (case pf => (first | omega | (simp; done) | (simp; omega))); obtain ⟨kcw4w30, kfw4w30, klw4w30⟩ := kw4w30))))
          all_goals
            go_wp2_with fail
            go_meet
            refine ⟨rfl, _, rfl, ⟨(by repeat (first | with_reducible exact Below.refl _ _ | with_reducible assumption | (with_reducible refine Below.trans ?_ (Below.mono (by assumption) (by first | omega | (simp <;> omega)))) | with_reducible apply Below.drew | with_reducible apply below_drewN | (with_reducible refine Below.alloc ?_ (by first | omega | (simp <;> omega)) _) | (with_reducible refine Below.setCell ?_ (by first | omega | (simp <;> omega)) _))), ?_, ?_, ?_, ?_, ?_, ?_⟩⟩
          all_goals first | (go_simp; done) | (simp [go_sem, *]; done) | omega | (simp; omega)
        case rest =>
        obtain ⟨rfl, D, rfl, hB⟩ := hcut
        have hbc := hB.below; have D0 := hB.c0; have D1 := hB.c1; have lD := hB.hi; have hDlo := hB.lo
        replace B0 := (hbc.cell (p := ⟨M + 1, 0, none⟩) lB).trans B0
        replace B1 := (hbc.cell (p := ⟨M + 1, 1, none⟩) lB).trans B1
        replace r0 := (hbc.cell (p := ⟨w.heap.size, 0, none⟩) lR).trans r0
        replace r1 := (hbc.cell (p := ⟨w.heap.size, 1, none⟩) lR).trans r1
        replace rf := fun o => (hbc.frozen (p := ⟨w.heap.size, o, none⟩) lR).trans (rf o)
        replace lB := Nat.lt_of_lt_of_le lB hbc.size
        replace lR := Nat.lt_of_lt_of_le lR hbc.size
        have hb1 := (unhide HB0).trans (hbc.mono (unhide HB0).size)
        clear hB hbc M0 M1
        obtain ⟨wa, rfl⟩ : ∃ x, x = wc := ⟨wc, rfl⟩
        go_wp2_with fail
        exact bodyPost_ret (v := .tuple #[.agg #[.int .i64 (0), .int .i64 (0)], .bool false, .bool true]) (by simp [results, Try.results49, go_sem, *]) rfl ⟨fun x hx => (by rw [HNO.out] at hx; cases hx), fun _ => ⟨0, 0, false, true, rfl, rfl⟩, (by repeat (first | with_reducible exact Below.refl _ _ | with_reducible assumption | (with_reducible refine Below.trans ?_ (Below.mono (by assumption) (by first | omega | (simp <;> omega)))) | with_reducible apply Below.drew | with_reducible apply below_drewN | (with_reducible refine Below.alloc ?_ (by first | omega | (simp <;> omega)) _) | (with_reducible refine Below.setCell ?_ (by first | omega | (simp <;> omega)) _)))⟩
      · have h2 := fun W => raDiv_o (some l.2) (some d) (isR_some hl2) (isR_some hdf) W
        rcases hx : odiv (some l.2) (some d) with _ | x
        · rw [hx] at h2
          have hno : o = none := by rw [ho', svL_none (slO_none3 hd hx)]
          simp only [oN_some, oD_some, oN_none, oD_none, Option.isSome_none] at h2
          have H1 := hide h1; have H2 := hide h2; have HNO := Lib.hid hno
          clear h1 h2 hno ho' hd hl1 hl2 hpf hdf hx
          generalize l.1.num = m1 at *
          generalize (l.1.den : Int) = m2 at *
          generalize l.2.num = m3 at *
          generalize (l.2.den : Int) = m4 at *
          generalize d.num = d1 at *
          generalize (d.den : Int) = d2 at *
          have e1 : (d1 == 0) = false := by simpa using hd0
          have e2 : decide (d1 = 0) = false := decide_eq_false hd0
          go_enter Try.func49, Try.ntmps49
          go_upto_region 4 with (go_at_call 45; (with_reducible refine ((unhide HLN) _ (own_below (unhide HA) ?pb) ((unhide HW).below ?pb)).mono ?_); (case pb => exact (by repeat (first | with_reducible exact Below.refl _ _ | with_reducible assumption | (with_reducible refine Below.trans ?_ (Below.mono (by assumption) (by first | omega | (simp <;> omega)))) | with_reducible apply Below.drew | with_reducible apply below_drewN | (with_reducible refine Below.alloc ?_ (by first | omega | (simp <;> omega)) _) | (with_reducible refine Below.setCell ?_ (by first | omega | (simp <;> omega)) _)))); rintro e w1 ⟨rfl, hbw1⟩; have hs1 := hbw1.size; (skip; (try ((have kw1w0 := (bnew hbw1) (w.heap.size) ?pf); (case pf => (first | omega | (simp; done) | (simp; omega))); obtain ⟨kcw1w0, kfw1w0, klw1w0⟩ := kw1w0))))
          have hb0 : Below w.heap.size w ((w1.alloc (.cells #[.int .i64 m1, .int .i64 m2] 26)).alloc (.cells #[.int .i64 m3, .int .i64 m4] 26)) := (by repeat (first | with_reducible exact Below.refl _ _ | with_reducible assumption | (with_reducible refine Below.trans ?_ (Below.mono (by assumption) (by first | omega | (simp <;> omega)))) | with_reducible apply Below.drew | with_reducible apply below_drewN | (with_reducible refine Below.alloc ?_ (by first | omega | (simp <;> omega)) _) | (with_reducible refine Below.setCell ?_ (by first | omega | (simp <;> omega)) _)))
          have M0 : ((w1.alloc (.cells #[.int .i64 m1, .int .i64 m2] 26)).alloc (.cells #[.int .i64 m3, .int .i64 m4] 26)).cell? ⟨w1.heap.size, 0, none⟩ = some (.int .i64 m1) := by simp [go_sem]
          have M1 : ((w1.alloc (.cells #[.int .i64 m1, .int .i64 m2] 26)).alloc (.cells #[.int .i64 m3, .int .i64 m4] 26)).cell? ⟨w1.heap.size, 1, none⟩ = some (.int .i64 m2) := by simp [go_sem]
          have B0 : ((w1.alloc (.cells #[.int .i64 m1, .int .i64 m2] 26)).alloc (.cells #[.int .i64 m3, .int .i64 m4] 26)).cell? ⟨w1.heap.size + 1, 0, none⟩ = some (.int .i64 m3) := by simp [go_sem]
          have B1 : ((w1.alloc (.cells #[.int .i64 m1, .int .i64 m2] 26)).alloc (.cells #[.int .i64 m3, .int .i64 m4] 26)).cell? ⟨w1.heap.size + 1, 1, none⟩ = some (.int .i64 m4) := by simp [go_sem]
          have r0 : ((w1.alloc (.cells #[.int .i64 m1, .int .i64 m2] 26)).alloc (.cells #[.int .i64 m3, .int .i64 m4] 26)).cell? ⟨w.heap.size, 0, none⟩ = some (.int .i64 0) := by simp [go_sem, *]
          have r1 : ((w1.alloc (.cells #[.int .i64 m1, .int .i64 m2] 26)).alloc (.cells #[.int .i64 m3, .int .i64 m4] 26)).cell? ⟨w.heap.size, 1, none⟩ = some (.int .i64 0) := by simp [go_sem, *]
          have rf : ∀ o, ((w1.alloc (.cells #[.int .i64 m1, .int .i64 m2] 26)).alloc (.cells #[.int .i64 m3, .int .i64 m4] 26)).frozen? ⟨w.heap.size, o, none⟩ = false := by intro o; simp [go_sem, *]
          have lM : w1.heap.size < ((w1.alloc (.cells #[.int .i64 m1, .int .i64 m2] 26)).alloc (.cells #[.int .i64 m3, .int .i64 m4] 26)).heap.size := by simp; omega
          have lB : w1.heap.size + 1 < ((w1.alloc (.cells #[.int .i64 m1, .int .i64 m2] 26)).alloc (.cells #[.int .i64 m3, .int .i64 m4] 26)).heap.size := by simp
          have lR : w.heap.size < ((w1.alloc (.cells #[.int .i64 m1, .int .i64 m2] 26)).alloc (.cells #[.int .i64 m3, .int .i64 m4] 26)).heap.size := by simp; omega
          generalize ((w1.alloc (.cells #[.int .i64 m1, .int .i64 m2] 26)).alloc (.cells #[.int .i64 m3, .int .i64 m4] 26)) = wq at *
          generalize w1.heap.size = M at *
          have HB0 := hide hb0
          clear hb0 hbw1 hs1 kcw1w0 kfw1w0 klw1w0
          go_cut [10, 11] (fun s10 s11 wx => s11 = .bool true ∧ ∃ D : Nat, s10 = .pointer (some ⟨D, 0, none⟩) ∧ Box2 wq wx D d1 d2)
          case first =>
            go_region_held3 (fun w' => w'.cell? ⟨M, 0, none⟩ = some (.int .i64 m1) ∧ w'.cell? ⟨M, 1, none⟩ = some (.int .i64 m2)) (simp [go_sem, *])
              (first | (go_at_call 83; (with_reducible refine (raInt_any 1 _).mono ?_); rintro e w3 ⟨rfl, hbw3⟩; obtain ⟨hcw3, hfw3⟩ := bcell hbw3; have hzw3 := hbw3.size; (try simp at hzw3); (try ((have kw3MX0 := (bnew hbw3) (M) ?pf); (case pf => (first | omega | (simp; done) | (simp; omega))); obtain ⟨kcw3MX0, kfw3MX0, klw3MX0⟩ := kw3MX0)); (try ((have kw3wq0 := (bnew hbw3) (wq.heap.size) ?pf); (case pf => (first | omega | (simp; done) | (simp; omega))); obtain ⟨kcw3wq0, kfw3wq0, klw3wq0⟩ := kw3wq0))) | (go_at_call 86; (with_reducible refine ((unhide H1) _).mono ?_); rintro e w4 ⟨rfl, hbw4⟩; obtain ⟨hcw4, hfw4⟩ := bcell hbw4; have hzw4 := hbw4.size; (try simp at hzw4); (try ((have kw4MX0 := (bnew hbw4) (M) ?pf); (case pf => (first | omega | (simp; done) | (simp; omega))); obtain ⟨kcw4MX0, kfw4MX0, klw4MX0⟩ := kw4MX0)); (try ((have kw4wq0 := (bnew hbw4) (wq.heap.size) ?pf); (case pf => (first | omega | (simp; done) | (simp; omega))); obtain ⟨kcw4wq0, kfw4wq0, klw4wq0⟩ := kw4wq0)); (try ((have kw4w30 := (bnew hbw4) (w3.heap.size) ?pf); (case pf => (first | omega | (simp; done) | (simp; omega))); obtain ⟨kcw4w30, kfw4w30, klw4w30⟩ := kw4w30))))
            all_goals
              go_wp2_with fail
              go_meet
              refine ⟨rfl, _, rfl, ⟨(by repeat (first | with_reducible exact Below.refl _ _ | with_reducible assumption | (with_reducible refine Below.trans ?_ (Below.mono (by assumption) (by first | omega | (simp <;> omega)))) | with_reducible apply Below.drew | with_reducible apply below_drewN | (with_reducible refine Below.alloc ?_ (by first | omega | (simp <;> omega)) _) | (with_reducible refine Below.setCell ?_ (by first | omega | (simp <;> omega)) _))), ?_, ?_, ?_, ?_, ?_, ?_⟩⟩
            all_goals first | (go_simp; done) | (simp [go_sem, *]; done) | omega | (simp; omega)
          case rest =>
          obtain ⟨rfl, D, rfl, hB⟩ := hcut
          have hbc := hB.below; have D0 := hB.c0; have D1 := hB.c1; have lD := hB.hi; have hDlo := hB.lo
          replace B0 := (hbc.cell (p := ⟨M + 1, 0, none⟩) lB).trans B0
          replace B1 := (hbc.cell (p := ⟨M + 1, 1, none⟩) lB).trans B1
          replace r0 := (hbc.cell (p := ⟨w.heap.size, 0, none⟩) lR).trans r0
          replace r1 := (hbc.cell (p := ⟨w.heap.size, 1, none⟩) lR).trans r1
          replace rf := fun o => (hbc.frozen (p := ⟨w.heap.size, o, none⟩) lR).trans (rf o)
          replace lB := Nat.lt_of_lt_of_le lB hbc.size
          replace lR := Nat.lt_of_lt_of_le lR hbc.size
          have hb1 := (unhide HB0).trans (hbc.mono (unhide HB0).size)
          clear hB hbc M0 M1
          obtain ⟨wa, rfl⟩ : ∃ x, x = wc := ⟨wc, rfl⟩
          go_wp2_with ((go_at_call 91; (with_reducible refine ((unhide H2) _).mono ?_); rintro e w5 ⟨rfl, hbw5⟩; obtain ⟨hcw5, hfw5⟩ := bcell hbw5; have hzw5 := hbw5.size; (try simp at hzw5); (try ((have kw5w0 := (bnew hbw5) (w.heap.size) ?pf); (case pf => (first | omega | (simp; done) | (simp; omega))); obtain ⟨kcw5w0, kfw5w0, klw5w0⟩ := kw5w0)); (try ((have kw5MX0 := (bnew hbw5) (M) ?pf); (case pf => (first | omega | (simp; done) | (simp; omega))); obtain ⟨kcw5MX0, kfw5MX0, klw5MX0⟩ := kw5MX0)); (try ((have kw5MX1 := (bnew hbw5) (M + 1) ?pf); (case pf => (first | omega | (simp; done) | (simp; omega))); obtain ⟨kcw5MX1, kfw5MX1, klw5MX1⟩ := kw5MX1)); (try ((have kw5DX0 := (bnew hbw5) (D) ?pf); (case pf => (first | omega | (simp; done) | (simp; omega))); obtain ⟨kcw5DX0, kfw5DX0, klw5DX0⟩ := kw5DX0))))
          exact bodyPost_ret (v := .tuple #[.agg #[.int .i64 (0), .int .i64 (0)], .bool false, .bool false]) (by simp [results, Try.results49, go_sem, *]) rfl ⟨fun x hx => (by rw [HNO.out] at hx; cases hx), fun _ => ⟨0, 0, false, false, rfl, rfl⟩, (by repeat (first | with_reducible exact Below.refl _ _ | with_reducible assumption | (with_reducible refine Below.trans ?_ (Below.mono (by assumption) (by first | omega | (simp <;> omega)))) | with_reducible apply Below.drew | with_reducible apply below_drewN | (with_reducible refine Below.alloc ?_ (by first | omega | (simp <;> omega)) _) | (with_reducible refine Below.setCell ?_ (by first | omega | (simp <;> omega)) _)))⟩
        · rw [hx] at h2
          have hsl := slO_is hd hd0 hx
          simp only [oN_some, oD_some, Option.isSome_some] at h2
          have h3 := fun W => raUnit_any x.num x.den W
          rcases hu : uB x.num x.den with _ | _
          · rw [hu] at hsl h3
            have hno : o = none := by rw [ho', svL_none hsl]
            have H1 := hide h1; have H2 := hide h2; have H3 := hide h3; have HNO := Lib.hid hno
            clear h1 h2 h3 hno ho' hd hl1 hl2 hpf hdf hx hsl hu
            generalize l.1.num = m1 at *
            generalize (l.1.den : Int) = m2 at *
            generalize l.2.num = m3 at *
            generalize (l.2.den : Int) = m4 at *
            generalize d.num = d1 at *
            generalize (d.den : Int) = d2 at *
            generalize x.num = x1 at *
            generalize (x.den : Int) = x2 at *
            have e1 : (d1 == 0) = false := by simpa using hd0
            have e2 : decide (d1 = 0) = false := decide_eq_false hd0
            go_enter Try.func49, Try.ntmps49
            go_upto_region 4 with (go_at_call 45; (with_reducible refine ((unhide HLN) _ (own_below (unhide HA) ?pb) ((unhide HW).below ?pb)).mono ?_); (case pb => exact (by repeat (first | with_reducible exact Below.refl _ _ | with_reducible assumption | (with_reducible refine Below.trans ?_ (Below.mono (by assumption) (by first | omega | (simp <;> omega)))) | with_reducible apply Below.drew | with_reducible apply below_drewN | (with_reducible refine Below.alloc ?_ (by first | omega | (simp <;> omega)) _) | (with_reducible refine Below.setCell ?_ (by first | omega | (simp <;> omega)) _)))); rintro e w1 ⟨rfl, hbw1⟩; have hs1 := hbw1.size; (skip; (try ((have kw1w0 := (bnew hbw1) (w.heap.size) ?pf); (case pf => (first | omega | (simp; done) | (simp; omega))); obtain ⟨kcw1w0, kfw1w0, klw1w0⟩ := kw1w0))))
            have hb0 : Below w.heap.size w ((w1.alloc (.cells #[.int .i64 m1, .int .i64 m2] 26)).alloc (.cells #[.int .i64 m3, .int .i64 m4] 26)) := (by repeat (first | with_reducible exact Below.refl _ _ | with_reducible assumption | (with_reducible refine Below.trans ?_ (Below.mono (by assumption) (by first | omega | (simp <;> omega)))) | with_reducible apply Below.drew | with_reducible apply below_drewN | (with_reducible refine Below.alloc ?_ (by first | omega | (simp <;> omega)) _) | (with_reducible refine Below.setCell ?_ (by first | omega | (simp <;> omega)) _)))
            have M0 : ((w1.alloc (.cells #[.int .i64 m1, .int .i64 m2] 26)).alloc (.cells #[.int .i64 m3, .int .i64 m4] 26)).cell? ⟨w1.heap.size, 0, none⟩ = some (.int .i64 m1) := by simp [go_sem]
            have M1 : ((w1.alloc (.cells #[.int .i64 m1, .int .i64 m2] 26)).alloc (.cells #[.int .i64 m3, .int .i64 m4] 26)).cell? ⟨w1.heap.size, 1, none⟩ = some (.int .i64 m2) := by simp [go_sem]
            have B0 : ((w1.alloc (.cells #[.int .i64 m1, .int .i64 m2] 26)).alloc (.cells #[.int .i64 m3, .int .i64 m4] 26)).cell? ⟨w1.heap.size + 1, 0, none⟩ = some (.int .i64 m3) := by simp [go_sem]
            have B1 : ((w1.alloc (.cells #[.int .i64 m1, .int .i64 m2] 26)).alloc (.cells #[.int .i64 m3, .int .i64 m4] 26)).cell? ⟨w1.heap.size + 1, 1, none⟩ = some (.int .i64 m4) := by simp [go_sem]
            have r0 : ((w1.alloc (.cells #[.int .i64 m1, .int .i64 m2] 26)).alloc (.cells #[.int .i64 m3, .int .i64 m4] 26)).cell? ⟨w.heap.size, 0, none⟩ = some (.int .i64 0) := by simp [go_sem, *]
            have r1 : ((w1.alloc (.cells #[.int .i64 m1, .int .i64 m2] 26)).alloc (.cells #[.int .i64 m3, .int .i64 m4] 26)).cell? ⟨w.heap.size, 1, none⟩ = some (.int .i64 0) := by simp [go_sem, *]
            have rf : ∀ o, ((w1.alloc (.cells #[.int .i64 m1, .int .i64 m2] 26)).alloc (.cells #[.int .i64 m3, .int .i64 m4] 26)).frozen? ⟨w.heap.size, o, none⟩ = false := by intro o; simp [go_sem, *]
            have lM : w1.heap.size < ((w1.alloc (.cells #[.int .i64 m1, .int .i64 m2] 26)).alloc (.cells #[.int .i64 m3, .int .i64 m4] 26)).heap.size := by simp; omega
            have lB : w1.heap.size + 1 < ((w1.alloc (.cells #[.int .i64 m1, .int .i64 m2] 26)).alloc (.cells #[.int .i64 m3, .int .i64 m4] 26)).heap.size := by simp
            have lR : w.heap.size < ((w1.alloc (.cells #[.int .i64 m1, .int .i64 m2] 26)).alloc (.cells #[.int .i64 m3, .int .i64 m4] 26)).heap.size := by simp; omega
            generalize ((w1.alloc (.cells #[.int .i64 m1, .int .i64 m2] 26)).alloc (.cells #[.int .i64 m3, .int .i64 m4] 26)) = wq at *
            generalize w1.heap.size = M at *
            have HB0 := hide hb0
            clear hb0 hbw1 hs1 kcw1w0 kfw1w0 klw1w0
            go_cut [10, 11] (fun s10 s11 wx => s11 = .bool true ∧ ∃ D : Nat, s10 = .pointer (some ⟨D, 0, none⟩) ∧ Box2 wq wx D d1 d2)
            case first =>
              go_region_held3 (fun w' => w'.cell? ⟨M, 0, none⟩ = some (.int .i64 m1) ∧ w'.cell? ⟨M, 1, none⟩ = some (.int .i64 m2)) (simp [go_sem, *])
                (first | (go_at_call 83; (with_reducible refine (raInt_any 1 _).mono ?_); rintro e w3 ⟨rfl, hbw3⟩; obtain ⟨hcw3, hfw3⟩ := bcell hbw3; have hzw3 := hbw3.size; (try simp at hzw3); (try ((have kw3MX0 := (bnew hbw3) (M) ?pf); (case pf => (first | omega | (simp; done) | (simp; omega))); obtain ⟨kcw3MX0, kfw3MX0, klw3MX0⟩ := kw3MX0)); (try ((have kw3wq0 := (bnew hbw3) (wq.heap.size) ?pf); (case pf => (first | omega | (simp; done) | (simp; omega))); obtain ⟨kcw3wq0, kfw3wq0, klw3wq0⟩ := kw3wq0))) | (go_at_call 86; (with_reducible refine ((unhide H1) _).mono ?_); rintro e w4 ⟨rfl, hbw4⟩; obtain ⟨hcw4, hfw4⟩ := bcell hbw4; have hzw4 := hbw4.size; (try simp at hzw4); (try ((have kw4MX0 := (bnew hbw4) (M) ?pf); (case pf => (first | omega | (simp; done) | (simp; omega))); obtain ⟨kcw4MX0, kfw4MX0, klw4MX0⟩ := kw4MX0)); (try ((have kw4wq0 := (bnew hbw4) (wq.heap.size) ?pf); (case pf => (first | omega | (simp; done) | (simp; omega))); obtain ⟨kcw4wq0, kfw4wq0, klw4wq0⟩ := kw4wq0)); (try ((have kw4w30 := (bnew hbw4) (w3.heap.size) ?pf); (case pf => (first | omega | (simp; done) | (simp; omega))); obtain ⟨kcw4w30, kfw4w30, klw4w30⟩ := kw4w30))))
              all_goals
                go_wp2_with fail
                go_meet
                refine ⟨rfl, _, rfl, ⟨(by repeat (first | with_reducible exact Below.refl _ _ | with_reducible assumption | (with_reducible refine Below.trans ?_ (Below.mono (by assumption) (by first | omega | (simp <;> omega)))) | with_reducible apply Below.drew | with_reducible apply below_drewN | (with_reducible refine Below.alloc ?_ (by first | omega | (simp <;> omega)) _) | (with_reducible refine Below.setCell ?_ (by first | omega | (simp <;> omega)) _))), ?_, ?_, ?_, ?_, ?_, ?_⟩⟩
              all_goals first | (go_simp; done) | (simp [go_sem, *]; done) | omega | (simp; omega)
            case rest =>
            obtain ⟨rfl, D, rfl, hB⟩ := hcut
            have hbc := hB.below; have D0 := hB.c0; have D1 := hB.c1; have lD := hB.hi; have hDlo := hB.lo
            replace B0 := (hbc.cell (p := ⟨M + 1, 0, none⟩) lB).trans B0
            replace B1 := (hbc.cell (p := ⟨M + 1, 1, none⟩) lB).trans B1
            replace r0 := (hbc.cell (p := ⟨w.heap.size, 0, none⟩) lR).trans r0
            replace r1 := (hbc.cell (p := ⟨w.heap.size, 1, none⟩) lR).trans r1
            replace rf := fun o => (hbc.frozen (p := ⟨w.heap.size, o, none⟩) lR).trans (rf o)
            replace lB := Nat.lt_of_lt_of_le lB hbc.size
            replace lR := Nat.lt_of_lt_of_le lR hbc.size
            have hb1 := (unhide HB0).trans (hbc.mono (unhide HB0).size)
            clear hB hbc M0 M1
            obtain ⟨wa, rfl⟩ : ∃ x, x = wc := ⟨wc, rfl⟩
            go_wp2_with (first | (go_at_call 91; (with_reducible refine ((unhide H2) _).mono ?_); rintro e w5 ⟨rfl, hbw5⟩; obtain ⟨hcw5, hfw5⟩ := bcell hbw5; have hzw5 := hbw5.size; (try simp at hzw5); (try ((have kw5w0 := (bnew hbw5) (w.heap.size) ?pf); (case pf => (first | omega | (simp; done) | (simp; omega))); obtain ⟨kcw5w0, kfw5w0, klw5w0⟩ := kw5w0)); (try ((have kw5MX0 := (bnew hbw5) (M) ?pf); (case pf => (first | omega | (simp; done) | (simp; omega))); obtain ⟨kcw5MX0, kfw5MX0, klw5MX0⟩ := kw5MX0)); (try ((have kw5MX1 := (bnew hbw5) (M + 1) ?pf); (case pf => (first | omega | (simp; done) | (simp; omega))); obtain ⟨kcw5MX1, kfw5MX1, klw5MX1⟩ := kw5MX1)); (try ((have kw5DX0 := (bnew hbw5) (D) ?pf); (case pf => (first | omega | (simp; done) | (simp; omega))); obtain ⟨kcw5DX0, kfw5DX0, klw5DX0⟩ := kw5DX0))) | (go_at_call 52; (with_reducible refine ((unhide H3) _).mono ?_); rintro e w6 ⟨rfl, hbw6⟩; obtain ⟨hcw6, hfw6⟩ := bcell hbw6; have hzw6 := hbw6.size; (try simp at hzw6); (try ((have kw6w0 := (bnew hbw6) (w.heap.size) ?pf); (case pf => (first | omega | (simp; done) | (simp; omega))); obtain ⟨kcw6w0, kfw6w0, klw6w0⟩ := kw6w0))))
            exact bodyPost_ret (v := .tuple #[.agg #[.int .i64 (0), .int .i64 (0)], .bool false, .bool true]) (by simp [results, Try.results49, go_sem, *]) rfl ⟨fun x hx => (by rw [HNO.out] at hx; cases hx), fun _ => ⟨0, 0, false, true, rfl, rfl⟩, (by repeat (first | with_reducible exact Below.refl _ _ | with_reducible assumption | (with_reducible refine Below.trans ?_ (Below.mono (by assumption) (by first | omega | (simp <;> omega)))) | with_reducible apply Below.drew | with_reducible apply below_drewN | (with_reducible refine Below.alloc ?_ (by first | omega | (simp <;> omega)) _) | (with_reducible refine Below.setCell ?_ (by first | omega | (simp <;> omega)) _)))⟩
          · rw [hu] at hsl h3
            have hxu := un_uB hu
            have hsv := svL_some (qs := qs) (L := wdL qs r) (l := l) (x := x) hsl
            rw [← folB_fo qs (wdL qs r) x hne] at hsv
            rw [hsv] at ho'
            obtain ⟨z, hz⟩ : ∃ z, z = folB qs (wdL qs r) x := ⟨_, rfl⟩
            have h4 := hpf x hxu z (hide hz)
            rw [← hz] at ho'
            have H1 := hide h1; have H2 := hide h2; have H3 := hide h3; have H4 := hide h4; have HOO := Lib.hid ho'
            clear h1 h2 h3 h4 ho' hd hl1 hl2 hpf hdf hx hsl hu hsv hz hxu
            generalize l.1.num = m1 at *
            generalize (l.1.den : Int) = m2 at *
            generalize l.2.num = m3 at *
            generalize (l.2.den : Int) = m4 at *
            generalize d.num = d1 at *
            generalize (d.den : Int) = d2 at *
            obtain ⟨x1, hx1⟩ : ∃ q, q = x.num := ⟨_, rfl⟩
            obtain ⟨x2, hx2⟩ : ∃ q, q = (x.den : Int) := ⟨_, rfl⟩
            rw [← hx1, ← hx2] at H2 H3 H4
            have HX := Lib.hid (And.intro hx1 hx2); clear hx1 hx2
            have e1 : (d1 == 0) = false := by simpa using hd0
            have e2 : decide (d1 = 0) = false := decide_eq_false hd0
            go_enter Try.func49, Try.ntmps49
            go_upto_region 4 with (go_at_call 45; (with_reducible refine ((unhide HLN) _ (own_below (unhide HA) ?pb) ((unhide HW).below ?pb)).mono ?_); (case pb => exact (by repeat (first | with_reducible exact Below.refl _ _ | with_reducible assumption | (with_reducible refine Below.trans ?_ (Below.mono (by assumption) (by first | omega | (simp <;> omega)))) | with_reducible apply Below.drew | with_reducible apply below_drewN | (with_reducible refine Below.alloc ?_ (by first | omega | (simp <;> omega)) _) | (with_reducible refine Below.setCell ?_ (by first | omega | (simp <;> omega)) _)))); rintro e w1 ⟨rfl, hbw1⟩; have hs1 := hbw1.size; (skip; (try ((have kw1w0 := (bnew hbw1) (w.heap.size) ?pf); (case pf => (first | omega | (simp; done) | (simp; omega))); obtain ⟨kcw1w0, kfw1w0, klw1w0⟩ := kw1w0))))
            have hb0 : Below w.heap.size w ((w1.alloc (.cells #[.int .i64 m1, .int .i64 m2] 26)).alloc (.cells #[.int .i64 m3, .int .i64 m4] 26)) := (by repeat (first | with_reducible exact Below.refl _ _ | with_reducible assumption | (with_reducible refine Below.trans ?_ (Below.mono (by assumption) (by first | omega | (simp <;> omega)))) | with_reducible apply Below.drew | with_reducible apply below_drewN | (with_reducible refine Below.alloc ?_ (by first | omega | (simp <;> omega)) _) | (with_reducible refine Below.setCell ?_ (by first | omega | (simp <;> omega)) _)))
            have M0 : ((w1.alloc (.cells #[.int .i64 m1, .int .i64 m2] 26)).alloc (.cells #[.int .i64 m3, .int .i64 m4] 26)).cell? ⟨w1.heap.size, 0, none⟩ = some (.int .i64 m1) := by simp [go_sem]
            have M1 : ((w1.alloc (.cells #[.int .i64 m1, .int .i64 m2] 26)).alloc (.cells #[.int .i64 m3, .int .i64 m4] 26)).cell? ⟨w1.heap.size, 1, none⟩ = some (.int .i64 m2) := by simp [go_sem]
            have B0 : ((w1.alloc (.cells #[.int .i64 m1, .int .i64 m2] 26)).alloc (.cells #[.int .i64 m3, .int .i64 m4] 26)).cell? ⟨w1.heap.size + 1, 0, none⟩ = some (.int .i64 m3) := by simp [go_sem]
            have B1 : ((w1.alloc (.cells #[.int .i64 m1, .int .i64 m2] 26)).alloc (.cells #[.int .i64 m3, .int .i64 m4] 26)).cell? ⟨w1.heap.size + 1, 1, none⟩ = some (.int .i64 m4) := by simp [go_sem]
            have r0 : ((w1.alloc (.cells #[.int .i64 m1, .int .i64 m2] 26)).alloc (.cells #[.int .i64 m3, .int .i64 m4] 26)).cell? ⟨w.heap.size, 0, none⟩ = some (.int .i64 0) := by simp [go_sem, *]
            have r1 : ((w1.alloc (.cells #[.int .i64 m1, .int .i64 m2] 26)).alloc (.cells #[.int .i64 m3, .int .i64 m4] 26)).cell? ⟨w.heap.size, 1, none⟩ = some (.int .i64 0) := by simp [go_sem, *]
            have rf : ∀ o, ((w1.alloc (.cells #[.int .i64 m1, .int .i64 m2] 26)).alloc (.cells #[.int .i64 m3, .int .i64 m4] 26)).frozen? ⟨w.heap.size, o, none⟩ = false := by intro o; simp [go_sem, *]
            have lM : w1.heap.size < ((w1.alloc (.cells #[.int .i64 m1, .int .i64 m2] 26)).alloc (.cells #[.int .i64 m3, .int .i64 m4] 26)).heap.size := by simp; omega
            have lB : w1.heap.size + 1 < ((w1.alloc (.cells #[.int .i64 m1, .int .i64 m2] 26)).alloc (.cells #[.int .i64 m3, .int .i64 m4] 26)).heap.size := by simp
            have lR : w.heap.size < ((w1.alloc (.cells #[.int .i64 m1, .int .i64 m2] 26)).alloc (.cells #[.int .i64 m3, .int .i64 m4] 26)).heap.size := by simp; omega
            generalize ((w1.alloc (.cells #[.int .i64 m1, .int .i64 m2] 26)).alloc (.cells #[.int .i64 m3, .int .i64 m4] 26)) = wq at *
            generalize w1.heap.size = M at *
            have HB0 := hide hb0
            clear hb0 hbw1 hs1 kcw1w0 kfw1w0 klw1w0
            go_cut [10, 11] (fun s10 s11 wx => s11 = .bool true ∧ ∃ D : Nat, s10 = .pointer (some ⟨D, 0, none⟩) ∧ Box2 wq wx D d1 d2)
            case first =>
              go_region_held3 (fun w' => w'.cell? ⟨M, 0, none⟩ = some (.int .i64 m1) ∧ w'.cell? ⟨M, 1, none⟩ = some (.int .i64 m2)) (simp [go_sem, *])
                (first | (go_at_call 83; (with_reducible refine (raInt_any 1 _).mono ?_); rintro e w3 ⟨rfl, hbw3⟩; obtain ⟨hcw3, hfw3⟩ := bcell hbw3; have hzw3 := hbw3.size; (try simp at hzw3); (try ((have kw3MX0 := (bnew hbw3) (M) ?pf); (case pf => (first | omega | (simp; done) | (simp; omega))); obtain ⟨kcw3MX0, kfw3MX0, klw3MX0⟩ := kw3MX0)); (try ((have kw3wq0 := (bnew hbw3) (wq.heap.size) ?pf); (case pf => (first | omega | (simp; done) | (simp; omega))); obtain ⟨kcw3wq0, kfw3wq0, klw3wq0⟩ := kw3wq0))) | (go_at_call 86; (with_reducible refine ((unhide H1) _).mono ?_); rintro e w4 ⟨rfl, hbw4⟩; obtain ⟨hcw4, hfw4⟩ := bcell hbw4; have hzw4 := hbw4.size; (try simp at hzw4); (try ((have kw4MX0 := (bnew hbw4) (M) ?pf); (case pf => (first | omega | (simp; done) | (simp; omega))); obtain ⟨kcw4MX0, kfw4MX0, klw4MX0⟩ := kw4MX0)); (try ((have kw4wq0 := (bnew hbw4) (wq.heap.size) ?pf); (case pf => (first | omega | (simp; done) | (simp; omega))); obtain ⟨kcw4wq0, kfw4wq0, klw4wq0⟩ := kw4wq0)); (try ((have kw4w30 := (bnew hbw4) (w3.heap.size) ?pf); (case pf => (first | omega | (simp; done) | (simp; omega))); obtain ⟨kcw4w30, kfw4w30, klw4w30⟩ := kw4w30))))
              all_goals
                go_wp2_with fail
                go_meet
                refine ⟨rfl, _, rfl, ⟨(by repeat (first | with_reducible exact Below.refl _ _ | with_reducible assumption | (with_reducible refine Below.trans ?_ (Below.mono (by assumption) (by first | omega | (simp <;> omega)))) | with_reducible apply Below.drew | with_reducible apply below_drewN | (with_reducible refine Below.alloc ?_ (by first | omega | (simp <;> omega)) _) | (with_reducible refine Below.setCell ?_ (by first | omega | (simp <;> omega)) _))), ?_, ?_, ?_, ?_, ?_, ?_⟩⟩
              all_goals first | (go_simp; done) | (simp [go_sem, *]; done) | omega | (simp; omega)
            case rest =>
            obtain ⟨rfl, D, rfl, hB⟩ := hcut
            have hbc := hB.below; have D0 := hB.c0; have D1 := hB.c1; have lD := hB.hi; have hDlo := hB.lo
            replace B0 := (hbc.cell (p := ⟨M + 1, 0, none⟩) lB).trans B0
            replace B1 := (hbc.cell (p := ⟨M + 1, 1, none⟩) lB).trans B1
            replace r0 := (hbc.cell (p := ⟨w.heap.size, 0, none⟩) lR).trans r0
            replace r1 := (hbc.cell (p := ⟨w.heap.size, 1, none⟩) lR).trans r1
            replace rf := fun o => (hbc.frozen (p := ⟨w.heap.size, o, none⟩) lR).trans (rf o)
            replace lB := Nat.lt_of_lt_of_le lB hbc.size
            replace lR := Nat.lt_of_lt_of_le lR hbc.size
            have hb1 := (unhide HB0).trans (hbc.mono (unhide HB0).size)
            clear hB hbc M0 M1
            obtain ⟨wa, rfl⟩ : ∃ x, x = wc := ⟨wc, rfl⟩
            have hbA := hb1
            go_wp2_with (first
              | (go_at_call 91; (with_reducible refine ((unhide H2) _).mono ?_); rintro e w5 ⟨rfl, hbw5⟩; obtain ⟨hcw5, hfw5⟩ := bcell hbw5; have hzw5 := hbw5.size; (try simp at hzw5); (try ((have kw5w0 := (bnew hbw5) (w.heap.size) ?pf); (case pf => (first | omega | (simp; done) | (simp; omega))); obtain ⟨kcw5w0, kfw5w0, klw5w0⟩ := kw5w0)); (try ((have kw5MX0 := (bnew hbw5) (M) ?pf); (case pf => (first | omega | (simp; done) | (simp; omega))); obtain ⟨kcw5MX0, kfw5MX0, klw5MX0⟩ := kw5MX0)); (try ((have kw5MX1 := (bnew hbw5) (M + 1) ?pf); (case pf => (first | omega | (simp; done) | (simp; omega))); obtain ⟨kcw5MX1, kfw5MX1, klw5MX1⟩ := kw5MX1)); (try ((have kw5DX0 := (bnew hbw5) (D) ?pf); (case pf => (first | omega | (simp; done) | (simp; omega))); obtain ⟨kcw5DX0, kfw5DX0, klw5DX0⟩ := kw5DX0)))
              | (go_at_call 52; (with_reducible refine ((unhide H3) _).mono ?_); rintro e w6 ⟨rfl, hbw6⟩; obtain ⟨hcw6, hfw6⟩ := bcell hbw6; have hzw6 := hbw6.size; (try simp at hzw6); (try ((have kw6w0 := (bnew hbw6) (w.heap.size) ?pf); (case pf => (first | omega | (simp; done) | (simp; omega))); obtain ⟨kcw6w0, kfw6w0, klw6w0⟩ := kw6w0)); (try ((have kw6w50 := (bnew hbw6) (w5.heap.size) ?pf); (case pf => (first | omega | (simp; done) | (simp; omega))); obtain ⟨kcw6w50, kfw6w50, klw6w50⟩ := kw6w50)))
              | (go_at_call 92; (with_reducible refine ((unhide H4) _ (own_below (unhide HA) ?pb) ((unhide HW).below ?pb)).mono ?_); (case pb => exact (by repeat (first | with_reducible exact Below.refl _ _ | with_reducible assumption | (with_reducible refine Below.trans ?_ (Below.mono (by assumption) (by first | omega | (simp <;> omega)))) | with_reducible apply Below.drew | with_reducible apply below_drewN | (with_reducible refine Below.alloc ?_ (by first | omega | (simp <;> omega)) _) | (with_reducible refine Below.setCell ?_ (by first | omega | (simp <;> omega)) _)))); rintro e w7 ⟨i, k, rfl, hik, hbw7⟩; have hs7 := hbw7.size; (skip; (try ((have kw7w0 := (bnew hbw7) (w.heap.size) ?pf); (case pf => (first | omega | (simp; done) | (simp; omega))); obtain ⟨kcw7w0, kfw7w0, klw7w0⟩ := kw7w0)); (try ((have kw7w50 := (bnew hbw7) (w5.heap.size) ?pf); (case pf => (first | omega | (simp; done) | (simp; omega))); obtain ⟨kcw7w50, kfw7w50, klw7w50⟩ := kw7w50))); have HIK := Lib.hid hik; clear hik))
            exact bodyPost_ret (v := .tuple #[.agg #[.int .i64 (x1), .int .i64 (x2)], .bool i, .bool k]) (by simp [results, Try.results49, go_sem, *]) rfl ⟨fun y hy => (by
              rw [HOO.out] at hy
              cases z with
              | false => cases hy
              | true =>
                obtain rfl := Option.some.inj hy
                have h := HIK.out
                rw [Bool.and_eq_true] at h
                rw [h.1, h.2, HX.out.1, HX.out.2]), fun h => (by
              rw [HOO.out] at h
              cases z with
              | true => cases h
              | false => exact ⟨x1, x2, i, k, rfl, HIK.out⟩), (by repeat (first | with_reducible exact Below.refl _ _ | with_reducible assumption | (with_reducible refine Below.trans ?_ (Below.mono (by assumption) (by first | omega | (simp <;> omega)))) | with_reducible apply Below.drew | with_reducible apply below_drewN | (with_reducible refine Below.alloc ?_ (by first | omega | (simp <;> omega)) _) | (with_reducible refine Below.setCell ?_ (by first | omega | (simp <;> omega)) _)))⟩

set_option maxRecDepth 100000 in
set_option maxHeartbeats 1600000 in
theorem sSolveWord_any (A : Option Addr) (n c base : Nat) (ps : List Pt) (g1 n1 c1 b1 : Nat) (r : List Int) (w : World) (ha : w.ownsRow base 62 4 (.slice A n c) n (ptcs ps)) (hn : n ≤ 1048576)
    (h1 : w.ownsRow b1 3 1 (.slice (some ⟨g1, 0, none⟩) n1 c1) n1 (ints r)) (hn1 : n1 ≤ 1048576) :
    Calls Try.prog 20 #[.slice A n c, .slice (some ⟨g1, 0, none⟩) n1 c1] w fun e w' => e = .returned (.tuple #[.agg #[.int .i64 (oN (svO ps r)), .int .i64 (oD (svO ps r))], .bool (svO ps r).isSome]) ∧ Below w.heap.size w w' := by
  have hrl : r.length = n1 := by have := h1.1; rw [ints_len] at this; omega
  have hwg := fun W hW hw => peGood_any A n c base ps g1 n1 c1 r W hW hn hw hn1 hrl
  have hWC := WCells.own h1
  have HA := hide ha; have HWC := hide hWC
  rcases hz : peB ps r with _ | _
  · rw [svO_no hz]
    rw [hz] at hwg
    have HWG := hide hwg
    clear hz ha h1 hrl hwg hWC
    go_enter Try.func20, Try.ntmps20
    go_wp2_with (go_at_call 44; (with_reducible refine ((unhide HWG) _ (own_below (unhide HA) ?pb) ((unhide HWC).below ?pb)).mono ?_); (case pb => exact (by repeat (first | with_reducible exact Below.refl _ _ | with_reducible assumption | (with_reducible refine Below.trans ?_ (Below.mono (by assumption) (by first | omega | (simp <;> omega)))) | with_reducible apply Below.drew | with_reducible apply below_drewN | (with_reducible refine Below.alloc ?_ (by first | omega | (simp <;> omega)) _) | (with_reducible refine Below.setCell ?_ (by first | omega | (simp <;> omega)) _)))); rintro e w1 ⟨rfl, hbw1⟩; have hs1 := hbw1.size; (skip; (try ((have kw1w0 := (bnew hbw1) (w.heap.size) ?pf); (case pf => (first | omega | (simp; done) | (simp; omega))); obtain ⟨kcw1w0, kfw1w0, klw1w0⟩ := kw1w0))))
    exact bodyPost_ret (v := .tuple #[.agg #[.int .i64 (0), .int .i64 (0)], .bool false]) (by simp [results, Try.results20, go_sem, *]) rfl ⟨rfl, (by repeat (first | with_reducible exact Below.refl _ _ | with_reducible assumption | (with_reducible refine Below.trans ?_ (Below.mono (by assumption) (by first | omega | (simp <;> omega)))) | with_reducible apply Below.drew | with_reducible apply below_drewN | (with_reducible refine Below.alloc ?_ (by first | omega | (simp <;> omega)) _) | (with_reducible refine Below.setCell ?_ (by first | omega | (simp <;> omega)) _)))⟩
  · obtain ⟨g, qs, rfl, rfl, hg, hlen, hr8, hin⟩ := peB_facts ha hz
    have hsv := svO_yes hz
    rw [hrl] at hsv
    rw [hz] at hwg
    obtain ⟨o, ho⟩ : ∃ o, o = svO (qs.map qp) r := ⟨_, rfl⟩
    rw [← ho]
    have hps := fun W hW hw => peSolve_q g n c base g1 n1 c1 qs r W hW hg hw hn1 hrl (by omega) hin o (hide (ho.trans hsv))
    clear ho hsv
    rcases o with _ | x
    · have hps' : ∀ W, W.ownsRow base 62 4 (.slice (some ⟨g, 0, none⟩) n c) n (ptcs (qs.map qp)) → WCells W g1 n1 r → Calls Try.prog 49 #[.slice (some ⟨g, 0, none⟩) n c, .slice (some ⟨g1, 0, none⟩) n1 c1] W fun e w' => (∃ (a b : Int) (i k : Bool), e = .returned (.tuple #[.agg #[.int .i64 (a), .int .i64 (b)], .bool i, .bool k]) ∧ (i && k) = false) ∧ Below W.heap.size W w' :=
        fun W hW hw => (hps W hW hw).mono fun e w' h => ⟨h.2.1 rfl, h.2.2⟩
      have HWG := hide hwg; have HPS := hide hps'
      clear hz ha h1 hrl hwg hWC hps hps' hin hr8 hlen
      simp only [oN_none, oD_none, Option.isSome_none]
      go_enter Try.func20, Try.ntmps20
      go_wp2_with (first
        | (go_at_call 44; (with_reducible refine ((unhide HWG) _ (own_below (unhide HA) ?pb) ((unhide HWC).below ?pb)).mono ?_); (case pb => exact (by repeat (first | with_reducible exact Below.refl _ _ | with_reducible assumption | (with_reducible refine Below.trans ?_ (Below.mono (by assumption) (by first | omega | (simp <;> omega)))) | with_reducible apply Below.drew | with_reducible apply below_drewN | (with_reducible refine Below.alloc ?_ (by first | omega | (simp <;> omega)) _) | (with_reducible refine Below.setCell ?_ (by first | omega | (simp <;> omega)) _)))); rintro e w1 ⟨rfl, hbw1⟩; have hs1 := hbw1.size; (skip; (try ((have kw1w0 := (bnew hbw1) (w.heap.size) ?pf); (case pf => (first | omega | (simp; done) | (simp; omega))); obtain ⟨kcw1w0, kfw1w0, klw1w0⟩ := kw1w0))))
        | (go_at_call 49; (with_reducible refine ((unhide HPS) _ (own_below (unhide HA) ?pb) ((unhide HWC).below ?pb)).mono ?_); (case pb => exact (by repeat (first | with_reducible exact Below.refl _ _ | with_reducible assumption | (with_reducible refine Below.trans ?_ (Below.mono (by assumption) (by first | omega | (simp <;> omega)))) | with_reducible apply Below.drew | with_reducible apply below_drewN | (with_reducible refine Below.alloc ?_ (by first | omega | (simp <;> omega)) _) | (with_reducible refine Below.setCell ?_ (by first | omega | (simp <;> omega)) _)))); rintro e w2 ⟨⟨a, b, i, k, rfl, hik⟩, hbw2⟩; have hs2 := hbw2.size; (skip; (try ((have kw2w0 := (bnew hbw2) (w.heap.size) ?pf); (case pf => (first | omega | (simp; done) | (simp; omega))); obtain ⟨kcw2w0, kfw2w0, klw2w0⟩ := kw2w0))); cases i <;> cases k <;> first | (exact absurd hik (by decide)) | (clear hik)))
      all_goals
        (try go_wp2_with fail)
        exact bodyPost_ret (v := .tuple #[.agg #[.int .i64 (0), .int .i64 (0)], .bool false]) (by simp [results, Try.results20, go_sem, *]) rfl ⟨rfl, (by repeat (first | with_reducible exact Below.refl _ _ | with_reducible assumption | (with_reducible refine Below.trans ?_ (Below.mono (by assumption) (by first | omega | (simp <;> omega)))) | with_reducible apply Below.drew | with_reducible apply below_drewN | (with_reducible refine Below.alloc ?_ (by first | omega | (simp <;> omega)) _) | (with_reducible refine Below.setCell ?_ (by first | omega | (simp <;> omega)) _)))⟩
    · have hps' : ∀ W, W.ownsRow base 62 4 (.slice (some ⟨g, 0, none⟩) n c) n (ptcs (qs.map qp)) → WCells W g1 n1 r → Calls Try.prog 49 #[.slice (some ⟨g, 0, none⟩) n c, .slice (some ⟨g1, 0, none⟩) n1 c1] W fun e w' => e = .returned (.tuple #[.agg #[.int .i64 (x.num), .int .i64 (x.den)], .bool true, .bool true]) ∧ Below W.heap.size W w' :=
        fun W hW hw => (hps W hW hw).mono fun e w' h => ⟨h.1 x rfl, h.2.2⟩
      have HWG := hide hwg; have HPS := hide hps'
      clear hz ha h1 hrl hwg hWC hps hps' hin hr8 hlen
      simp only [oN_some, oD_some, Option.isSome_some]
      generalize x.num = x1 at *
      generalize (x.den : Int) = x2 at *
      go_enter Try.func20, Try.ntmps20
      go_wp2_with (first
        | (go_at_call 44; (with_reducible refine ((unhide HWG) _ (own_below (unhide HA) ?pb) ((unhide HWC).below ?pb)).mono ?_); (case pb => exact (by repeat (first | with_reducible exact Below.refl _ _ | with_reducible assumption | (with_reducible refine Below.trans ?_ (Below.mono (by assumption) (by first | omega | (simp <;> omega)))) | with_reducible apply Below.drew | with_reducible apply below_drewN | (with_reducible refine Below.alloc ?_ (by first | omega | (simp <;> omega)) _) | (with_reducible refine Below.setCell ?_ (by first | omega | (simp <;> omega)) _)))); rintro e w1 ⟨rfl, hbw1⟩; have hs1 := hbw1.size; (skip; (try ((have kw1w0 := (bnew hbw1) (w.heap.size) ?pf); (case pf => (first | omega | (simp; done) | (simp; omega))); obtain ⟨kcw1w0, kfw1w0, klw1w0⟩ := kw1w0))))
        | (go_at_call 49; (with_reducible refine ((unhide HPS) _ (own_below (unhide HA) ?pb) ((unhide HWC).below ?pb)).mono ?_); (case pb => exact (by repeat (first | with_reducible exact Below.refl _ _ | with_reducible assumption | (with_reducible refine Below.trans ?_ (Below.mono (by assumption) (by first | omega | (simp <;> omega)))) | with_reducible apply Below.drew | with_reducible apply below_drewN | (with_reducible refine Below.alloc ?_ (by first | omega | (simp <;> omega)) _) | (with_reducible refine Below.setCell ?_ (by first | omega | (simp <;> omega)) _)))); rintro e w2 ⟨rfl, hbw2⟩; have hs2 := hbw2.size; (skip; (try ((have kw2w0 := (bnew hbw2) (w.heap.size) ?pf); (case pf => (first | omega | (simp; done) | (simp; omega))); obtain ⟨kcw2w0, kfw2w0, klw2w0⟩ := kw2w0)))))
      exact bodyPost_ret (v := .tuple #[.agg #[.int .i64 (x1), .int .i64 (x2)], .bool true]) (by simp [results, Try.results20, go_sem, *]) rfl ⟨rfl, (by repeat (first | with_reducible exact Below.refl _ _ | with_reducible assumption | (with_reducible refine Below.trans ?_ (Below.mono (by assumption) (by first | omega | (simp <;> omega)))) | with_reducible apply Below.drew | with_reducible apply below_drewN | (with_reducible refine Below.alloc ?_ (by first | omega | (simp <;> omega)) _) | (with_reducible refine Below.setCell ?_ (by first | omega | (simp <;> omega)) _)))⟩
end Go.Proofs.Ythccdooacbablaa

namespace Go.Proofs.Ythccdooacbablaa
open Go.RowKit Rm

set_option maxRecDepth 100000 in
set_option maxHeartbeats 3200000 in
theorem iSolveWord_any (A : Option Addr) (n c base : Nat) (ps : List Pt) (g1 n1 c1 b1 : Nat) (r : List Int) (w : World) (ha : w.ownsRow base 62 4 (.slice A n c) n (ptcs ps)) (hn : n ≤ 1048576)
    (h1 : w.ownsRow b1 3 1 (.slice (some ⟨g1, 0, none⟩) n1 c1) n1 (ints r)) (_hn1 : n1 ≤ 1048576) :
    Calls Try.prog 21 #[.slice A n c, .slice (some ⟨g1, 0, none⟩) n1 c1] w fun e w' => e = .returned (.tuple #[.agg #[.int .i64 (oN (svO ps r)), .int .i64 (oD (svO ps r))], .bool (svO ps r).isSome]) ∧ Below w.heap.size w w' := by
  rcases hz : peB ps r with _ | _
  · rw [svO_no hz]
    have hwo := fun W hW hW1 => wordOfMap_no A n c base ps g1 n1 c1 b1 r W hW hn hW1 hz
    have HWO := hide hwo; have HA := hide ha; have HW := hide h1
    clear hwo ha h1 hz
    simp only [oN_none, oD_none, Option.isSome_none]
    go_enter Try.func21, Try.ntmps21
    go_wp2_with (go_at_call 47; (with_reducible refine ((unhide HWO) _ (own_below (unhide HA) ?pb) (own_below (unhide HW) ?pc)).mono ?_); (case pb => exact (by repeat (first | with_reducible exact Below.refl _ _ | with_reducible assumption | (with_reducible refine Below.trans ?_ (Below.mono (by assumption) (by first | omega | (simp <;> omega)))) | with_reducible apply Below.drew | with_reducible apply below_drewN | (with_reducible refine Below.alloc ?_ (by first | omega | (simp <;> omega)) _) | (with_reducible refine Below.setCell ?_ (by first | omega | (simp <;> omega)) _)))); (case pc => exact (by repeat (first | with_reducible exact Below.refl _ _ | with_reducible assumption | (with_reducible refine Below.trans ?_ (Below.mono (by assumption) (by first | omega | (simp <;> omega)))) | with_reducible apply Below.drew | with_reducible apply below_drewN | (with_reducible refine Below.alloc ?_ (by first | omega | (simp <;> omega)) _) | (with_reducible refine Below.setCell ?_ (by first | omega | (simp <;> omega)) _)))); rintro e w1 ⟨rfl, hbw1⟩; have hs1 := hbw1.size; (skip; (try ((have kw1w0 := (bnew hbw1) (w.heap.size) ?pf); (case pf => (first | omega | (simp; done) | (simp; omega))); obtain ⟨kcw1w0, kfw1w0, klw1w0⟩ := kw1w0))))
    exact bodyPost_ret (v := .tuple #[.agg #[.int .i64 (0), .int .i64 (0)], .bool false]) (by simp [results, Try.results21, go_sem, *]) rfl ⟨rfl, (by repeat (first | with_reducible exact Below.refl _ _ | with_reducible assumption | (with_reducible refine Below.trans ?_ (Below.mono (by assumption) (by first | omega | (simp <;> omega)))) | with_reducible apply Below.drew | with_reducible apply below_drewN | (with_reducible refine Below.alloc ?_ (by first | omega | (simp <;> omega)) _) | (with_reducible refine Below.setCell ?_ (by first | omega | (simp <;> omega)) _)))⟩
  · obtain ⟨g, qs, rfl, rfl, hg, hlen, hrl, hr8, hin, _⟩ := wordOfMap_yes A n c base ps g1 n1 c1 b1 r w ha hn h1 hz
    have hwo : ∀ W, W.ownsRow base 62 4 (.slice (some ⟨g, 0, none⟩) n c) n (ptcs (qs.map qp)) → W.ownsRow b1 3 1 (.slice (some ⟨g1, 0, none⟩) n1 c1) n1 (ints r) →
        Calls Try.prog 47 #[.slice (some ⟨g, 0, none⟩) n c, .slice (some ⟨g1, 0, none⟩) n1 c1] W fun e w' => (∃ (A2 : Option Addr) (c2 : Nat) (vs : List Value), e = .returned (.tuple #[lwV (.slice A2 n1 c2) (lineK qs r n1), .bool (lineK qs r n1).isSome]) ∧ PcRow w' (W.heap.size + 1) (.slice A2 n1 c2) (wdL qs r) vs) ∧ Below W.heap.size W w' := by
      intro W hW hW1
      obtain ⟨g', qs', e1, e2, _, _, _, _, _, hc⟩ := wordOfMap_yes (some ⟨g, 0, none⟩) n c base (qs.map qp) g1 n1 c1 b1 r W hW hn hW1 hz
      obtain rfl : qs = qs' := by have := congrArg dec e2; rwa [dec_qp, dec_qp] at this
      exact hc
    have hsv := svO_yes hz
    rw [hrl] at hsv
    obtain ⟨o, ho⟩ : ∃ o, o = svO (qs.map qp) r := ⟨_, rfl⟩
    rw [← ho]
    have ho' := ho.trans hsv
    have hwl : (wdL qs r).length = n1 := by unfold wdL; rw [List.length_map, hrl]
    have hf : ∀ x ∈ wdL qs r, fits x.1.1 = true ∧ fits x.2.1 = true := fun x hx => by
      unfold wdL at hx
      obtain ⟨k, hk, rfl⟩ := List.mem_map.1 hx
      have h := hin k hk
      have hkl : k.toNat + 1 < qs.length := by rw [hlen]; omega
      exact ⟨co_fits (hg.cx _ (by omega)), co_fits (hg.cx _ hkl)⟩
    have HA := hide ha; have HW := hide h1
    rcases hlk : lineK qs r n1 with _ | l
    · rw [hlk] at hwo ho'
      obtain rfl : o = none := ho'
      simp only [none_lw, Option.isSome_none] at hwo
      have HWO := hide hwo
      clear hwo ha h1 hz ho hsv hlk hf hwl hin
      simp only [oN_none, oD_none, Option.isSome_none]
      go_enter Try.func21, Try.ntmps21
      go_wp2_with (go_at_call 47; (with_reducible refine ((unhide HWO) _ (own_below (unhide HA) ?pb) (own_below (unhide HW) ?pc)).mono ?_); (case pb => exact (by repeat (first | with_reducible exact Below.refl _ _ | with_reducible assumption | (with_reducible refine Below.trans ?_ (Below.mono (by assumption) (by first | omega | (simp <;> omega)))) | with_reducible apply Below.drew | with_reducible apply below_drewN | (with_reducible refine Below.alloc ?_ (by first | omega | (simp <;> omega)) _) | (with_reducible refine Below.setCell ?_ (by first | omega | (simp <;> omega)) _)))); (case pc => exact (by repeat (first | with_reducible exact Below.refl _ _ | with_reducible assumption | (with_reducible refine Below.trans ?_ (Below.mono (by assumption) (by first | omega | (simp <;> omega)))) | with_reducible apply Below.drew | with_reducible apply below_drewN | (with_reducible refine Below.alloc ?_ (by first | omega | (simp <;> omega)) _) | (with_reducible refine Below.setCell ?_ (by first | omega | (simp <;> omega)) _)))); rintro e w1 ⟨⟨A2, c2, vs, rfl, _⟩, hbw1⟩; have hs1 := hbw1.size; (skip; (try ((have kw1w0 := (bnew hbw1) (w.heap.size) ?pf); (case pf => (first | omega | (simp; done) | (simp; omega))); obtain ⟨kcw1w0, kfw1w0, klw1w0⟩ := kw1w0))))
      exact bodyPost_ret (v := .tuple #[.agg #[.int .i64 (0), .int .i64 (0)], .bool false]) (by simp [results, Try.results21, go_sem, *]) rfl ⟨rfl, (by repeat (first | with_reducible exact Below.refl _ _ | with_reducible assumption | (with_reducible refine Below.trans ?_ (Below.mono (by assumption) (by first | omega | (simp <;> omega)))) | with_reducible apply Below.drew | with_reducible apply below_drewN | (with_reducible refine Below.alloc ?_ (by first | omega | (simp <;> omega)) _) | (with_reducible refine Below.setCell ?_ (by first | omega | (simp <;> omega)) _)))⟩
    · obtain ⟨hl1, hl2⟩ := lineK_fits hlk
      rw [hlk] at hwo ho'
      obtain ⟨k, rfl⟩ : ∃ k, n1 = k + 1 := ⟨n1 - 1, by omega⟩
      have hso := fun A2 c2 B vs W hW hrow => solutions_q g n c base qs A2 k c2 B (wdL qs r) vs l W hW hg hn hrow hwl (by omega) hf hl1 hl2 o (hide ho')
      obtain ⟨ma, mb⟩ := l
      simp only [some_lw, Option.isSome_some] at hwo
      have HWO := hide hwo
      clear hwo ha h1 hz ho hsv ho' hlk hf hwl hin hl1 hl2
      simp only at hso
      generalize ma.num = m1 at *
      generalize (ma.den : Int) = m2 at *
      generalize mb.num = m3 at *
      generalize (mb.den : Int) = m4 at *
      rcases o with _ | x
      · have hso' : ∀ A2 c2 B vs W, W.ownsRow base 62 4 (.slice (some ⟨g, 0, none⟩) n c) n (ptcs (qs.map qp)) → PcRow W B (.slice A2 (k + 1) c2) (wdL qs r) vs →
            Calls Try.prog 50 #[.agg #[.slice A2 (k + 1) c2, .int .i64 m1, .int .i64 m2, .int .i64 m3, .int .i64 m4], .slice (some ⟨g, 0, none⟩) n c] W fun e w' => (∃ z : Bool, e = .returned (.tuple #[.slice none 0 0, .bool z])) ∧ Below W.heap.size W w' :=
          fun A2 c2 B vs W hW hrow => (hso A2 c2 B vs W hW hrow).mono fun e w' h => ⟨h.2.1 rfl, h.2.2⟩
        have HSO := hide hso'
        clear hso hso'
        simp only [oN_none, oD_none, Option.isSome_none]
        go_enter Try.func21, Try.ntmps21
        go_wp2_with (first
          | (go_at_call 47; (with_reducible refine ((unhide HWO) _ (own_below (unhide HA) ?pb) (own_below (unhide HW) ?pc)).mono ?_); (case pb => exact (by repeat (first | with_reducible exact Below.refl _ _ | with_reducible assumption | (with_reducible refine Below.trans ?_ (Below.mono (by assumption) (by first | omega | (simp <;> omega)))) | with_reducible apply Below.drew | with_reducible apply below_drewN | (with_reducible refine Below.alloc ?_ (by first | omega | (simp <;> omega)) _) | (with_reducible refine Below.setCell ?_ (by first | omega | (simp <;> omega)) _)))); (case pc => exact (by repeat (first | with_reducible exact Below.refl _ _ | with_reducible assumption | (with_reducible refine Below.trans ?_ (Below.mono (by assumption) (by first | omega | (simp <;> omega)))) | with_reducible apply Below.drew | with_reducible apply below_drewN | (with_reducible refine Below.alloc ?_ (by first | omega | (simp <;> omega)) _) | (with_reducible refine Below.setCell ?_ (by first | omega | (simp <;> omega)) _)))); rintro e w1 ⟨⟨A2, c2, vs, rfl, hrow⟩, hbw1⟩; have hs1 := hbw1.size; (skip; (try ((have kw1w0 := (bnew hbw1) (w.heap.size) ?pf); (case pf => (first | omega | (simp; done) | (simp; omega))); obtain ⟨kcw1w0, kfw1w0, klw1w0⟩ := kw1w0))); have HROW := hide hrow; clear hrow)
          | (go_at_call 50; (with_reducible refine ((unhide HSO) _ _ _ _ _ (own_below (unhide HA) ?pb) ((unhide HROW).below ?pc)).mono ?_); (case pb => exact (by repeat (first | with_reducible exact Below.refl _ _ | with_reducible assumption | (with_reducible refine Below.trans ?_ (Below.mono (by assumption) (by first | omega | (simp <;> omega)))) | with_reducible apply Below.drew | with_reducible apply below_drewN | (with_reducible refine Below.alloc ?_ (by first | omega | (simp <;> omega)) _) | (with_reducible refine Below.setCell ?_ (by first | omega | (simp <;> omega)) _)))); (case pc => exact (by repeat (first | with_reducible exact Below.refl _ _ | with_reducible assumption | (with_reducible refine Below.trans ?_ (Below.mono (by assumption) (by first | omega | (simp <;> omega)))) | with_reducible apply Below.drew | with_reducible apply below_drewN | (with_reducible refine Below.alloc ?_ (by first | omega | (simp <;> omega)) _) | (with_reducible refine Below.setCell ?_ (by first | omega | (simp <;> omega)) _)))); rintro e w2 ⟨⟨z, rfl⟩, hbw2⟩; have hs2 := hbw2.size; (skip; (try ((have kw2w0 := (bnew hbw2) (w.heap.size) ?pf); (case pf => (first | omega | (simp; done) | (simp; omega))); obtain ⟨kcw2w0, kfw2w0, klw2w0⟩ := kw2w0))); cases z))
        all_goals
          (try go_wp2_with fail)
          exact bodyPost_ret (v := .tuple #[.agg #[.int .i64 (0), .int .i64 (0)], .bool false]) (by simp [results, Try.results21, go_sem, *]) rfl ⟨rfl, (by repeat (first | with_reducible exact Below.refl _ _ | with_reducible assumption | (with_reducible refine Below.trans ?_ (Below.mono (by assumption) (by first | omega | (simp <;> omega)))) | with_reducible apply Below.drew | with_reducible apply below_drewN | (with_reducible refine Below.alloc ?_ (by first | omega | (simp <;> omega)) _) | (with_reducible refine Below.setCell ?_ (by first | omega | (simp <;> omega)) _)))⟩
      · have hso' : ∀ A2 c2 B vs W, W.ownsRow base 62 4 (.slice (some ⟨g, 0, none⟩) n c) n (ptcs (qs.map qp)) → PcRow W B (.slice A2 (k + 1) c2) (wdL qs r) vs →
            Calls Try.prog 50 #[.agg #[.slice A2 (k + 1) c2, .int .i64 m1, .int .i64 m2, .int .i64 m3, .int .i64 m4], .slice (some ⟨g, 0, none⟩) n c] W fun e w' =>
              (∃ gs : Nat, e = .returned (.tuple #[.slice (some ⟨gs, 0, none⟩) 1 1, .bool true]) ∧ gs < w'.heap.size ∧ w'.cell? ⟨gs, 0, none⟩ = some (.int .i64 x.num) ∧ w'.cell? ⟨gs, 1, none⟩ = some (.int .i64 x.den)) ∧ Below W.heap.size W w' :=
          fun A2 c2 B vs W hW hrow => (hso A2 c2 B vs W hW hrow).mono fun e w' h => ⟨h.1 x rfl, h.2.2⟩
        have HSO := hide hso'
        clear hso hso'
        simp only [oN_some, oD_some, Option.isSome_some]
        generalize x.num = x1 at *
        generalize (x.den : Int) = x2 at *
        go_enter Try.func21, Try.ntmps21
        go_wp2_with (first
          | (go_at_call 47; (with_reducible refine ((unhide HWO) _ (own_below (unhide HA) ?pb) (own_below (unhide HW) ?pc)).mono ?_); (case pb => exact (by repeat (first | with_reducible exact Below.refl _ _ | with_reducible assumption | (with_reducible refine Below.trans ?_ (Below.mono (by assumption) (by first | omega | (simp <;> omega)))) | with_reducible apply Below.drew | with_reducible apply below_drewN | (with_reducible refine Below.alloc ?_ (by first | omega | (simp <;> omega)) _) | (with_reducible refine Below.setCell ?_ (by first | omega | (simp <;> omega)) _)))); (case pc => exact (by repeat (first | with_reducible exact Below.refl _ _ | with_reducible assumption | (with_reducible refine Below.trans ?_ (Below.mono (by assumption) (by first | omega | (simp <;> omega)))) | with_reducible apply Below.drew | with_reducible apply below_drewN | (with_reducible refine Below.alloc ?_ (by first | omega | (simp <;> omega)) _) | (with_reducible refine Below.setCell ?_ (by first | omega | (simp <;> omega)) _)))); rintro e w1 ⟨⟨A2, c2, vs, rfl, hrow⟩, hbw1⟩; have hs1 := hbw1.size; (skip; (try ((have kw1w0 := (bnew hbw1) (w.heap.size) ?pf); (case pf => (first | omega | (simp; done) | (simp; omega))); obtain ⟨kcw1w0, kfw1w0, klw1w0⟩ := kw1w0))); have HROW := hide hrow; clear hrow)
          | (go_at_call 50; (with_reducible refine ((unhide HSO) _ _ _ _ _ (own_below (unhide HA) ?pb) ((unhide HROW).below ?pc)).mono ?_); (case pb => exact (by repeat (first | with_reducible exact Below.refl _ _ | with_reducible assumption | (with_reducible refine Below.trans ?_ (Below.mono (by assumption) (by first | omega | (simp <;> omega)))) | with_reducible apply Below.drew | with_reducible apply below_drewN | (with_reducible refine Below.alloc ?_ (by first | omega | (simp <;> omega)) _) | (with_reducible refine Below.setCell ?_ (by first | omega | (simp <;> omega)) _)))); (case pc => exact (by repeat (first | with_reducible exact Below.refl _ _ | with_reducible assumption | (with_reducible refine Below.trans ?_ (Below.mono (by assumption) (by first | omega | (simp <;> omega)))) | with_reducible apply Below.drew | with_reducible apply below_drewN | (with_reducible refine Below.alloc ?_ (by first | omega | (simp <;> omega)) _) | (with_reducible refine Below.setCell ?_ (by first | omega | (simp <;> omega)) _)))); rintro e w2 ⟨⟨gs, rfl, hgs, z0, z1⟩, hbw2⟩; have hs2 := hbw2.size; (skip; (try ((have kw2w0 := (bnew hbw2) (w.heap.size) ?pf); (case pf => (first | omega | (simp; done) | (simp; omega))); obtain ⟨kcw2w0, kfw2w0, klw2w0⟩ := kw2w0)))))
        exact bodyPost_ret (v := .tuple #[.agg #[.int .i64 (x1), .int .i64 (x2)], .bool true]) (by simp [results, Try.results21, go_sem, *]) rfl ⟨rfl, (by repeat (first | with_reducible exact Below.refl _ _ | with_reducible assumption | (with_reducible refine Below.trans ?_ (Below.mono (by assumption) (by first | omega | (simp <;> omega)))) | with_reducible apply Below.drew | with_reducible apply below_drewN | (with_reducible refine Below.alloc ?_ (by first | omega | (simp <;> omega)) _) | (with_reducible refine Below.setCell ?_ (by first | omega | (simp <;> omega)) _)))⟩
end Go.Proofs.Ythccdooacbablaa

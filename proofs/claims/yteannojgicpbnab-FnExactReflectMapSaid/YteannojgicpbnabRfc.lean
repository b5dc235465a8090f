/-
  Chapter 2: ReflectMap of the program.
-/
import Derived.Test.YteannojgicpbnabRfi
namespace Go.Proofs.Yteannojgicpbnab
open Go.RowKit Go.Shelf Rm
attribute [local go_sem] Oper.semAt_some

section
variable {P : Program} {ops : Array Oper} {Q : Exit → Act → World → Prop} {md : Region.Mode} {S : World → Prop} {l0 n : Nat}
/-- In a round, under the wide fence, an operation that is no defer goes as everywhere. -/
theorem wpIn_of_wp_op {o : Oper} {a : Act} {w : World} {K : Act → World → Prop} (hd : ∀ c, o.op ≠ .defer c) (h : o.wp P a w K Q) : o.wpIn (Fence.wide.inRound l0) n P a w K Q := by
  unfold Oper.wpIn
  refine ⟨fun _ _ => trivial, ?_⟩
  rw [show (Fence.wide.inRound l0).round = some l0 from rfl, Oper.semAt_some l0 a.eval o hd]
  unfold Oper.wp at h
  generalize (execOp a.eval o).run P w = r at *
  cases r with
  | ok x w' =>
    cases x with
    | enter f args => exact ⟨fun h' => by simp [Fence.wide] at h', CallsIn.inRound l0 (callsIn_wide.2 h)⟩
    | row row args => exact ⟨fun h' => by simp [Fence.wide] at h', fun c cs _ => let ⟨v, w', r, s⟩ := h c cs; ⟨v, w', r, stepsIn_wide.2 s⟩⟩
    | _ => first | exact h | exact (h : False).elim
  | halt x w' =>
    cases x <;> first | exact h | exact (h : False).elim
theorem wpAnyIn_of_wpAny (hd : ∀ (j : Nat) (o : Oper), ops[j]? = some o → ∀ c, o.op ≠ .defer c) (hout : ¬ LetsOut Q) : ∀ (fuel : Nat) (l : Array Bool) (a : Act) (w : World), wpAny P md ops Q fuel l a w → wpAnyIn (Fence.wide.inRound l0) n P md ops Q fuel l a w
  | 0, _, _, _, h => h
  | fuel + 1, l, a, w, h => by
    refine ⟨h.1, fun i hi => ?_⟩
    have h1 := h.2 i hi
    unfold wpOp at h1
    unfold wpOpIn
    cases ho : ops[i]? with
    | none => rw [ho] at h1; exact wpAnyIn_of_wpAny hd hout fuel _ a w h1
    | some o =>
      rw [ho] at h1
      simp only at h1 ⊢
      split
      · rename_i hw
        rw [if_pos hw] at h1
        rcases h1 with h1 | h1
        · exact wpIn_of_wp_op (hd i o ho) (Oper.wp_mono (fun a' w' h' => wpAnyIn_of_wpAny hd hout fuel _ a' w' h') h1)
        · exact absurd h1.2 hout
      · rename_i hw
        rw [if_neg hw] at h1
        exact ⟨fun _ _ => trivial, wpAnyIn_of_wpAny hd hout fuel _ _ w h1⟩
def noDefer (ops : Array Oper) : Bool := ops.all fun o => match o.op with | .defer _ => false | _ => true
theorem noDefer_spec (h : noDefer ops = true) (j : Nat) (o : Oper) (ho : ops[j]? = some o) (c : _) : o.op ≠ .defer c := by
  intro e
  unfold noDefer at h
  rw [Array.all_eq_true_iff_forall_mem] at h
  have := h o (Array.mem_of_getElem? ho)
  rw [e] at this
  simp at this
theorem wpIn_region_held {id : Nat} {a : Act} {w : World} (hm : P.follows .mixedOrders = true) (hd : noDefer ops = true) (hout : ¬ LetsOut Q) (hS : S w.drew)
    (h : S w.drew → wpAnyH P .any ops Q S ops.size (Array.replicate ops.size false) a w.drew) : (Code.region id ops true).wpIn (Fence.wide.inRound l0) n P Q a w :=
  wpIn_region_any hm (wpAnyIn_of_wpAny (noDefer_spec hd) hout _ _ _ _ (wpAny_of_held _ _ _ _ (h hS)))
end

/-- A box of a point. -/
structure BoxP (W : World) (Bx : Nat) (a b c d : Int) : Prop where
  lt : Bx < W.heap.size
  c0 : W.cell? ⟨Bx, 0, none⟩ = some (.int .i64 a)
  c1 : W.cell? ⟨Bx, 1, none⟩ = some (.int .i64 b)
  c2 : W.cell? ⟨Bx, 2, none⟩ = some (.int .i64 c)
  c3 : W.cell? ⟨Bx, 3, none⟩ = some (.int .i64 d)
theorem BoxP.kept {W W' : World} {Bx : Nat} {a b c d : Int} {row : Option Nat} (h : BoxP W Bx a b c d) (hg : W.grownBy W' row) (hr : ∀ r, row = some r → ∃ o, W.heap[r]? = some o ∧ o.isCells = false) : BoxP W' Bx a b c d :=
  ⟨Nat.lt_of_lt_of_le h.lt hg.size, cell_kept h.c0 hg hr, cell_kept h.c1 hg hr, cell_kept h.c2 hg hr, cell_kept h.c3 hg hr⟩
theorem keeps_below {W W' : World} (B : Nat) (hb : Below W.heap.size W W') : KeepsFrom B W W' := ⟨hb.size, fun k _ _ hk _ => (hb.block k (Array.getElem?_eq_some_iff.1 hk).1).trans hk⟩
theorem Boxed.below4 {W W' : World} {B : Nat} {t : TypeId} {v : Value} (h : Boxed W B t v) (hb : Below W.heap.size W W') : Boxed W' B t v := (hb.block B h.lt).trans h
theorem KpB_of_below {Bs b N : Nat} {A B : World} (h : Below N A B) (h1 : Bs < N) (h2 : b < N) : KpB Bs b A B := ⟨fun o => h.cell (p := ⟨Bs, o, none⟩) h1, fun o => h.cell (p := ⟨b, o, none⟩) h2⟩

set_option maxRecDepth 100000 in
set_option maxHeartbeats 2000000 in
theorem iReflect_map (g m c base : Nat) (qs : List QP) (w : World) (ha : w.ownsRow base 45 4 (.slice (some ⟨g, 0, none⟩) (m + 1) c) (m + 1) (ptcs (qs.map qp))) (hg : GMap qs) (hm : mapB (qs.map qp) = true) (hn : m + 1 ≤ 1048576) :
    Calls Try.prog 19 #[.slice (some ⟨g, 0, none⟩) (m + 1) c] w fun e w' => ∃ v : Value, e = .returned (.tuple #[v, .bool true]) ∧ w'.ownsRow w.heap.size 45 4 v (m + 1) (ptcs (rfD qs m (m + 1))) ∧ Below w.heap.size w w' := by
  obtain ⟨i0, hi0, hz0, hz1, hz2⟩ := info_parts iPoint
  have hlen : qs.length = m + 1 := by have := own_len ha; rw [List.length_map] at this; exact this
  have hhi := hg.hi
  rw [hlen] at hhi
  have hgl : g < w.heap.size := (ha.lt g rfl).2
  have hmap := isMap_any (some ⟨g, 0, none⟩) (m + 1) c base _ w ha hn
  rw [hm] at hmap
  have HM := hide hmap; clear hmap hm
  have HA := hide ha
  have HL := Lib.hid hlen
  clear ha
  obtain ⟨zs, hzs⟩ : ∃ zs : Nat → CQ, ∀ j, j < m + 1 → (zs j).1 = qAt qs j := by
    refine ⟨fun j => if h : j < qs.length then ⟨qAt qs j, hg.cx j h, hg.cy j h⟩ else ⟨qAt qs 0, hg.cx 0 (by omega), hg.cy 0 (by omega)⟩, fun j hj => ?_⟩
    have hj' : j < qs.length := by omega
    simp [hj']
  refine (callsIn_wide (n := 6)).1 ?_
  refine callsIn_of_wp_marks Try.func19 rfl trivial ?_ rfl
  simp only [Try.ntmps19, List.size_toArray, List.length_cons, List.length_nil, Nat.reduceAdd, Nat.reduceSub, Array.replicate_succ, Array.replicate_zero, List.push_toArray, List.append_toArray, List.nil_append, List.cons_append]
  gi_wp2_with (first | (refine ⟨trivial, ?_⟩; gi_at_call 24; refine (callsIn_wide.2 (unhide HM)).mono ?_; rintro e w1 ⟨rfl, hbw1⟩) | (refine ⟨trivial, ?_⟩; gi_at_call 38; refine (back_in Fence.wide _ trivial rfl _ _ _ _).mono ?_; rintro e w' ⟨rfl, rfl⟩))
  have hzw1 := hbw1.size
  have hgl1 : g < w1.heap.size := by omega
  have bO := Boxed.new w1 27 (.slice none 0 0)
  have bS := Boxed.new (w1.alloc (.cells #[.slice none 0 0] 27)) 27 (.slice (some ⟨g, 0, none⟩) (m + 1) c)
  rw [World.size_alloc] at bS
  have bO2 := bO.alloc (.cells #[.slice (some ⟨g, 0, none⟩) (m + 1) c] 27)
  have hB0 : Below w1.heap.size w1 ((w1.alloc (.cells #[.slice none 0 0] 27)).alloc (.cells #[.slice (some ⟨g, 0, none⟩) (m + 1) c] 27)) := (by repeat (first | with_reducible exact Below.refl _ _ | with_reducible assumption | (with_reducible refine Below.trans ?_ (Below.mono (by assumption) (by first | omega | (simp <;> omega)))) | with_reducible apply Below.drew | with_reducible apply below_drewN | (with_reducible refine Below.alloc ?_ (by first | omega | (simp <;> omega)) _) | (with_reducible refine Below.setCell ?_ (by first | omega | (simp <;> omega)) _)))
  have hszL : ((w1.alloc (.cells #[.slice none 0 0] 27)).alloc (.cells #[.slice (some ⟨g, 0, none⟩) (m + 1) c] 27)).heap.size = w1.heap.size + 1 + 1 := by simp
  generalize hwL : (w1.alloc (.cells #[.slice none 0 0] 27)).alloc (.cells #[.slice (some ⟨g, 0, none⟩) (m + 1) c] 27) = wL at *
  have hA4 : ∀ j, j < m + 1 → At4 wL g j (zs j).1 := by
    intro j hj
    rw [hzs j hj]
    exact q_cells (own_below (own_below (unhide HA) hbw1) hB0) hj
  refine wpIn_rangeFunc_ownH rfl (by omega) (gf := 58) (lb := #[.pointer (some ⟨w1.heap.size + 1, 0, none⟩)]) rfl trivial (enters_of Try.func58 (by kernel_rfl) rfl)
    (back_stops Fence.wide (6 - 1) trivial rfl (by omega) (w1.heap.size + 1) g m c (by omega) zs wL (by omega) (by omega) bS.cell hA4) (fun h h' => KpB.trans h h')
    (fun W l o o' hl ho hc hw => KpB_of_below (belowK_b (w := wL) (Nat.le_refl _) W l o o' hl ho hc hw) (by omega) (by omega)) (Below.refl _ _) (fun _ => rfl)
    (fun pre W => ((∃ v, Boxed W w1.heap.size 27 v ∧ W.ownsRow w1.heap.size 45 4 v pre.length (ptcs (pre.map fun x : Nat × CQ => reflP x.2.1)) ∧ True) ∧ Boxed W (w1.heap.size + 1) 27 (.slice (some ⟨g, 0, none⟩) (m + 1) c)) ∧ Below w1.heap.size w1 W)
    (fun _ _ _ => False)
    (OwnFrom.and (OwnFrom.and (Own.from (holdsRow_own w1.heap.size w1.heap.size 27 45 4 (fun pre : List (Nat × CQ) => pre.length) (fun pre => ptcs (pre.map fun x : Nat × CQ => reflP x.2.1)) (fun _ _ => True)) _) (Own.from (boxed_own (w1.heap.size + 1) 27 (fun _ => .slice (some ⟨g, 0, none⟩) (m + 1) c)) _)) (ownFrom_below (Nat.le_refl _) (by omega)))
    (fun _ _ _ _ _ hs _ _ => hs)
    ⟨⟨⟨_, bO2, World.ownsRow_nil _ _ _ _, trivial⟩, bS⟩, hB0⟩
    (fun x a' W => ∃ Bx, wL.heap.size ≤ Bx ∧ (∃ u, Boxed W w1.heap.size 27 u ∧ u.ownBlock ≠ some Bx) ∧ BoxP W Bx x.2.1.1.num x.2.1.1.den x.2.1.2.num x.2.1.2.den ∧ a' = { tmps := #[.slice (some ⟨g, 0, none⟩) (m + 1) c, undef, .slice none 0 0, .bool false, .pointer (some ⟨w1.heap.size, 0, none⟩), undef, .pointer (some ⟨Bx, 0, none⟩), .slice (some ⟨g, 0, none⟩) (m + 1) c, .bool true, .bool false, .slice (some ⟨g, 0, none⟩) (m + 1) c, .func (.func 58) #[] #[.pointer (some ⟨w1.heap.size + 1, 0, none⟩)], .int .i64 (x.1 : Int), .agg #[.int .i64 (x.2.1.1.num), .int .i64 (x.2.1.1.den), .int .i64 (x.2.1.2.num), .int .i64 (x.2.1.2.den)], undef, undef, undef, undef, undef, undef, undef, undef, undef, undef, undef], defers := [] })
    (fun x a' s W W' row hs hg hr => by
      obtain ⟨Bx, h1, ⟨u, hu, hu2⟩, h2, h3⟩ := hs
      exact ⟨Bx, h1, ⟨u, boxed_own (β := Unit) w1.heap.size 27 (fun _ => u) () W W' row hu hg (fun r hr' => (hr r hr').2), hu2⟩, h2.kept hg (fun r hr' => (hr r hr').2), h3⟩) ?assign ?body ?done ?stop
  case assign =>
    intro l pre x W K hi hK
    obtain ⟨⟨⟨v, hv, hrow, -⟩, hbs⟩, hB⟩ := hi
    have hlW : wL.heap.size ≤ W.heap.size := by have := hbs.lt; omega
    simp only [encB]
    gi_wp2
    refine (fun (hb : Below W.heap.size W _) (hbx : BoxP _ W.heap.size _ _ _ _) => hK _ _ (keeps_below _ hb) (KpB_of_below hb hbs.lt (by omega)) ⟨⟨⟨v, Boxed.below4 hv hb, own_below hrow hb, trivial⟩, Boxed.below4 hbs hb⟩, hB.trans (hb.mono hB.size)⟩ ⟨W.heap.size, hlW, ⟨v, Boxed.below4 hv hb, fun e => by have := (hrow.lt _ e).2; omega⟩, hbx, rfl⟩) ?_ ?_
    · exact (by repeat (first | with_reducible exact Below.refl _ _ | with_reducible assumption | (with_reducible refine Below.trans ?_ (Below.mono (by assumption) (by first | omega | (simp <;> omega)))) | with_reducible apply Below.drew | with_reducible apply below_drewN | (with_reducible refine Below.alloc ?_ (by first | omega | (simp <;> omega)) _) | (with_reducible refine Below.setCell ?_ (by first | omega | (simp <;> omega)) _)))
    · exact ⟨by simp, by simp [go_sem], by simp [go_sem], by simp [go_sem], by simp [go_sem]⟩
  case body =>
    rintro l pre x a' W hl hrl ⟨⟨⟨v, hv, hrow, -⟩, hbs⟩, hB⟩ ⟨Bx, hBx, ⟨u, hu, hu2⟩, hbox, rfl⟩ hlt
    obtain rfl : v = u := by
      have h := hv.symm.trans hu
      simp only [Option.some.injEq, Obj.cells.injEq] at h
      simpa using h
    obtain ⟨A, cc, rfl⟩ := own_slice hrow
    obtain ⟨x0, x1, x2, x3⟩ := co_parts x.2.2.1
    obtain ⟨y0, y1, y2, y3⟩ := co_parts x.2.2.2
    have h1 := fun W => oneMinus_any x.2.1.1.num x.2.1.1.den W x0 x1 (by omega)
    have h2 := fun W => oneMinus_any x.2.1.2.num x.2.1.2.den W y0 y1 (by omega)
    have hsn : ptcs ((pre ++ [x]).map fun x : Nat × CQ => reflP x.2.1) = ptcs (pre.map fun x : Nat × CQ => reflP x.2.1) ++ [.int .i64 (x.2.1.1.den - x.2.1.1.num), .int .i64 x.2.1.1.den, .int .i64 (x.2.1.2.den - x.2.1.2.num), .int .i64 x.2.1.2.den] := by
      rw [List.map_append, ← ptcs_snoc]; rfl
    have HS := Lib.hid hsn
    obtain ⟨hbl, b0, b1, b2, b3⟩ := hbox
    have hn0 := hB.size
    have hob := hv.cell
    have hol := hv.lt
    have hne1 : Bx ≠ w1.heap.size := by omega
    have hne2 : w1.heap.size ≠ Bx := by omega
    have H1 := hide h1; have H2 := hide h2
    have HROW := hide hrow
    have HV := hide hv
    have HNX := hide (fun k (e : (Value.slice A pre.length cc).ownBlock = some k) => (fun (e' : k = Bx) => hu2 (by rw [e, e'])))
    have HBS := hide hbs
    have HB := hide hB
    clear h1 h2 hsn hrow hv hbs hB hu hu2 x0 x1 x2 x3 y0 y1 y2 y3
    generalize x.2.1.1.num = f1 at *
    generalize (x.2.1.1.den : Int) = f2 at *
    generalize x.2.1.2.num = f3 at *
    generalize (x.2.1.2.den : Int) = f4 at *
    generalize f2 - f1 = e1 at *
    generalize f4 - f3 = e3 at *
    gi_wp2
    refine wpIn_region_held (S := (fun w' => w'.cell? ⟨Bx, 0, none⟩ = some (.int .i64 f1) ∧ w'.cell? ⟨Bx, 1, none⟩ = some (.int .i64 f2) ∧ w'.cell? ⟨Bx, 2, none⟩ = some (.int .i64 f3) ∧ w'.cell? ⟨Bx, 3, none⟩ = some (.int .i64 f4))) (by kernel_rfl) (by kernel_rfl) (by rintro ⟨a, w, h⟩; exact h) ?_ (fun hHeld => ?_)
    · ((try dsimp only); (first | (simp [go_sem, *]; done) | simp [go_sem, World.cell?_alloc_past, *]))
    refine wpAnyH_take (i := 1) (oi := _) (v := ?_) (op_at rfl rfl) (by kernel_rfl) (by kernel_rfl) (by kernel_rfl) (fun _ _ _ h => h) (Or.inl ⟨by kernel_rfl, ?_⟩) hHeld ?_
    rotate_left
    · (intro w hSw; (try dsimp only at hSw); go_simp) <;> with_reducible rfl
    try simp only [Act.put, List.setIfInBounds_toArray, List.set_cons_zero, List.set_cons_succ]
    refine wpAnyH_take (i := 2) (oi := _) (v := ?_) (op_at rfl rfl) (by kernel_rfl) (by kernel_rfl) (by kernel_rfl) (fun _ _ _ h => h) (Or.inl ⟨by kernel_rfl, ?_⟩) hHeld ?_
    rotate_left
    · (intro w hSw; (try dsimp only at hSw); go_simp) <;> with_reducible rfl
    try simp only [Act.put, List.setIfInBounds_toArray, List.set_cons_zero, List.set_cons_succ]
    refine wpAnyH_take (i := 4) (oi := _) (v := ?_) (op_at rfl rfl) (by kernel_rfl) (by kernel_rfl) (by kernel_rfl) (fun _ _ _ h => h) (Or.inl ⟨by kernel_rfl, ?_⟩) hHeld ?_
    rotate_left
    · (intro w hSw; (try dsimp only at hSw); go_simp) <;> with_reducible rfl
    try simp only [Act.put, List.setIfInBounds_toArray, List.set_cons_zero, List.set_cons_succ]
    refine wpAnyH_take (i := 5) (oi := _) (v := ?_) (op_at rfl rfl) (by kernel_rfl) (by kernel_rfl) (by kernel_rfl) (fun _ _ _ h => h) (Or.inl ⟨by kernel_rfl, ?_⟩) hHeld ?_
    rotate_left
    · (intro w hSw; (try dsimp only at hSw); go_simp) <;> with_reducible rfl
    try simp only [Act.put, List.setIfInBounds_toArray, List.set_cons_zero, List.set_cons_succ]
    refine wpAnyH_ready (rs := [0, 3]) (by kernel_rfl) (by simp) ?_
    refine AllReadyH.cons (o := _) (op_at rfl rfl) (fun K hK => ?_) ?_
    · go_simp
      refine hK.out _ _ ?_ (fun hHeld => ?_)
      · ((try dsimp only); (first | (simp [go_sem, *]; done) | simp [go_sem, World.cell?_alloc_past, *]))
      clear hK K
      try simp only [Act.put, List.setIfInBounds_toArray, List.set_cons_zero, List.set_cons_succ]
      refine wpAnyH_ready (rs := [3]) (by kernel_rfl) (by simp) ?_
      refine AllReadyH.cons (o := _) (op_at rfl rfl) (fun K hK => ?_) ?_
      · go_simp
        (go_at_call 39; (with_reducible refine ((unhide H1) _).mono ?_); rintro e w3 ⟨rfl, hbw3⟩; obtain ⟨hcw3, hfw3⟩ := bcell hbw3; have hzw3 := hbw3.size; (try simp at hzw3); (try ((have kw3BxX0 := (bnew hbw3) (Bx) ?pf); (case pf => (first | omega | (simp; done) | (simp; omega))); obtain ⟨kcw3BxX0, kfw3BxX0, klw3BxX0⟩ := kw3BxX0)); (try ((have kw3w1.heap.sizeX0 := (bnew hbw3) (w1.heap.size) ?pf); (case pf => (first | omega | (simp; done) | (simp; omega))); obtain ⟨kcw3w1.heap.sizeX0, kfw3w1.heap.sizeX0, klw3w1.heap.sizeX0⟩ := kw3w1.heap.sizeX0)))
        go_wp2_with fail
        refine hK.out _ _ ?_ (fun hHeld => ?_)
        · ((try dsimp only); (first | (simp [go_sem, *]; done) | simp [go_sem, World.cell?_alloc_past, *]))
        clear hK K
        try simp only [Act.put, List.setIfInBounds_toArray, List.set_cons_zero, List.set_cons_succ]
        refine wpAnyH_ready (rs := [6]) (by kernel_rfl) (by simp) ?_
        refine AllReadyH.cons (o := _) (op_at rfl rfl) (fun K hK => ?_) ?_
        · go_simp
          (go_at_call 39; (with_reducible refine ((unhide H2) _).mono ?_); rintro e w4 ⟨rfl, hbw4⟩; obtain ⟨hcw4, hfw4⟩ := bcell hbw4; have hzw4 := hbw4.size; (try simp at hzw4); (try ((have kw4BxX0 := (bnew hbw4) (Bx) ?pf); (case pf => (first | omega | (simp; done) | (simp; omega))); obtain ⟨kcw4BxX0, kfw4BxX0, klw4BxX0⟩ := kw4BxX0)); (try ((have kw4w1.heap.sizeX0 := (bnew hbw4) (w1.heap.size) ?pf); (case pf => (first | omega | (simp; done) | (simp; omega))); obtain ⟨kcw4w1.heap.sizeX0, kfw4w1.heap.sizeX0, klw4w1.heap.sizeX0⟩ := kw4w1.heap.sizeX0)))
          go_wp2_with fail
          refine hK.out _ _ ?_ (fun hHeld => ?_)
          · ((try dsimp only); (first | (simp [go_sem, *]; done) | simp [go_sem, World.cell?_alloc_past, *]))
          clear hK K
          try simp only [Act.put, List.setIfInBounds_toArray, List.set_cons_zero, List.set_cons_succ]
          refine wpAnyH_take (i := 7) (oi := _) (v := ?_) (op_at rfl rfl) (by kernel_rfl) (by kernel_rfl) (by kernel_rfl) (fun _ _ _ h => h) (Or.inl ⟨by kernel_rfl, ?_⟩) hHeld ?_
          rotate_left
          · (intro w hSw; (try dsimp only at hSw); go_simp) <;> with_reducible rfl
          try simp only [Act.put, List.setIfInBounds_toArray, List.set_cons_zero, List.set_cons_succ]
          refine wpAnyH_ready (rs := [8]) (by kernel_rfl) (by simp) ?_
          refine AllReadyH.cons (o := _) (op_at rfl rfl) (fun K hK => ?_) ?_
          · go_simp
            refine hK.out _ _ ?_ (fun hHeld => ?_)
            · ((try dsimp only); (first | (simp [go_sem, *]; done) | simp [go_sem, World.cell?_alloc_past, *]))
            clear hK K
            try simp only [Act.put, List.setIfInBounds_toArray, List.set_cons_zero, List.set_cons_succ]
            refine wpAnyH_ready (rs := [9]) (by kernel_rfl) (by simp) ?_
            refine AllReadyH.cons (o := _) (op_at rfl rfl) (fun K hK => ?_) ?_
            · (refine step_append_any (by rfl) _ _ _ (by rfl) w1.heap.size 45 i0 _ 4 32 Try.underlying27 hi0 hz0 hz1 hz2 rfl (by omega) (.slice A pre.length cc) pre.length _ (by rfl) (((own_below (unhide HROW) (show Below W.heap.size W w4 from (by repeat (first | with_reducible exact Below.refl _ _ | with_reducible assumption | (with_reducible refine Below.trans ?_ (Below.mono (by assumption) (by first | omega | (simp <;> omega)))) | with_reducible apply Below.drew | with_reducible apply below_drewN | (with_reducible refine Below.alloc ?_ (by first | omega | (simp <;> omega)) _) | (with_reducible refine Below.setCell ?_ (by first | omega | (simp <;> omega)) _))))).alloc _)) _ 1 [.int .i64 e1, .int .i64 f2, .int .i64 e3, .int .i64 f4] (by rfl) (.inr ⟨_, _, rfl, World.news_of_block (cs := #[.int .i64 e1, .int .i64 f2, .int .i64 e3, .int .i64 f4]) (t := 45) (fr := (0, 0)) (heap_alloc_new w4 _)⟩) rfl (by simp [Value.oneCell']) (Nat.le_trans (by omega) maxLen_ge) (by omega) (by first | omega | (simp <;> omega)) (pre.length + 1) rfl ?_; intro A5 c5 w5 hown5 hgrow5; have hb4 : Below W.heap.size W w4 := (by repeat (first | with_reducible exact Below.refl _ _ | with_reducible assumption | (with_reducible refine Below.trans ?_ (Below.mono (by assumption) (by first | omega | (simp <;> omega)))) | with_reducible apply Below.drew | with_reducible apply below_drewN | (with_reducible refine Below.alloc ?_ (by first | omega | (simp <;> omega)) _) | (with_reducible refine Below.setCell ?_ (by first | omega | (simp <;> omega)) _))); obtain ⟨hv5, hv6, hr6, hk6, hb6⟩ := (Boxed.below4 (unhide HV) hb4).appended (by decide) (own_below (unhide HROW) hb4) (Nat.le_trans hn0 hb4.size) (Nat.le_refl _) hown5 hgrow5; have hc5 := hv5.cell; have hf5 := hv5.frozen; have hx5 := hgrow5.cell_far ⟨Bx, 0, none⟩ (by simp; omega) (fun e => unhide HNX _ e.symm rfl); have hx5 := fun o => hgrow5.cell_far ⟨Bx, o, none⟩ (by simp; omega) (fun e => unhide HNX _ e.symm rfl))
              refine hK.out _ _ ?_ (fun hHeld => ?_)
              · ((try dsimp only); (first | (simp [go_sem, *]; done) | simp [go_sem, World.cell?_alloc_past, *]))
              clear hK K
              try simp only [Act.put, List.setIfInBounds_toArray, List.set_cons_zero, List.set_cons_succ]
              refine wpAnyH_ready (rs := [10]) (by kernel_rfl) (by simp) ?_
              refine AllReadyH.cons (o := _) (op_at rfl rfl) (fun K hK => ?_) ?_
              · go_simp
                refine hK.out _ _ ?_ (fun hHeld => ?_)
                · ((try dsimp only); (first | (simp [go_sem, *]; done) | simp [go_sem, World.cell?_alloc_past, *]))
                clear hK K
                try simp only [Act.put, List.setIfInBounds_toArray, List.set_cons_zero, List.set_cons_succ]
                refine wpAnyH_done (by kernel_rfl) ?_ _
                refine (fun (hbs6 : Boxed _ (w1.heap.size + 1) 27 (.slice (some ⟨g, 0, none⟩) (m + 1) c)) => ⟨(keeps_below _ hb4).trans (hk6.from _), ⟨fun o => World.cell?_of_block (a := ⟨_, o, none⟩) (hbs6.trans (unhide HBS).symm), fun o => (((hb4.mono hn0).trans hb6).cell (p := ⟨g, o, none⟩) hgl1)⟩, ⟨⟨⟨_, hv6, by rw [HS.out, List.length_append]; exact hr6, trivial⟩, hbs6⟩, (unhide HB).trans ((hb4.mono hn0).trans hb6)⟩⟩) ?_
                exact (((Boxed.below4 (unhide HBS) hb4).alloc _).kept hgrow5 ((unhide HBS).not_row (by decide) (unhide HROW))).other (B' := w1.heap.size) (by omega) _
              exact AllReadyH.nil
            exact AllReadyH.nil
          exact AllReadyH.nil
        exact AllReadyH.nil
      exact AllReadyH.nil
    refine AllReadyH.cons (o := _) (op_at rfl rfl) (fun K hK => ?_) ?_
    · go_simp
      (go_at_call 39; (with_reducible refine ((unhide H1) _).mono ?_); rintro e w3 ⟨rfl, hbw3⟩; obtain ⟨hcw3, hfw3⟩ := bcell hbw3; have hzw3 := hbw3.size; (try simp at hzw3); (try ((have kw3BxX0 := (bnew hbw3) (Bx) ?pf); (case pf => (first | omega | (simp; done) | (simp; omega))); obtain ⟨kcw3BxX0, kfw3BxX0, klw3BxX0⟩ := kw3BxX0)); (try ((have kw3w1.heap.sizeX0 := (bnew hbw3) (w1.heap.size) ?pf); (case pf => (first | omega | (simp; done) | (simp; omega))); obtain ⟨kcw3w1.heap.sizeX0, kfw3w1.heap.sizeX0, klw3w1.heap.sizeX0⟩ := kw3w1.heap.sizeX0)))
      go_wp2_with fail
      refine hK.out _ _ ?_ (fun hHeld => ?_)
      · ((try dsimp only); (first | (simp [go_sem, *]; done) | simp [go_sem, World.cell?_alloc_past, *]))
      clear hK K
      try simp only [Act.put, List.setIfInBounds_toArray, List.set_cons_zero, List.set_cons_succ]
      refine wpAnyH_ready (rs := [0, 6]) (by kernel_rfl) (by simp) ?_
      refine AllReadyH.cons (o := _) (op_at rfl rfl) (fun K hK => ?_) ?_
      · go_simp
        refine hK.out _ _ ?_ (fun hHeld => ?_)
        · ((try dsimp only); (first | (simp [go_sem, *]; done) | simp [go_sem, World.cell?_alloc_past, *]))
        clear hK K
        try simp only [Act.put, List.setIfInBounds_toArray, List.set_cons_zero, List.set_cons_succ]
        refine wpAnyH_ready (rs := [6]) (by kernel_rfl) (by simp) ?_
        refine AllReadyH.cons (o := _) (op_at rfl rfl) (fun K hK => ?_) ?_
        · go_simp
          (go_at_call 39; (with_reducible refine ((unhide H2) _).mono ?_); rintro e w4 ⟨rfl, hbw4⟩; obtain ⟨hcw4, hfw4⟩ := bcell hbw4; have hzw4 := hbw4.size; (try simp at hzw4); (try ((have kw4BxX0 := (bnew hbw4) (Bx) ?pf); (case pf => (first | omega | (simp; done) | (simp; omega))); obtain ⟨kcw4BxX0, kfw4BxX0, klw4BxX0⟩ := kw4BxX0)); (try ((have kw4w1.heap.sizeX0 := (bnew hbw4) (w1.heap.size) ?pf); (case pf => (first | omega | (simp; done) | (simp; omega))); obtain ⟨kcw4w1.heap.sizeX0, kfw4w1.heap.sizeX0, klw4w1.heap.sizeX0⟩ := kw4w1.heap.sizeX0)))
          go_wp2_with fail
          refine hK.out _ _ ?_ (fun hHeld => ?_)
          · ((try dsimp only); (first | (simp [go_sem, *]; done) | simp [go_sem, World.cell?_alloc_past, *]))
          clear hK K
          try simp only [Act.put, List.setIfInBounds_toArray, List.set_cons_zero, List.set_cons_succ]
          refine wpAnyH_take (i := 7) (oi := _) (v := ?_) (op_at rfl rfl) (by kernel_rfl) (by kernel_rfl) (by kernel_rfl) (fun _ _ _ h => h) (Or.inl ⟨by kernel_rfl, ?_⟩) hHeld ?_
          rotate_left
          · (intro w hSw; (try dsimp only at hSw); go_simp) <;> with_reducible rfl
          try simp only [Act.put, List.setIfInBounds_toArray, List.set_cons_zero, List.set_cons_succ]
          refine wpAnyH_ready (rs := [8]) (by kernel_rfl) (by simp) ?_
          refine AllReadyH.cons (o := _) (op_at rfl rfl) (fun K hK => ?_) ?_
          · go_simp
            refine hK.out _ _ ?_ (fun hHeld => ?_)
            · ((try dsimp only); (first | (simp [go_sem, *]; done) | simp [go_sem, World.cell?_alloc_past, *]))
            clear hK K
            try simp only [Act.put, List.setIfInBounds_toArray, List.set_cons_zero, List.set_cons_succ]
            refine wpAnyH_ready (rs := [9]) (by kernel_rfl) (by simp) ?_
            refine AllReadyH.cons (o := _) (op_at rfl rfl) (fun K hK => ?_) ?_
            · (refine step_append_any (by rfl) _ _ _ (by rfl) w1.heap.size 45 i0 _ 4 32 Try.underlying27 hi0 hz0 hz1 hz2 rfl (by omega) (.slice A pre.length cc) pre.length _ (by rfl) (((own_below (unhide HROW) (show Below W.heap.size W w4 from (by repeat (first | with_reducible exact Below.refl _ _ | with_reducible assumption | (with_reducible refine Below.trans ?_ (Below.mono (by assumption) (by first | omega | (simp <;> omega)))) | with_reducible apply Below.drew | with_reducible apply below_drewN | (with_reducible refine Below.alloc ?_ (by first | omega | (simp <;> omega)) _) | (with_reducible refine Below.setCell ?_ (by first | omega | (simp <;> omega)) _))))).alloc _)) _ 1 [.int .i64 e1, .int .i64 f2, .int .i64 e3, .int .i64 f4] (by rfl) (.inr ⟨_, _, rfl, World.news_of_block (cs := #[.int .i64 e1, .int .i64 f2, .int .i64 e3, .int .i64 f4]) (t := 45) (fr := (0, 0)) (heap_alloc_new w4 _)⟩) rfl (by simp [Value.oneCell']) (Nat.le_trans (by omega) maxLen_ge) (by omega) (by first | omega | (simp <;> omega)) (pre.length + 1) rfl ?_; intro A5 c5 w5 hown5 hgrow5; have hb4 : Below W.heap.size W w4 := (by repeat (first | with_reducible exact Below.refl _ _ | with_reducible assumption | (with_reducible refine Below.trans ?_ (Below.mono (by assumption) (by first | omega | (simp <;> omega)))) | with_reducible apply Below.drew | with_reducible apply below_drewN | (with_reducible refine Below.alloc ?_ (by first | omega | (simp <;> omega)) _) | (with_reducible refine Below.setCell ?_ (by first | omega | (simp <;> omega)) _))); obtain ⟨hv5, hv6, hr6, hk6, hb6⟩ := (Boxed.below4 (unhide HV) hb4).appended (by decide) (own_below (unhide HROW) hb4) (Nat.le_trans hn0 hb4.size) (Nat.le_refl _) hown5 hgrow5; have hc5 := hv5.cell; have hf5 := hv5.frozen; have hx5 := hgrow5.cell_far ⟨Bx, 0, none⟩ (by simp; omega) (fun e => unhide HNX _ e.symm rfl); have hx5 := fun o => hgrow5.cell_far ⟨Bx, o, none⟩ (by simp; omega) (fun e => unhide HNX _ e.symm rfl))
              refine hK.out _ _ ?_ (fun hHeld => ?_)
              · ((try dsimp only); (first | (simp [go_sem, *]; done) | simp [go_sem, World.cell?_alloc_past, *]))
              clear hK K
              try simp only [Act.put, List.setIfInBounds_toArray, List.set_cons_zero, List.set_cons_succ]
              refine wpAnyH_ready (rs := [10]) (by kernel_rfl) (by simp) ?_
              refine AllReadyH.cons (o := _) (op_at rfl rfl) (fun K hK => ?_) ?_
              · go_simp
                refine hK.out _ _ ?_ (fun hHeld => ?_)
                · ((try dsimp only); (first | (simp [go_sem, *]; done) | simp [go_sem, World.cell?_alloc_past, *]))
                clear hK K
                try simp only [Act.put, List.setIfInBounds_toArray, List.set_cons_zero, List.set_cons_succ]
                refine wpAnyH_done (by kernel_rfl) ?_ _
                refine (fun (hbs6 : Boxed _ (w1.heap.size + 1) 27 (.slice (some ⟨g, 0, none⟩) (m + 1) c)) => ⟨(keeps_below _ hb4).trans (hk6.from _), ⟨fun o => World.cell?_of_block (a := ⟨_, o, none⟩) (hbs6.trans (unhide HBS).symm), fun o => (((hb4.mono hn0).trans hb6).cell (p := ⟨g, o, none⟩) hgl1)⟩, ⟨⟨⟨_, hv6, by rw [HS.out, List.length_append]; exact hr6, trivial⟩, hbs6⟩, (unhide HB).trans ((hb4.mono hn0).trans hb6)⟩⟩) ?_
                exact (((Boxed.below4 (unhide HBS) hb4).alloc _).kept hgrow5 ((unhide HBS).not_row (by decide) (unhide HROW))).other (B' := w1.heap.size) (by omega) _
              exact AllReadyH.nil
            exact AllReadyH.nil
          exact AllReadyH.nil
        exact AllReadyH.nil
      refine AllReadyH.cons (o := _) (op_at rfl rfl) (fun K hK => ?_) ?_
      · go_simp
        (go_at_call 39; (with_reducible refine ((unhide H2) _).mono ?_); rintro e w4 ⟨rfl, hbw4⟩; obtain ⟨hcw4, hfw4⟩ := bcell hbw4; have hzw4 := hbw4.size; (try simp at hzw4); (try ((have kw4BxX0 := (bnew hbw4) (Bx) ?pf); (case pf => (first | omega | (simp; done) | (simp; omega))); obtain ⟨kcw4BxX0, kfw4BxX0, klw4BxX0⟩ := kw4BxX0)); (try ((have kw4w1.heap.sizeX0 := (bnew hbw4) (w1.heap.size) ?pf); (case pf => (first | omega | (simp; done) | (simp; omega))); obtain ⟨kcw4w1.heap.sizeX0, kfw4w1.heap.sizeX0, klw4w1.heap.sizeX0⟩ := kw4w1.heap.sizeX0)))
        go_wp2_with fail
        refine hK.out _ _ ?_ (fun hHeld => ?_)
        · ((try dsimp only); (first | (simp [go_sem, *]; done) | simp [go_sem, World.cell?_alloc_past, *]))
        clear hK K
        try simp only [Act.put, List.setIfInBounds_toArray, List.set_cons_zero, List.set_cons_succ]
        refine wpAnyH_take (i := 7) (oi := _) (v := ?_) (op_at rfl rfl) (by kernel_rfl) (by kernel_rfl) (by kernel_rfl) (fun _ _ _ h => h) (Or.inl ⟨by kernel_rfl, ?_⟩) hHeld ?_
        rotate_left
        · (intro w hSw; (try dsimp only at hSw); go_simp) <;> with_reducible rfl
        try simp only [Act.put, List.setIfInBounds_toArray, List.set_cons_zero, List.set_cons_succ]
        refine wpAnyH_ready (rs := [0, 8]) (by kernel_rfl) (by simp) ?_
        refine AllReadyH.cons (o := _) (op_at rfl rfl) (fun K hK => ?_) ?_
        · go_simp
          refine hK.out _ _ ?_ (fun hHeld => ?_)
          · ((try dsimp only); (first | (simp [go_sem, *]; done) | simp [go_sem, World.cell?_alloc_past, *]))
          clear hK K
          try simp only [Act.put, List.setIfInBounds_toArray, List.set_cons_zero, List.set_cons_succ]
          refine wpAnyH_ready (rs := [8]) (by kernel_rfl) (by simp) ?_
          refine AllReadyH.cons (o := _) (op_at rfl rfl) (fun K hK => ?_) ?_
          · go_simp
            refine hK.out _ _ ?_ (fun hHeld => ?_)
            · ((try dsimp only); (first | (simp [go_sem, *]; done) | simp [go_sem, World.cell?_alloc_past, *]))
            clear hK K
            try simp only [Act.put, List.setIfInBounds_toArray, List.set_cons_zero, List.set_cons_succ]
            refine wpAnyH_ready (rs := [9]) (by kernel_rfl) (by simp) ?_
            refine AllReadyH.cons (o := _) (op_at rfl rfl) (fun K hK => ?_) ?_
            · (refine step_append_any (by rfl) _ _ _ (by rfl) w1.heap.size 45 i0 _ 4 32 Try.underlying27 hi0 hz0 hz1 hz2 rfl (by omega) (.slice A pre.length cc) pre.length _ (by rfl) (((own_below (unhide HROW) (show Below W.heap.size W w4 from (by repeat (first | with_reducible exact Below.refl _ _ | with_reducible assumption | (with_reducible refine Below.trans ?_ (Below.mono (by assumption) (by first | omega | (simp <;> omega)))) | with_reducible apply Below.drew | with_reducible apply below_drewN | (with_reducible refine Below.alloc ?_ (by first | omega | (simp <;> omega)) _) | (with_reducible refine Below.setCell ?_ (by first | omega | (simp <;> omega)) _))))).alloc _)) _ 1 [.int .i64 e1, .int .i64 f2, .int .i64 e3, .int .i64 f4] (by rfl) (.inr ⟨_, _, rfl, World.news_of_block (cs := #[.int .i64 e1, .int .i64 f2, .int .i64 e3, .int .i64 f4]) (t := 45) (fr := (0, 0)) (heap_alloc_new w4 _)⟩) rfl (by simp [Value.oneCell']) (Nat.le_trans (by omega) maxLen_ge) (by omega) (by first | omega | (simp <;> omega)) (pre.length + 1) rfl ?_; intro A5 c5 w5 hown5 hgrow5; have hb4 : Below W.heap.size W w4 := (by repeat (first | with_reducible exact Below.refl _ _ | with_reducible assumption | (with_reducible refine Below.trans ?_ (Below.mono (by assumption) (by first | omega | (simp <;> omega)))) | with_reducible apply Below.drew | with_reducible apply below_drewN | (with_reducible refine Below.alloc ?_ (by first | omega | (simp <;> omega)) _) | (with_reducible refine Below.setCell ?_ (by first | omega | (simp <;> omega)) _))); obtain ⟨hv5, hv6, hr6, hk6, hb6⟩ := (Boxed.below4 (unhide HV) hb4).appended (by decide) (own_below (unhide HROW) hb4) (Nat.le_trans hn0 hb4.size) (Nat.le_refl _) hown5 hgrow5; have hc5 := hv5.cell; have hf5 := hv5.frozen; have hx5 := hgrow5.cell_far ⟨Bx, 0, none⟩ (by simp; omega) (fun e => unhide HNX _ e.symm rfl); have hx5 := fun o => hgrow5.cell_far ⟨Bx, o, none⟩ (by simp; omega) (fun e => unhide HNX _ e.symm rfl))
              refine hK.out _ _ ?_ (fun hHeld => ?_)
              · ((try dsimp only); (first | (simp [go_sem, *]; done) | simp [go_sem, World.cell?_alloc_past, *]))
              clear hK K
              try simp only [Act.put, List.setIfInBounds_toArray, List.set_cons_zero, List.set_cons_succ]
              refine wpAnyH_ready (rs := [10]) (by kernel_rfl) (by simp) ?_
              refine AllReadyH.cons (o := _) (op_at rfl rfl) (fun K hK => ?_) ?_
              · go_simp
                refine hK.out _ _ ?_ (fun hHeld => ?_)
                · ((try dsimp only); (first | (simp [go_sem, *]; done) | simp [go_sem, World.cell?_alloc_past, *]))
                clear hK K
                try simp only [Act.put, List.setIfInBounds_toArray, List.set_cons_zero, List.set_cons_succ]
                refine wpAnyH_done (by kernel_rfl) ?_ _
                refine (fun (hbs6 : Boxed _ (w1.heap.size + 1) 27 (.slice (some ⟨g, 0, none⟩) (m + 1) c)) => ⟨(keeps_below _ hb4).trans (hk6.from _), ⟨fun o => World.cell?_of_block (a := ⟨_, o, none⟩) (hbs6.trans (unhide HBS).symm), fun o => (((hb4.mono hn0).trans hb6).cell (p := ⟨g, o, none⟩) hgl1)⟩, ⟨⟨⟨_, hv6, by rw [HS.out, List.length_append]; exact hr6, trivial⟩, hbs6⟩, (unhide HB).trans ((hb4.mono hn0).trans hb6)⟩⟩) ?_
                exact (((Boxed.below4 (unhide HBS) hb4).alloc _).kept hgrow5 ((unhide HBS).not_row (by decide) (unhide HROW))).other (B' := w1.heap.size) (by omega) _
              exact AllReadyH.nil
            exact AllReadyH.nil
          exact AllReadyH.nil
        refine AllReadyH.cons (o := _) (op_at rfl rfl) (fun K hK => ?_) ?_
        · go_simp
          refine hK.out _ _ ?_ (fun hHeld => ?_)
          · ((try dsimp only); (first | (simp [go_sem, *]; done) | simp [go_sem, World.cell?_alloc_past, *]))
          clear hK K
          try simp only [Act.put, List.setIfInBounds_toArray, List.set_cons_zero, List.set_cons_succ]
          refine wpAnyH_ready (rs := [0]) (by kernel_rfl) (by simp) ?_
          refine AllReadyH.cons (o := _) (op_at rfl rfl) (fun K hK => ?_) ?_
          · go_simp
            refine hK.out _ _ ?_ (fun hHeld => ?_)
            · ((try dsimp only); (first | (simp [go_sem, *]; done) | simp [go_sem, World.cell?_alloc_past, *]))
            clear hK K
            try simp only [Act.put, List.setIfInBounds_toArray, List.set_cons_zero, List.set_cons_succ]
            refine wpAnyH_ready (rs := [9]) (by kernel_rfl) (by simp) ?_
            refine AllReadyH.cons (o := _) (op_at rfl rfl) (fun K hK => ?_) ?_
            · (refine step_append_any (by rfl) _ _ _ (by rfl) w1.heap.size 45 i0 _ 4 32 Try.underlying27 hi0 hz0 hz1 hz2 rfl (by omega) (.slice A pre.length cc) pre.length _ (by rfl) (((own_below (unhide HROW) (show Below W.heap.size W w4 from (by repeat (first | with_reducible exact Below.refl _ _ | with_reducible assumption | (with_reducible refine Below.trans ?_ (Below.mono (by assumption) (by first | omega | (simp <;> omega)))) | with_reducible apply Below.drew | with_reducible apply below_drewN | (with_reducible refine Below.alloc ?_ (by first | omega | (simp <;> omega)) _) | (with_reducible refine Below.setCell ?_ (by first | omega | (simp <;> omega)) _))))).alloc _)) _ 1 [.int .i64 e1, .int .i64 f2, .int .i64 e3, .int .i64 f4] (by rfl) (.inr ⟨_, _, rfl, World.news_of_block (cs := #[.int .i64 e1, .int .i64 f2, .int .i64 e3, .int .i64 f4]) (t := 45) (fr := (0, 0)) (heap_alloc_new w4 _)⟩) rfl (by simp [Value.oneCell']) (Nat.le_trans (by omega) maxLen_ge) (by omega) (by first | omega | (simp <;> omega)) (pre.length + 1) rfl ?_; intro A5 c5 w5 hown5 hgrow5; have hb4 : Below W.heap.size W w4 := (by repeat (first | with_reducible exact Below.refl _ _ | with_reducible assumption | (with_reducible refine Below.trans ?_ (Below.mono (by assumption) (by first | omega | (simp <;> omega)))) | with_reducible apply Below.drew | with_reducible apply below_drewN | (with_reducible refine Below.alloc ?_ (by first | omega | (simp <;> omega)) _) | (with_reducible refine Below.setCell ?_ (by first | omega | (simp <;> omega)) _))); obtain ⟨hv5, hv6, hr6, hk6, hb6⟩ := (Boxed.below4 (unhide HV) hb4).appended (by decide) (own_below (unhide HROW) hb4) (Nat.le_trans hn0 hb4.size) (Nat.le_refl _) hown5 hgrow5; have hc5 := hv5.cell; have hf5 := hv5.frozen; have hx5 := hgrow5.cell_far ⟨Bx, 0, none⟩ (by simp; omega) (fun e => unhide HNX _ e.symm rfl); have hx5 := fun o => hgrow5.cell_far ⟨Bx, o, none⟩ (by simp; omega) (fun e => unhide HNX _ e.symm rfl))
              refine hK.out _ _ ?_ (fun hHeld => ?_)
              · ((try dsimp only); (first | (simp [go_sem, *]; done) | simp [go_sem, World.cell?_alloc_past, *]))
              clear hK K
              try simp only [Act.put, List.setIfInBounds_toArray, List.set_cons_zero, List.set_cons_succ]
              refine wpAnyH_ready (rs := [10]) (by kernel_rfl) (by simp) ?_
              refine AllReadyH.cons (o := _) (op_at rfl rfl) (fun K hK => ?_) ?_
              · go_simp
                refine hK.out _ _ ?_ (fun hHeld => ?_)
                · ((try dsimp only); (first | (simp [go_sem, *]; done) | simp [go_sem, World.cell?_alloc_past, *]))
                clear hK K
                try simp only [Act.put, List.setIfInBounds_toArray, List.set_cons_zero, List.set_cons_succ]
                refine wpAnyH_done (by kernel_rfl) ?_ _
                refine (fun (hbs6 : Boxed _ (w1.heap.size + 1) 27 (.slice (some ⟨g, 0, none⟩) (m + 1) c)) => ⟨(keeps_below _ hb4).trans (hk6.from _), ⟨fun o => World.cell?_of_block (a := ⟨_, o, none⟩) (hbs6.trans (unhide HBS).symm), fun o => (((hb4.mono hn0).trans hb6).cell (p := ⟨g, o, none⟩) hgl1)⟩, ⟨⟨⟨_, hv6, by rw [HS.out, List.length_append]; exact hr6, trivial⟩, hbs6⟩, (unhide HB).trans ((hb4.mono hn0).trans hb6)⟩⟩) ?_
                exact (((Boxed.below4 (unhide HBS) hb4).alloc _).kept hgrow5 ((unhide HBS).not_row (by decide) (unhide HROW))).other (B' := w1.heap.size) (by omega) _
              exact AllReadyH.nil
            exact AllReadyH.nil
          exact AllReadyH.nil
        exact AllReadyH.nil
      exact AllReadyH.nil
    exact AllReadyH.nil
  case done =>
    rintro D ys W hD rfl ⟨⟨⟨v, hv, hrow, -⟩, hbs⟩, hB⟩ hK
    have hc := hv.cell
    have hup : ∀ k, k ≤ m + 1 → (upto (bkF zs m) k).map (fun x : Nat × CQ => reflP x.2.1) = rfD qs m k := by
      intro k
      induction k with
      | zero => intro _; rfl
      | succ k ih =>
        intro hk
        rw [upto_succ, List.map_append, ih (by omega)]
        show _ ++ [reflP (zs (m - k)).1] = rfD qs m k ++ [reflP (qAt qs (m - k))]
        rw [hzs (m - k) (by omega)]
    rw [hup (m + 1) (Nat.le_refl _), upto_length] at hrow
    gi_wp2
    refine ⟨by simp, .inl ⟨_, _, rfl, run_takeDeferred hK, ?_⟩⟩
    exact ⟨_, results_tmp2 rfl _ _ _, v, rfl, (ownsRow_putObj hrow _ hK rfl).mono hzw1, hbw1.trans ((hB.trans (belowK_b (w := w1) (Nat.le_refl _) W D _ _ (by omega) hK rfl rfl)).mono hzw1)⟩
  case stop =>
    rintro D c pre W _ _ h _
    exact h.elim
end Go.Proofs.Yteannojgicpbnab

/-
  Joined texts: Ze, Zf, Zg, Zh, Zi, Zj.
-/
import Derived.Test.YthccdooacbablaaZd
import Derived.Test.YthccdooacbablaaPut
import Derived.Laws.EntriesVeiled
import Derived.Test.YthccdooacbablaaAp
import Derived.Test.YthccdooacbablaaRi
import Derived.Test.YthccdooacbablaaPb
import Derived.Test.YthccdooacbablaaOr
import Derived.Test.YthccdooacbablaaWi
import Derived.Test.YthccdooacbablaaIg
namespace Go.Proofs.Ythccdooacbablaa
open Go.RowKit Rm

/-- A piece in memory: its points, and the closure that puts a line into its line. -/
def PcAt (w : World) (v1 v2 : Value) (p q : QP) : Prop :=
  ∃ ge bs bt : Nat, v1 = .slice (some ⟨ge, 0, none⟩) 2 2 ∧ v2 = .func (.func 159) #[] #[.pointer (some ⟨bs, 0, none⟩), .pointer (some ⟨bt, 0, none⟩)] ∧
    ge < w.heap.size ∧ bs < w.heap.size ∧ bt < w.heap.size ∧
    (w.cell? ⟨ge, 0, none⟩ = some (.int .i64 p.1.num) ∧ w.cell? ⟨ge, 1, none⟩ = some (.int .i64 p.1.den) ∧ w.cell? ⟨ge, 2, none⟩ = some (.int .i64 p.2.num) ∧ w.cell? ⟨ge, 3, none⟩ = some (.int .i64 p.2.den)) ∧
    (w.cell? ⟨ge, 4, none⟩ = some (.int .i64 q.1.num) ∧ w.cell? ⟨ge, 5, none⟩ = some (.int .i64 q.1.den) ∧ w.cell? ⟨ge, 6, none⟩ = some (.int .i64 q.2.num) ∧ w.cell? ⟨ge, 7, none⟩ = some (.int .i64 q.2.den)) ∧
    (w.cell? ⟨bs, 0, none⟩ = some (.int .i64 (slopeR p q).num) ∧ w.cell? ⟨bs, 1, none⟩ = some (.int .i64 (slopeR p q).den)) ∧
    (w.cell? ⟨bt, 0, none⟩ = some (.int .i64 (oN (startO p q))) ∧ w.cell? ⟨bt, 1, none⟩ = some (.int .i64 (oD (startO p q))))
/-- A piece is kept where the cells of its blocks are. -/
theorem PcAt.to {w w' : World} {v1 v2 : Value} {p q : QP} (h : PcAt w v1 v2 p q) (hs : w.heap.size ≤ w'.heap.size) (hk : ∀ b a, b < w.heap.size → w.cell? ⟨b, 0, none⟩ = some (.int .i64 a) → ∀ o, w'.cell? ⟨b, o, none⟩ = w.cell? ⟨b, o, none⟩) : PcAt w' v1 v2 p q := by
  obtain ⟨ge, bs, bt, e1, e2, l1, l2, l3, ⟨a0, a1, a2, a3⟩, ⟨b0, b1, b2, b3⟩, ⟨s0, s1⟩, ⟨t0, t1⟩⟩ := h
  have k1 := hk ge _ l1 a0
  have k2 := hk bs _ l2 s0
  have k3 := hk bt _ l3 t0
  exact ⟨ge, bs, bt, e1, e2, by omega, by omega, by omega, ⟨(k1 _).trans a0, (k1 _).trans a1, (k1 _).trans a2, (k1 _).trans a3⟩, ⟨(k1 _).trans b0, (k1 _).trans b1, (k1 _).trans b2, (k1 _).trans b3⟩, ⟨(k2 _).trans s0, (k2 _).trans s1⟩, ⟨(k3 _).trans t0, (k3 _).trans t1⟩⟩
theorem PcAt.below {w w' : World} {v1 v2 : Value} {p q : QP} (h : PcAt w v1 v2 p q) (hb : Below w.heap.size w w') : PcAt w' v1 v2 p q :=
  h.to hb.size fun b _ hl _ o => hb.cell (p := ⟨b, o, none⟩) hl

def lineZ (z1 z3 : Bool) (n1 d1 n3 d3 : Int) : Value := match z1, z3 with | true, true => .agg #[.int .i64 n1, .int .i64 d1, .int .i64 n3, .int .i64 d3] | _, _ => .agg #[.int .i64 0, .int .i64 0, .int .i64 0, .int .i64 0]
set_option maxRecDepth 100000 in
set_option maxHeartbeats 1600000 in
theorem put_w (bs bt : Nat) (s1 s2 a1 a2 b1 b2 n1 d1 n2 d2 n3 d3 st1 st2 : Int) (z1 z2 z3 : Bool) (w : World) (ls : bs < w.heap.size) (lt : bt < w.heap.size)
    (c0 : w.cell? ⟨bs, 0, none⟩ = some (.int .i64 s1)) (c1 : w.cell? ⟨bs, 1, none⟩ = some (.int .i64 s2)) (t0 : w.cell? ⟨bt, 0, none⟩ = some (.int .i64 st1)) (t1 : w.cell? ⟨bt, 1, none⟩ = some (.int .i64 st2))
    (h1 : ∀ W, Calls Try.prog 113 #[.agg #[.int .i64 (s1), .int .i64 (s2)], .agg #[.int .i64 (a1), .int .i64 (a2)]] W fun e w' => e = .returned (.tuple #[.agg #[.int .i64 (n1), .int .i64 (d1)], .bool z1]) ∧ Below W.heap.size W w')
    (h2 : ∀ W, Calls Try.prog 113 #[.agg #[.int .i64 (s1), .int .i64 (s2)], .agg #[.int .i64 (b1), .int .i64 (b2)]] W fun e w' => e = .returned (.tuple #[.agg #[.int .i64 (n2), .int .i64 (d2)], .bool z2]) ∧ Below W.heap.size W w')
    (h3 : ∀ W, Calls Try.prog 160 #[.agg #[.int .i64 (n2), .int .i64 (d2)], .agg #[.int .i64 (st1), .int .i64 (st2)]] W fun e w' => e = .returned (.tuple #[.agg #[.int .i64 (n3), .int .i64 (d3)], .bool z3]) ∧ Below W.heap.size W w') :
    Calls Try.prog 159 #[.agg #[.int .i64 a1, .int .i64 a2, .int .i64 b1, .int .i64 b2], .pointer (some ⟨bs, 0, none⟩), .pointer (some ⟨bt, 0, none⟩)] w fun e w' =>
      e = .returned (.tuple #[lineZ z1 z3 n1 d1 n3 d3, .bool (z1 && z3)]) ∧ Below w.heap.size w w' := by
  have H1 := hide h1; have H2 := hide h2; have H3 := hide h3
  clear h1 h2 h3
  cases z1
  case false =>
    go_enter Try.func159, Try.ntmps159
    go_wp2_with ((go_at_call 113; (with_reducible refine ((unhide H1) _).mono ?_); rintro e w1 ⟨rfl, hbw1⟩; obtain ⟨hcw1, hfw1⟩ := bcell hbw1; have hzw1 := hbw1.size; (try simp at hzw1); (try ((have kw1w0 := (bnew hbw1) (w.heap.size) ?pf); (case pf => (first | omega | (simp; done) | (simp; omega))); obtain ⟨kcw1w0, kfw1w0, klw1w0⟩ := kw1w0)); (try ((have kw1w1 := (bnew hbw1) (w.heap.size + 1) ?pf); (case pf => (first | omega | (simp; done) | (simp; omega))); obtain ⟨kcw1w1, kfw1w1, klw1w1⟩ := kw1w1))))
    exact bodyPost_ret (v := .tuple #[.agg #[.int .i64 0, .int .i64 0, .int .i64 0, .int .i64 0], .bool false]) (by simp [results, Try.results159, go_sem, *]) rfl ⟨rfl, (by repeat (first | with_reducible exact Below.refl _ _ | with_reducible assumption | (with_reducible refine Below.trans ?_ (Below.mono (by assumption) (by first | omega | (simp <;> omega)))) | with_reducible apply Below.drew | with_reducible apply below_drewN | (with_reducible refine Below.alloc ?_ (by first | omega | (simp <;> omega)) _) | (with_reducible refine Below.setCell ?_ (by first | omega | (simp <;> omega)) _)))⟩
  case true =>
    cases z3
    case false =>
      go_enter Try.func159, Try.ntmps159
      go_wp2_with (first
        | (go_at_call 113; (with_reducible refine ((unhide H1) _).mono ?_); rintro e w1 ⟨rfl, hbw1⟩; obtain ⟨hcw1, hfw1⟩ := bcell hbw1; have hzw1 := hbw1.size; (try simp at hzw1); (try ((have kw1w0 := (bnew hbw1) (w.heap.size) ?pf); (case pf => (first | omega | (simp; done) | (simp; omega))); obtain ⟨kcw1w0, kfw1w0, klw1w0⟩ := kw1w0)); (try ((have kw1w1 := (bnew hbw1) (w.heap.size + 1) ?pf); (case pf => (first | omega | (simp; done) | (simp; omega))); obtain ⟨kcw1w1, kfw1w1, klw1w1⟩ := kw1w1)); (try ((have kw1bsX0 := (bnew hbw1) (bs) ?pf); (case pf => (first | omega | (simp; done) | (simp; omega))); obtain ⟨kcw1bsX0, kfw1bsX0, klw1bsX0⟩ := kw1bsX0)); (try ((have kw1btX0 := (bnew hbw1) (bt) ?pf); (case pf => (first | omega | (simp; done) | (simp; omega))); obtain ⟨kcw1btX0, kfw1btX0, klw1btX0⟩ := kw1btX0)))
        | (go_at_call 113; (with_reducible refine ((unhide H2) _).mono ?_); rintro e w2 ⟨rfl, hbw2⟩; obtain ⟨hcw2, hfw2⟩ := bcell hbw2; have hzw2 := hbw2.size; (try simp at hzw2); (try ((have kw2w0 := (bnew hbw2) (w.heap.size) ?pf); (case pf => (first | omega | (simp; done) | (simp; omega))); obtain ⟨kcw2w0, kfw2w0, klw2w0⟩ := kw2w0)); (try ((have kw2w1 := (bnew hbw2) (w.heap.size + 1) ?pf); (case pf => (first | omega | (simp; done) | (simp; omega))); obtain ⟨kcw2w1, kfw2w1, klw2w1⟩ := kw2w1)); (try ((have kw2bsX0 := (bnew hbw2) (bs) ?pf); (case pf => (first | omega | (simp; done) | (simp; omega))); obtain ⟨kcw2bsX0, kfw2bsX0, klw2bsX0⟩ := kw2bsX0)); (try ((have kw2btX0 := (bnew hbw2) (bt) ?pf); (case pf => (first | omega | (simp; done) | (simp; omega))); obtain ⟨kcw2btX0, kfw2btX0, klw2btX0⟩ := kw2btX0)); (try ((have kw2w10 := (bnew hbw2) (w1.heap.size) ?pf); (case pf => (first | omega | (simp; done) | (simp; omega))); obtain ⟨kcw2w10, kfw2w10, klw2w10⟩ := kw2w10)))
        | (go_at_call 160; (with_reducible refine ((unhide H3) _).mono ?_); rintro e w3 ⟨rfl, hbw3⟩; obtain ⟨hcw3, hfw3⟩ := bcell hbw3; have hzw3 := hbw3.size; (try simp at hzw3); (try ((have kw3w0 := (bnew hbw3) (w.heap.size) ?pf); (case pf => (first | omega | (simp; done) | (simp; omega))); obtain ⟨kcw3w0, kfw3w0, klw3w0⟩ := kw3w0)); (try ((have kw3w1 := (bnew hbw3) (w.heap.size + 1) ?pf); (case pf => (first | omega | (simp; done) | (simp; omega))); obtain ⟨kcw3w1, kfw3w1, klw3w1⟩ := kw3w1)); (try ((have kw3bsX0 := (bnew hbw3) (bs) ?pf); (case pf => (first | omega | (simp; done) | (simp; omega))); obtain ⟨kcw3bsX0, kfw3bsX0, klw3bsX0⟩ := kw3bsX0)); (try ((have kw3btX0 := (bnew hbw3) (bt) ?pf); (case pf => (first | omega | (simp; done) | (simp; omega))); obtain ⟨kcw3btX0, kfw3btX0, klw3btX0⟩ := kw3btX0)); (try ((have kw3w10 := (bnew hbw3) (w1.heap.size) ?pf); (case pf => (first | omega | (simp; done) | (simp; omega))); obtain ⟨kcw3w10, kfw3w10, klw3w10⟩ := kw3w10)); (try ((have kw3w20 := (bnew hbw3) (w2.heap.size) ?pf); (case pf => (first | omega | (simp; done) | (simp; omega))); obtain ⟨kcw3w20, kfw3w20, klw3w20⟩ := kw3w20))))
      exact bodyPost_ret (v := .tuple #[.agg #[.int .i64 0, .int .i64 0, .int .i64 0, .int .i64 0], .bool false]) (by simp [results, Try.results159, go_sem, *]) rfl ⟨rfl, (by repeat (first | with_reducible exact Below.refl _ _ | with_reducible assumption | (with_reducible refine Below.trans ?_ (Below.mono (by assumption) (by first | omega | (simp <;> omega)))) | with_reducible apply Below.drew | with_reducible apply below_drewN | (with_reducible refine Below.alloc ?_ (by first | omega | (simp <;> omega)) _) | (with_reducible refine Below.setCell ?_ (by first | omega | (simp <;> omega)) _)))⟩
    case true =>
      go_enter Try.func159, Try.ntmps159
      go_wp2_with (first
        | (go_at_call 113; (with_reducible refine ((unhide H1) _).mono ?_); rintro e w1 ⟨rfl, hbw1⟩; obtain ⟨hcw1, hfw1⟩ := bcell hbw1; have hzw1 := hbw1.size; (try simp at hzw1); (try ((have kw1w0 := (bnew hbw1) (w.heap.size) ?pf); (case pf => (first | omega | (simp; done) | (simp; omega))); obtain ⟨kcw1w0, kfw1w0, klw1w0⟩ := kw1w0)); (try ((have kw1w1 := (bnew hbw1) (w.heap.size + 1) ?pf); (case pf => (first | omega | (simp; done) | (simp; omega))); obtain ⟨kcw1w1, kfw1w1, klw1w1⟩ := kw1w1)); (try ((have kw1bsX0 := (bnew hbw1) (bs) ?pf); (case pf => (first | omega | (simp; done) | (simp; omega))); obtain ⟨kcw1bsX0, kfw1bsX0, klw1bsX0⟩ := kw1bsX0)); (try ((have kw1btX0 := (bnew hbw1) (bt) ?pf); (case pf => (first | omega | (simp; done) | (simp; omega))); obtain ⟨kcw1btX0, kfw1btX0, klw1btX0⟩ := kw1btX0)))
        | (go_at_call 113; (with_reducible refine ((unhide H2) _).mono ?_); rintro e w2 ⟨rfl, hbw2⟩; obtain ⟨hcw2, hfw2⟩ := bcell hbw2; have hzw2 := hbw2.size; (try simp at hzw2); (try ((have kw2w0 := (bnew hbw2) (w.heap.size) ?pf); (case pf => (first | omega | (simp; done) | (simp; omega))); obtain ⟨kcw2w0, kfw2w0, klw2w0⟩ := kw2w0)); (try ((have kw2w1 := (bnew hbw2) (w.heap.size + 1) ?pf); (case pf => (first | omega | (simp; done) | (simp; omega))); obtain ⟨kcw2w1, kfw2w1, klw2w1⟩ := kw2w1)); (try ((have kw2bsX0 := (bnew hbw2) (bs) ?pf); (case pf => (first | omega | (simp; done) | (simp; omega))); obtain ⟨kcw2bsX0, kfw2bsX0, klw2bsX0⟩ := kw2bsX0)); (try ((have kw2btX0 := (bnew hbw2) (bt) ?pf); (case pf => (first | omega | (simp; done) | (simp; omega))); obtain ⟨kcw2btX0, kfw2btX0, klw2btX0⟩ := kw2btX0)); (try ((have kw2w10 := (bnew hbw2) (w1.heap.size) ?pf); (case pf => (first | omega | (simp; done) | (simp; omega))); obtain ⟨kcw2w10, kfw2w10, klw2w10⟩ := kw2w10)))
        | (go_at_call 160; (with_reducible refine ((unhide H3) _).mono ?_); rintro e w3 ⟨rfl, hbw3⟩; obtain ⟨hcw3, hfw3⟩ := bcell hbw3; have hzw3 := hbw3.size; (try simp at hzw3); (try ((have kw3w0 := (bnew hbw3) (w.heap.size) ?pf); (case pf => (first | omega | (simp; done) | (simp; omega))); obtain ⟨kcw3w0, kfw3w0, klw3w0⟩ := kw3w0)); (try ((have kw3w1 := (bnew hbw3) (w.heap.size + 1) ?pf); (case pf => (first | omega | (simp; done) | (simp; omega))); obtain ⟨kcw3w1, kfw3w1, klw3w1⟩ := kw3w1)); (try ((have kw3bsX0 := (bnew hbw3) (bs) ?pf); (case pf => (first | omega | (simp; done) | (simp; omega))); obtain ⟨kcw3bsX0, kfw3bsX0, klw3bsX0⟩ := kw3bsX0)); (try ((have kw3btX0 := (bnew hbw3) (bt) ?pf); (case pf => (first | omega | (simp; done) | (simp; omega))); obtain ⟨kcw3btX0, kfw3btX0, klw3btX0⟩ := kw3btX0)); (try ((have kw3w10 := (bnew hbw3) (w1.heap.size) ?pf); (case pf => (first | omega | (simp; done) | (simp; omega))); obtain ⟨kcw3w10, kfw3w10, klw3w10⟩ := kw3w10)); (try ((have kw3w20 := (bnew hbw3) (w2.heap.size) ?pf); (case pf => (first | omega | (simp; done) | (simp; omega))); obtain ⟨kcw3w20, kfw3w20, klw3w20⟩ := kw3w20))))
      exact bodyPost_ret (v := .tuple #[.agg #[.int .i64 n1, .int .i64 d1, .int .i64 n3, .int .i64 d3], .bool true]) (by simp [results, Try.results159, go_sem, *]) rfl ⟨rfl, (by repeat (first | with_reducible exact Below.refl _ _ | with_reducible assumption | (with_reducible refine Below.trans ?_ (Below.mono (by assumption) (by first | omega | (simp <;> omega)))) | with_reducible apply Below.drew | with_reducible apply below_drewN | (with_reducible refine Below.alloc ?_ (by first | omega | (simp <;> omega)) _) | (with_reducible refine Below.setCell ?_ (by first | omega | (simp <;> omega)) _)))⟩
/-- The value of a line, or of none. -/
def lineV (o : Option (Rat × Rat)) : Value := .agg #[.int .i64 (oN (mO o)), .int .i64 (oD (mO o)), .int .i64 (oN (bO o)), .int .i64 (oD (bO o))]
theorem put_q {w : World} {v1 : Value} {bs bt : Nat} {p q : QP} (hp : PcAt w v1 (.func (.func 159) #[] #[.pointer (some ⟨bs, 0, none⟩), .pointer (some ⟨bt, 0, none⟩)]) p q) (hs : fits (slopeR p q) = true) (l : Rat × Rat) (h1 : fits l.1 = true) (h2 : fits l.2 = true) :
    Calls Try.prog 159 #[lineV (some l), .pointer (some ⟨bs, 0, none⟩), .pointer (some ⟨bt, 0, none⟩)] w fun e w' => e = .returned (.tuple #[lineV (putO p q l), .bool (putO p q l).isSome]) ∧ Below w.heap.size w w' := by
  obtain ⟨ge, bs', bt', e1, e2, l1, l2, l3, _, _, ⟨s0, s1⟩, ⟨t0, t1⟩⟩ := hp
  injection e2 with _ _ e3
  injection e3 with e3
  injection e3 with e4 e5
  injection e5 with e5 _
  injection e4 with e4
  injection e5 with e5
  obtain rfl : bs = bs' := (Addr.mk.inj (Option.some.inj e4)).1
  obtain rfl : bt = bt' := (Addr.mk.inj (Option.some.inj e5)).1
  refine (put_w bs bt _ _ _ _ _ _ (oN (omul (some (slopeR p q)) (some l.1))) (oD (omul (some (slopeR p q)) (some l.1))) (oN (omul (some (slopeR p q)) (some l.2))) (oD (omul (some (slopeR p q)) (some l.2)))
    (oN (oadd (omul (some (slopeR p q)) (some l.2)) (startO p q))) (oD (oadd (omul (some (slopeR p q)) (some l.2)) (startO p q))) _ _ (omul (some (slopeR p q)) (some l.1)).isSome (omul (some (slopeR p q)) (some l.2)).isSome (oadd (omul (some (slopeR p q)) (some l.2)) (startO p q)).isSome
    w l2 l3 s0 s1 t0 t1 (fun W => iMultiplyRats_o (some (slopeR p q)) (some l.1) (isR_some hs) (isR_some h1) W) (fun W => iMultiplyRats_o (some (slopeR p q)) (some l.2) (isR_some hs) (isR_some h2) W)
    (fun W => iAddRats_o _ (startO p q) (isR_omul _ _) (isR_osub _ _) W)).mono ?_
  rintro e w' ⟨rfl, hb⟩
  refine ⟨?_, hb⟩
  unfold putO
  cases omul (some (slopeR p q)) (some l.1) <;> cases oadd (omul (some (slopeR p q)) (some l.2)) (startO p q) <;> rfl

set_option maxRecDepth 100000 in
set_option maxHeartbeats 1600000 in
theorem pieceBetween_w (a1 a2 a3 a4 b1 b2 b3 b4 s1 s2 n1 d1 n2 d2 : Int) (z1 z2 : Bool) (w : World)
    (h0 : ∀ W, Calls Try.prog 148 #[.agg #[.int .i64 (a1), .int .i64 (a2), .int .i64 (a3), .int .i64 (a4)], .agg #[.int .i64 (b1), .int .i64 (b2), .int .i64 (b3), .int .i64 (b4)]] W fun e w' => e = .returned (.agg #[.int .i64 (s1), .int .i64 (s2)]) ∧ Below W.heap.size W w')
    (h1 : ∀ W, Calls Try.prog 113 #[.agg #[.int .i64 (s1), .int .i64 (s2)], .agg #[.int .i64 (a1), .int .i64 (a2)]] W fun e w' => e = .returned (.tuple #[.agg #[.int .i64 (n1), .int .i64 (d1)], .bool z1]) ∧ Below W.heap.size W w')
    (h2 : ∀ W, Calls Try.prog 93 #[.agg #[.int .i64 (a3), .int .i64 (a4)], .agg #[.int .i64 (n1), .int .i64 (d1)]] W fun e w' => e = .returned (.tuple #[.agg #[.int .i64 (n2), .int .i64 (d2)], .bool z2]) ∧ Below W.heap.size W w') :
    Calls Try.prog 132 #[.agg #[.int .i64 (a1), .int .i64 (a2), .int .i64 (a3), .int .i64 (a4)], .agg #[.int .i64 (b1), .int .i64 (b2), .int .i64 (b3), .int .i64 (b4)]] w fun e w' => ∃ ge bs bt : Nat, e = .returned (.agg #[.slice (some ⟨ge, 0, none⟩) 2 2, .func (.func 159) #[] #[.pointer (some ⟨bs, 0, none⟩), .pointer (some ⟨bt, 0, none⟩)]]) ∧
      (ge < w'.heap.size ∧ bs < w'.heap.size ∧ bt < w'.heap.size) ∧
      (w'.cell? ⟨ge, 0, none⟩ = some (.int .i64 a1) ∧ w'.cell? ⟨ge, 1, none⟩ = some (.int .i64 a2) ∧ w'.cell? ⟨ge, 2, none⟩ = some (.int .i64 a3) ∧ w'.cell? ⟨ge, 3, none⟩ = some (.int .i64 a4)) ∧
      (w'.cell? ⟨ge, 4, none⟩ = some (.int .i64 b1) ∧ w'.cell? ⟨ge, 5, none⟩ = some (.int .i64 b2) ∧ w'.cell? ⟨ge, 6, none⟩ = some (.int .i64 b3) ∧ w'.cell? ⟨ge, 7, none⟩ = some (.int .i64 b4)) ∧
      (w'.cell? ⟨bs, 0, none⟩ = some (.int .i64 s1) ∧ w'.cell? ⟨bs, 1, none⟩ = some (.int .i64 s2)) ∧ (w'.cell? ⟨bt, 0, none⟩ = some (.int .i64 n2) ∧ w'.cell? ⟨bt, 1, none⟩ = some (.int .i64 d2)) ∧ Below w.heap.size w w' := by
  have H0 := hide h0; have H1 := hide h1; have H2 := hide h2
  clear h0 h1 h2
  go_enter Try.func132, Try.ntmps132
  go_wp2_with (first
    | (go_at_call 148; (with_reducible refine ((unhide H0) _).mono ?_); rintro e w1 ⟨rfl, hbw1⟩; obtain ⟨hcw1, hfw1⟩ := bcell hbw1; have hzw1 := hbw1.size; (try simp at hzw1); (try ((have kw1w0 := (bnew hbw1) (w.heap.size) ?pf); (case pf => (first | omega | (simp; done) | (simp; omega))); obtain ⟨kcw1w0, kfw1w0, klw1w0⟩ := kw1w0)); (try ((have kw1w1 := (bnew hbw1) (w.heap.size + 1) ?pf); (case pf => (first | omega | (simp; done) | (simp; omega))); obtain ⟨kcw1w1, kfw1w1, klw1w1⟩ := kw1w1)); (try ((have kw1w2 := (bnew hbw1) (w.heap.size + 1 + 1) ?pf); (case pf => (first | omega | (simp; done) | (simp; omega))); obtain ⟨kcw1w2, kfw1w2, klw1w2⟩ := kw1w2)))
    | (go_at_call 113; (with_reducible refine ((unhide H1) _).mono ?_); rintro e w2 ⟨rfl, hbw2⟩; obtain ⟨hcw2, hfw2⟩ := bcell hbw2; have hzw2 := hbw2.size; (try simp at hzw2); (try ((have kw2w0 := (bnew hbw2) (w.heap.size) ?pf); (case pf => (first | omega | (simp; done) | (simp; omega))); obtain ⟨kcw2w0, kfw2w0, klw2w0⟩ := kw2w0)); (try ((have kw2w1 := (bnew hbw2) (w.heap.size + 1) ?pf); (case pf => (first | omega | (simp; done) | (simp; omega))); obtain ⟨kcw2w1, kfw2w1, klw2w1⟩ := kw2w1)); (try ((have kw2w2 := (bnew hbw2) (w.heap.size + 1 + 1) ?pf); (case pf => (first | omega | (simp; done) | (simp; omega))); obtain ⟨kcw2w2, kfw2w2, klw2w2⟩ := kw2w2)); (try ((have kw2w10 := (bnew hbw2) (w1.heap.size) ?pf); (case pf => (first | omega | (simp; done) | (simp; omega))); obtain ⟨kcw2w10, kfw2w10, klw2w10⟩ := kw2w10)))
    | (go_at_call 93; (with_reducible refine ((unhide H2) _).mono ?_); rintro e w3 ⟨rfl, hbw3⟩; obtain ⟨hcw3, hfw3⟩ := bcell hbw3; have hzw3 := hbw3.size; (try simp at hzw3); (try ((have kw3w0 := (bnew hbw3) (w.heap.size) ?pf); (case pf => (first | omega | (simp; done) | (simp; omega))); obtain ⟨kcw3w0, kfw3w0, klw3w0⟩ := kw3w0)); (try ((have kw3w1 := (bnew hbw3) (w.heap.size + 1) ?pf); (case pf => (first | omega | (simp; done) | (simp; omega))); obtain ⟨kcw3w1, kfw3w1, klw3w1⟩ := kw3w1)); (try ((have kw3w2 := (bnew hbw3) (w.heap.size + 1 + 1) ?pf); (case pf => (first | omega | (simp; done) | (simp; omega))); obtain ⟨kcw3w2, kfw3w2, klw3w2⟩ := kw3w2)); (try ((have kw3w10 := (bnew hbw3) (w1.heap.size) ?pf); (case pf => (first | omega | (simp; done) | (simp; omega))); obtain ⟨kcw3w10, kfw3w10, klw3w10⟩ := kw3w10)); (try ((have kw3w20 := (bnew hbw3) (w2.heap.size) ?pf); (case pf => (first | omega | (simp; done) | (simp; omega))); obtain ⟨kcw3w20, kfw3w20, klw3w20⟩ := kw3w20))))
  exact bodyPost_ret (v := .agg #[.slice (some ⟨w3.heap.size + 1, 0, none⟩) 2 2, .func (.func 159) #[] #[.pointer (some ⟨w1.heap.size, 0, none⟩), .pointer (some ⟨w3.heap.size, 0, none⟩)]]) (by simp [results, Try.results132, go_sem, *]) rfl
    ⟨w3.heap.size + 1, w1.heap.size, w3.heap.size, rfl, ⟨by simp, by simp; omega, by simp; omega⟩, ⟨by simp [go_sem], by simp [go_sem], by simp [go_sem], by simp [go_sem]⟩, ⟨by simp [go_sem], by simp [go_sem], by simp [go_sem], by simp [go_sem]⟩, ⟨by simp [go_sem, *], by simp [go_sem, *]⟩, ⟨by simp [go_sem], by simp [go_sem]⟩, (by repeat (first | with_reducible exact Below.refl _ _ | with_reducible assumption | (with_reducible refine Below.trans ?_ (Below.mono (by assumption) (by first | omega | (simp <;> omega)))) | with_reducible apply Below.drew | with_reducible apply below_drewN | (with_reducible refine Below.alloc ?_ (by first | omega | (simp <;> omega)) _) | (with_reducible refine Below.setCell ?_ (by first | omega | (simp <;> omega)) _)))⟩
theorem pieceBetween_q (p q : QP) (h1 : co p.1) (h2 : co p.2) (h3 : co q.1) (h4 : co q.2) (hlt : p.1 < q.1) (w : World) :
    Calls Try.prog 132 #[.agg #[.int .i64 (p.1.num), .int .i64 (p.1.den), .int .i64 (p.2.num), .int .i64 (p.2.den)], .agg #[.int .i64 (q.1.num), .int .i64 (q.1.den), .int .i64 (q.2.num), .int .i64 (q.2.den)]] w fun e w' => ∃ v1 v2 : Value, e = .returned (.agg #[v1, v2]) ∧ PcAt w' v1 v2 p q ∧ Below w.heap.size w w' := by
  have hs := slope_fits h1 h2 h3 h4 hlt
  refine (pieceBetween_w _ _ _ _ _ _ _ _ _ _ (oN (omul (some (slopeR p q)) (some p.1))) (oD (omul (some (slopeR p q)) (some p.1))) (oN (startO p q)) (oD (startO p q)) (omul (some (slopeR p q)) (some p.1)).isSome (startO p q).isSome w
    (fun W => slopeOf_q p q h1 h2 h3 h4 hlt W) (fun W => iMultiplyRats_o (some (slopeR p q)) (some p.1) (isR_some hs) (isR_some (co_fits h1)) W) (fun W => iSubtractRats_o (some p.2) _ (isR_some (co_fits h2)) (isR_omul _ _) W)).mono ?_
  rintro e w' ⟨ge, bs, bt, rfl, ⟨l1, l2, l3⟩, a, b, s, t, hb⟩
  exact ⟨_, _, rfl, ⟨ge, bs, bt, rfl, rfl, l1, l2, l3, a, b, s, t⟩, hb⟩
end Go.Proofs.Ythccdooacbablaa

namespace Go.Proofs.Ythccdooacbablaa
open Go.RowKit Rm

theorem iPiece : (Try.prog.info? 123).map (fun i => (i.zero, i.size, i.bytes)) = some (some (.agg #[.slice none 0 0, .nilFunc]), 2, 32) := by kernel_rfl
theorem zlies_two {W : World} {Y c : Nat} {a b : Value} (h0 : W.cell? ⟨Y, 0, none⟩ = some a) (h1 : W.cell? ⟨Y, 1, none⟩ = some b) : Lies W (.slice (some ⟨Y, 0, none⟩) 1 c) 1 [a, b] := by
  refine .inr ⟨_, _, rfl, fun j u hu => ?_⟩
  rw [add_at]
  match j, hu with
  | 0, hu => simp only [List.getElem?_cons_zero, Option.some.injEq] at hu; subst hu; exact h0
  | 1, hu => simp only [List.getElem?_cons_succ, List.getElem?_cons_zero, Option.some.injEq] at hu; subst hu; exact h1
  | j + 2, hu => simp at hu
/-- A slice of pieces that the call owns. -/
def PcRow (w : World) (B : Nat) (v : Value) (l : List (QP × QP)) (vs : List Value) : Prop :=
  w.ownsRow B 123 2 v l.length vs ∧ (l = [] → v.ownBlock = none) ∧ ∀ (i : Nat) (p q : QP), l[i]? = some (p, q) → ∃ v1 v2 : Value, vs[i * 2]? = some v1 ∧ vs[i * 2 + 1]? = some v2 ∧ PcAt w v1 v2 p q
theorem PcRow.nil (w : World) (B : Nat) : PcRow w B (.slice none 0 0) [] [] := ⟨World.ownsRow_nil _ _ _ _, fun _ => rfl, fun i p q h => by simp at h⟩
theorem PcRow.below {w w' : World} {B : Nat} {v : Value} {l : List (QP × QP)} {vs : List Value} (h : PcRow w B v l vs) (hb : Below w.heap.size w w') : PcRow w' B v l vs :=
  ⟨own_below h.1 hb, h.2.1, fun i p q hi => by
    obtain ⟨v1, v2, e1, e2, hp⟩ := h.2.2 i p q hi
    exact ⟨v1, v2, e1, e2, hp.below hb⟩⟩
theorem PcRow.mono {w : World} {B B' : Nat} {v : Value} {l : List (QP × QP)} {vs : List Value} (h : PcRow w B v l vs) (hB : B' ≤ B) : PcRow w B' v l vs := ⟨h.1.mono hB, h.2⟩
theorem PcRow.at {w : World} {B : Nat} {A : Option Addr} {n c : Nat} {l : List (QP × QP)} {vs : List Value} (h : PcRow w B (.slice A n c) l vs) {i : Nat} {p q : QP} (hi : l[i]? = some (p, q)) :
    ∃ (g : Nat) (v1 v2 : Value), A = some ⟨g, 0, none⟩ ∧ g < w.heap.size ∧ w.cell? ⟨g, i * 2, none⟩ = some v1 ∧ w.cell? ⟨g, i * 2 + 1, none⟩ = some v2 ∧ PcAt w v1 v2 p q := by
  obtain ⟨v1, v2, e1, e2, hp⟩ := h.2.2 i p q hi
  have hl : i < l.length := by
    rcases Nat.lt_or_ge i l.length with h | h
    · exact h
    · rw [List.getElem?_eq_none h] at hi; cases hi
  obtain ⟨g, cap, hv, _, hg⟩ := h.1.form (by omega)
  injection hv with ha hn hc
  subst ha hn hc
  exact ⟨g, v1, v2, rfl, hg, (h.1.cellAt (i * 2) (by omega)).trans e1, (h.1.cellAt (i * 2 + 1) (by omega)).trans e2, hp⟩
/-- A block with a number at its head is not the slice's own. -/
theorem PcRow.apart {w : World} {B : Nat} {v : Value} {l : List (QP × QP)} {vs : List Value} (h : PcRow w B v l vs) {b : Nat} {a : Int} (h0 : w.cell? ⟨b, 0, none⟩ = some (.int .i64 a)) : some b ≠ v.ownBlock := by
  intro e
  rcases l with _ | ⟨⟨p, q⟩, l⟩
  · rw [h.2.1 rfl] at e; cases e
  · obtain ⟨A, c, hv⟩ := own_slice h.1
    subst hv
    obtain ⟨g, v1, v2, rfl, _, h1, _, hp⟩ := h.at (i := 0) rfl
    obtain rfl : b = g := by injection e
    obtain ⟨ge, _, _, rfl, _⟩ := hp
    rw [h0] at h1
    injection h1 with h1
    cases h1
theorem PcRow.snoc {w w2 w' : World} {B : Nat} {v v' v1 v2 : Value} {l : List (QP × QP)} {vs : List Value} {p q : QP} (h : PcRow w B v l vs) (hb : Below w.heap.size w w2) (hp : PcAt w2 v1 v2 p q)
    (hown : w'.ownsRow B 123 2 v' (l.length + 1) (vs ++ [v1, v2])) (hg : w2.grownBy w' v.ownBlock) : PcRow w' B v' (l ++ [(p, q)]) (vs ++ [v1, v2]) := by
  have h2 := h.below hb
  have hk : ∀ b a, b < w2.heap.size → w2.cell? ⟨b, 0, none⟩ = some (.int .i64 a) → ∀ o, w'.cell? ⟨b, o, none⟩ = w2.cell? ⟨b, o, none⟩ := fun b a hl h0 o =>
    World.cell?_of_block (a := ⟨b, o, none⟩) (hg.block b hl (fun e => h2.apart h0 e))
  have hvl : vs.length = l.length * 2 := h.1.1
  refine ⟨by simpa using hown, fun e => by simp at e, fun i p' q' hi => ?_⟩
  rcases Nat.lt_trichotomy i l.length with hlt | heq | hgt
  · rw [List.getElem?_append_left hlt] at hi
    obtain ⟨u1, u2, e1, e2, hp'⟩ := h2.2.2 i p' q' hi
    exact ⟨u1, u2, by rw [List.getElem?_append_left (by omega)]; exact e1, by rw [List.getElem?_append_left (by omega)]; exact e2, hp'.to hg.size hk⟩
  · subst heq
    rw [List.getElem?_append_right (Nat.le_refl _), Nat.sub_self] at hi
    simp only [List.getElem?_cons_zero, Option.some.injEq, Prod.mk.injEq] at hi
    obtain ⟨rfl, rfl⟩ := hi
    exact ⟨v1, v2, by rw [List.getElem?_append_right (by omega), show l.length * 2 - vs.length = 0 by omega]; rfl, by rw [List.getElem?_append_right (by omega), show l.length * 2 + 1 - vs.length = 1 by omega]; rfl, hp.to hg.size hk⟩
  · rw [List.getElem?_append_right (by omega)] at hi
    rw [List.getElem?_eq_none (by simp; omega)] at hi
    cases hi

/-- The first k pieces of a map. -/
def pcL (qs : List QP) (k : Nat) : List (QP × QP) := (List.range k).map fun i => (qAt qs i, qAt qs (i + 1))
theorem pcL_len (qs : List QP) (k : Nat) : (pcL qs k).length = k := by unfold pcL; simp
theorem pcL_sn (qs : List QP) (k : Nat) : pcL qs (k + 1) = pcL qs k ++ [(qAt qs k, qAt qs (k + 1))] := by unfold pcL; rw [List.range_succ, List.map_append]; rfl
theorem pcL_at {qs : List QP} {k i : Nat} (h : i < k) : (pcL qs k)[i]? = some (qAt qs i, qAt qs (i + 1)) := by unfold pcL; simp [h]

set_option maxRecDepth 100000 in
set_option maxHeartbeats 1600000 in
theorem piecesOfMap_q (g n c base : Nat) (qs : List QP) (w : World) (ha : w.ownsRow base 62 4 (.slice (some ⟨g, 0, none⟩) n c) n (ptcs (qs.map qp))) (hg : GMap qs) :
    Calls Try.prog 89 #[.slice (some ⟨g, 0, none⟩) n c] w fun e w' => ∃ (A : Option Addr) (d : Nat) (vs : List Value), e = .returned (.slice A (n - 1) d) ∧ PcRow w' w.heap.size (.slice A (n - 1) d) (pcL qs (n - 1)) vs ∧ Below w.heap.size w w' := by
  obtain ⟨i0, hi0, hz0, hz1, hz2⟩ := info_parts iPiece
  have hlen : qs.length = n := by have := own_len ha; rw [List.length_map] at this; exact this
  have hlo := hg.lo
  have hhi := hg.hi
  rw [hlen] at hlo hhi
  have hgl := (ha.lt g rfl).2
  have HA := hide ha; clear ha
  have HL := Lib.hid hlen; clear hlen
  go_enter Try.func89, Try.ntmps89
  go_wp2_with fail
  go_loopw [3, 4] (fun v i wr => ∃ (k : Nat) (u : Value) (vs : List Value), i = .int .i64 ((k : Int) + 1) ∧ u = v ∧ k + 1 ≤ n ∧ PcRow wr w.heap.size u (pcL qs k) vs ∧ Below w.heap.size w wr) (fun _ i _ => n - (intOf i).toNat)
  case atStart => exact ⟨0, _, [], rfl, rfl, by omega, PcRow.nil _ _, Below.refl _ _⟩
  case round =>
    obtain ⟨k, u, vs, rfl, rfl, hk, hrow, hbwr⟩ := hrel
    have hzwr := hbwr.size
    by_cases hlt : k + 1 < n
    · have hgr : g < wr.heap.size := by omega
      have hk1 : k + 1 < qs.length := by rw [HL.out]; exact hlt
      obtain ⟨k0, k1, k2, k3⟩ := q_cells (own_below (unhide HA) hbwr) (k := k) (by omega)
      obtain ⟨j0, j1, j2, j3⟩ := q_cells (own_below (unhide HA) hbwr) (k := k + 1) hlt
      have hsl := fun W => pieceBetween_q (qAt qs k) (qAt qs (k + 1)) (hg.cx _ (by omega)) (hg.cy _ (by omega)) (hg.cx _ hk1) (hg.cy _ hk1) (hg.inc k hk1) W
      have hsn := pcL_sn qs k
      have hown := hrow.1
      rw [pcL_len] at hown
      generalize qAt qs (k + 1) = q at *
      generalize qAt qs k = p at *
      have HS := hide hsl
      clear hsl
      generalize q.1.num = e1 at *
      generalize (q.1.den : Int) = e2 at *
      generalize q.2.num = e3 at *
      generalize (q.2.den : Int) = e4 at *
      generalize p.1.num = f1 at *
      generalize (p.1.den : Int) = f2 at *
      generalize p.2.num = f3 at *
      generalize (p.2.den : Int) = f4 at *
      have hvB : ∀ j, u.ownBlock = some j → w.heap.size ≤ j := fun j e => (hown.lt j e).1
      have s1 : IntKind.i64.wrap (k : Int) = (k : Int) := IntWalk.i64_in _ (by omega)
      have s2 : (0 : Int) ≤ (k : Int) + 1 := by omega
      have s3 : (k : Int) + 1 < (n : Int) := by omega
      have s4 : (k : Int) < (n : Int) := by omega
      have s5 : ((k : Int) + 1).toNat = k + 1 := by omega
      have HN := Lib.hid hsn
      have HO := hide hown
      have HV := hide hvB
      have HB := hide hbwr
      have HROW := hide hrow
      clear hsn hown hbwr hvB hrow
      go_upto_region 5 with fail
      go_region_held3 (fun w' => (w'.cell? ⟨g, (k + 1) * 4, none⟩ = some (.int .i64 e1) ∧ w'.cell? ⟨g, (k + 1) * 4 + 1, none⟩ = some (.int .i64 e2) ∧ w'.cell? ⟨g, (k + 1) * 4 + 2, none⟩ = some (.int .i64 e3) ∧ w'.cell? ⟨g, (k + 1) * 4 + 3, none⟩ = some (.int .i64 e4)) ∧
          w'.cell? ⟨g, k * 4, none⟩ = some (.int .i64 f1) ∧ w'.cell? ⟨g, k * 4 + 1, none⟩ = some (.int .i64 f2) ∧ w'.cell? ⟨g, k * 4 + 2, none⟩ = some (.int .i64 f3) ∧ w'.cell? ⟨g, k * 4 + 3, none⟩ = some (.int .i64 f4)) (simp [go_sem, World.cell?_alloc_past, *])
        (first
          | (go_at_call 132; (with_reducible refine ((unhide HS) _).mono ?_); rintro e w3 ⟨v1, v2, rfl, ⟨ge, bs, bt, rfl, rfl, hrest⟩, hbw3⟩; have hz3 := hbw3.size; (try simp at hz3); have HR := hide hrest; clear hrest; (skip; (try ((have kw3gX0 := (bnew hbw3) (g) ?pf); (case pf => (first | omega | (simp; done) | (simp; omega))); obtain ⟨kcw3gX0, kfw3gX0, klw3gX0⟩ := kw3gX0))))
          | (refine step_append_any (by rfl) _ _ _ (by rfl) w.heap.size 123 i0 _ 2 32 Try.underlying66 hi0 hz0 hz1 hz2 rfl (by omega) u k vs (by rfl) ((own_below (unhide HO) (show Below wr.heap.size wr w3 from (by repeat (first | with_reducible exact Below.refl _ _ | with_reducible assumption | (with_reducible refine Below.trans ?_ (Below.mono (by assumption) (by first | omega | (simp <;> omega)))) | with_reducible apply Below.drew | with_reducible apply below_drewN | (with_reducible refine Below.alloc ?_ (by first | omega | (simp <;> omega)) _) | (with_reducible refine Below.setCell ?_ (by first | omega | (simp <;> omega)) _))))).alloc _) _ 1 [.slice (some ⟨ge, 0, none⟩) 2 2, .func (.func 159) #[] #[.pointer (some ⟨bs, 0, none⟩), .pointer (some ⟨bt, 0, none⟩)]] (by rfl) (zlies_two (by simp [go_sem]) (by simp [go_sem])) rfl (by simp [Value.oneCell']) (Nat.le_trans (by omega) maxLen_ge) (by omega) (by first | omega | (simp; omega)) (k + 1) rfl ?_; intro Ag cap w4 hown4 hgrow; have kg := grown_far hgrow (unhide HV) hgl (by simp; omega)))
      all_goals
        have hb := unhide HB
        have hpc : PcAt w3 _ _ p q := ⟨ge, bs, bt, rfl, rfl, unhide HR⟩
        have hby : Below wr.heap.size wr (w3.alloc (.cells #[.slice (some ⟨ge, 0, none⟩) 2 2, .func (.func 159) #[] #[.pointer (some ⟨bs, 0, none⟩), .pointer (some ⟨bt, 0, none⟩)]] 123)) := (by repeat (first | with_reducible exact Below.refl _ _ | with_reducible assumption | (with_reducible refine Below.trans ?_ (Below.mono (by assumption) (by first | omega | (simp <;> omega)))) | with_reducible apply Below.drew | with_reducible apply below_drewN | (with_reducible refine Below.alloc ?_ (by first | omega | (simp <;> omega)) _) | (with_reducible refine Below.setCell ?_ (by first | omega | (simp <;> omega)) _)))
        have hbz : Below w.heap.size w w4 := (hb.trans (hby.mono hb.size)).grown hgrow (by have := hby.size; omega) (unhide HV)
        have hrow4 := (unhide HROW).snoc hby (hpc.below (by repeat (first | with_reducible exact Below.refl _ _ | with_reducible assumption | (with_reducible refine Below.trans ?_ (Below.mono (by assumption) (by first | omega | (simp <;> omega)))) | with_reducible apply Below.drew | with_reducible apply below_drewN | (with_reducible refine Below.alloc ?_ (by first | omega | (simp <;> omega)) _) | (with_reducible refine Below.setCell ?_ (by first | omega | (simp <;> omega)) _)))) (by rw [pcL_len]; exact hown4) hgrow
        rw [← HN.out] at hrow4
        have HO4 := hide hrow4
        have HBZ := hide hbz
        clear hown4 hby hgrow hb hbz hpc hrow4
        go_wp2_with fail
        go_roundw
        case rel => exact ⟨k + 1, _, _, by go_num, rfl, by omega, unhide HO4, unhide HBZ⟩
        case measure => simp [intOf]; omega
    · obtain rfl : n = k + 1 := by omega
      obtain ⟨A, d, hAd⟩ := own_slice hrow.1
      rw [pcL_len] at hAd
      have HO := hide hrow
      have HB := hide hbwr
      clear hrow hbwr
      subst hAd
      go_wp2
      go_ret
      exact ⟨_, _, _, rfl, unhide HO, unhide HB⟩
end Go.Proofs.Ythccdooacbablaa

namespace Go.Proofs.Ythccdooacbablaa
open Go.RowKit Rm

/-- The line of the first j pieces of a list. -/
def lineP (l : List (QP × QP)) : Nat → Option (Rat × Rat)
  | 0 => some (1, 0)
  | j + 1 => (lineP l j).bind (putO (l.getD j ((0, 0), (0, 0))).1 (l.getD j ((0, 0), (0, 0))).2)
theorem lineP_up {l : List (QP × QP)} {k : Nat} (h : lineP l k = none) : ∀ m, k ≤ m → lineP l m = none
  | 0, hm => by obtain rfl : k = 0 := by omega
                exact h
  | m + 1, hm => by
    rcases Nat.lt_or_eq_of_le hm with h1 | h1
    · show (lineP l m).bind _ = none
      rw [lineP_up h m (by omega)]; rfl
    · rw [← h1]; exact h
theorem lineP_step {l : List (QP × QP)} {k : Nat} {c : Rat × Rat} {p q : QP} (h : lineP l k = some c) (hl : l[k]? = some (p, q)) : lineP l (k + 1) = putO p q c := by
  show (lineP l k).bind _ = _
  rw [h, List.getD_eq_getElem?_getD, hl]; rfl
theorem putO_fits {p q : QP} {l c : Rat × Rat} (h : putO p q l = some c) : fits c.1 = true ∧ fits c.2 = true := by
  unfold putO at h
  cases h2 : omul (some (slopeR p q)) (some l.1) with
  | none => rw [h2] at h; cases h
  | some m =>
    rw [h2, Option.bind_some] at h
    cases h3 : oadd (omul (some (slopeR p q)) (some l.2)) (startO p q) with
    | none => rw [h3] at h; cases h
    | some b =>
      rw [h3] at h
      obtain rfl : (m, b) = c := Option.some.inj h
      exact ⟨omul_is h2, oadd_is h3⟩
theorem lineP_fits {l : List (QP × QP)} : ∀ {k : Nat} {c : Rat × Rat}, lineP l k = some c → fits c.1 = true ∧ fits c.2 = true
  | 0, c, h => by
    obtain rfl : ((1 : Rat), (0 : Rat)) = c := Option.some.inj h
    exact ⟨rfl, rfl⟩
  | k + 1, c, h => by
    have h' : (lineP l k).bind (putO (l.getD k ((0, 0), (0, 0))).1 (l.getD k ((0, 0), (0, 0))).2) = some c := h
    cases h1 : lineP l k with
    | none => rw [h1] at h'; cases h'
    | some c0 => rw [h1, Option.bind_some] at h'; exact putO_fits h'
/-- The pieces of a word. -/
def wdL (qs : List QP) (r : List Int) : List (QP × QP) := r.map fun k => (qAt qs k.toNat, qAt qs (k.toNat + 1))
theorem wdL_at {qs : List QP} {r : List Int} {j : Nat} (h : j < r.length) : (wdL qs r)[j]? = some (qAt qs (r.getD j 0).toNat, qAt qs ((r.getD j 0).toNat + 1)) := by unfold wdL; simp [h]
theorem lineP_word {qs : List QP} {r : List Int} : ∀ j, j ≤ r.length → lineP (wdL qs r) j = lineK qs r j
  | 0, _ => rfl
  | j + 1, h => by
    show (lineP (wdL qs r) j).bind _ = (lineK qs r j).bind _
    rw [lineP_word j (by omega), List.getD_eq_getElem?_getD, wdL_at (by omega)]; rfl
theorem wdL_take {qs : List QP} {r : List Int} {j : Nat} (h : j < r.length) : wdL qs (r.take (j + 1)) = wdL qs (r.take j) ++ [(qAt qs (r.getD j 0).toNat, qAt qs ((r.getD j 0).toNat + 1))] := by
  unfold wdL
  rw [List.take_succ_eq_append_getElem h, List.map_append]
  simp [h]
/-- A word with its line, or nothing. -/
def lwS (v : Value) (z : Bool) : Value := match z with | true => v | false => .slice none 0 0
def lwV (v : Value) (o : Option (Rat × Rat)) : Value := .agg #[lwS v o.isSome, .int .i64 (oN (mO o)), .int .i64 (oD (mO o)), .int .i64 (oN (bO o)), .int .i64 (oD (bO o))]

theorem identity_any (w : World) : Calls Try.prog 106 #[] w fun e w' => e = .returned (.agg #[.int .i64 1, .int .i64 1, .int .i64 0, .int .i64 1]) ∧ Below w.heap.size w w' := by
  go_enter Try.func106, Try.ntmps106
  go_wp2
  exact bodyPost_ret (v := .agg #[.int .i64 1, .int .i64 1, .int .i64 0, .int .i64 1]) (by simp [results, Try.results106, go_sem]) rfl ⟨rfl, (by repeat (first | with_reducible exact Below.refl _ _ | with_reducible assumption | (with_reducible refine Below.trans ?_ (Below.mono (by assumption) (by first | omega | (simp <;> omega)))) | with_reducible apply Below.drew | with_reducible apply below_drewN | (with_reducible refine Below.alloc ?_ (by first | omega | (simp <;> omega)) _) | (with_reducible refine Below.setCell ?_ (by first | omega | (simp <;> omega)) _)))⟩

set_option maxRecDepth 100000 in
set_option maxHeartbeats 3200000 in
theorem withLine_q (A : Option Addr) (m c B : Nat) (l : List (QP × QP)) (vs : List Value) (w : World) (hrow : PcRow w B (.slice A m c) l vs) (hl : l.length = m) (hm : m ≤ 1000) (hf : ∀ x ∈ l, fits (slopeR x.1 x.2) = true) :
    Calls Try.prog 90 #[.slice A m c] w fun e w' => e = .returned (.tuple #[lwV (.slice A m c) (lineP l m), .bool (lineP l m).isSome]) ∧ Below w.heap.size w w' := by
  have HROW := hide hrow; have HL := Lib.hid hl; have HF := hide hf
  clear hrow hl hf
  go_enter Try.func90, Try.ntmps90
  go_wp2_with (go_at_call 106; (with_reducible refine (identity_any _).mono ?_); rintro e w1 ⟨rfl, hbw1⟩; have hs1 := hbw1.size; (skip; (try ((have kw1w0 := (bnew hbw1) (w.heap.size) ?pf); (case pf => (first | omega | (simp; done) | (simp; omega))); obtain ⟨kcw1w0, kfw1w0, klw1w0⟩ := kw1w0))))
  -- ROUND
  have r0 : w1.cell? ⟨w.heap.size, 0, none⟩ = some (.slice none 0 0) := by rw [kcw1w0]; simp [go_sem]
  have r1 : w1.cell? ⟨w.heap.size, 1, none⟩ = some (.int .i64 0) := by rw [kcw1w0]; simp [go_sem]
  have r2 : w1.cell? ⟨w.heap.size, 2, none⟩ = some (.int .i64 0) := by rw [kcw1w0]; simp [go_sem]
  have r3 : w1.cell? ⟨w.heap.size, 3, none⟩ = some (.int .i64 0) := by rw [kcw1w0]; simp [go_sem]
  have r4 : w1.cell? ⟨w.heap.size, 4, none⟩ = some (.int .i64 0) := by rw [kcw1w0]; simp [go_sem]
  have rf : ∀ o, w1.frozen? ⟨w.heap.size, o, none⟩ = false := fun o => by rw [kfw1w0]; simp [go_sem]
  have hRw : w.heap.size < w1.heap.size := klw1w0
  have hb0 : Below w.heap.size w (w1.alloc (.cells #[.int .i64 1, .int .i64 1, .int .i64 0, .int .i64 1] 68)) := (by repeat (first | with_reducible exact Below.refl _ _ | with_reducible assumption | (with_reducible refine Below.trans ?_ (Below.mono (by assumption) (by first | omega | (simp <;> omega)))) | with_reducible apply Below.drew | with_reducible apply below_drewN | (with_reducible refine Below.alloc ?_ (by first | omega | (simp <;> omega)) _) | (with_reducible refine Below.setCell ?_ (by first | omega | (simp <;> omega)) _)))
  have hbA : Below w1.heap.size w1 (w1.alloc (.cells #[.int .i64 1, .int .i64 1, .int .i64 0, .int .i64 1] 68)) := (by repeat (first | with_reducible exact Below.refl _ _ | with_reducible assumption | (with_reducible refine Below.trans ?_ (Below.mono (by assumption) (by first | omega | (simp <;> omega)))) | with_reducible apply Below.drew | with_reducible apply below_drewN | (with_reducible refine Below.alloc ?_ (by first | omega | (simp <;> omega)) _) | (with_reducible refine Below.setCell ?_ (by first | omega | (simp <;> omega)) _)))
  have m0 : (w1.alloc (.cells #[.int .i64 1, .int .i64 1, .int .i64 0, .int .i64 1] 68)).cell? ⟨w1.heap.size, 0, none⟩ = some (.int .i64 (1 : Rat).num) := by simp [go_sem]
  have m1 : (w1.alloc (.cells #[.int .i64 1, .int .i64 1, .int .i64 0, .int .i64 1] 68)).cell? ⟨w1.heap.size, 1, none⟩ = some (.int .i64 ((1 : Rat).den : Int)) := by simp [go_sem]
  have m2 : (w1.alloc (.cells #[.int .i64 1, .int .i64 1, .int .i64 0, .int .i64 1] 68)).cell? ⟨w1.heap.size, 2, none⟩ = some (.int .i64 (0 : Rat).num) := by simp [go_sem]
  have m3 : (w1.alloc (.cells #[.int .i64 1, .int .i64 1, .int .i64 0, .int .i64 1] 68)).cell? ⟨w1.heap.size, 3, none⟩ = some (.int .i64 ((0 : Rat).den : Int)) := by simp [go_sem]
  have mf : ∀ o, (w1.alloc (.cells #[.int .i64 1, .int .i64 1, .int .i64 0, .int .i64 1] 68)).frozen? ⟨w1.heap.size, o, none⟩ = false := by intro o; simp [go_sem]
  have hMq : w1.heap.size < (w1.alloc (.cells #[.int .i64 1, .int .i64 1, .int .i64 0, .int .i64 1] 68)).heap.size := by simp
  replace r0 := (hbA.cell (p := ⟨w.heap.size, 0, none⟩) hRw).trans r0
  replace r1 := (hbA.cell (p := ⟨w.heap.size, 1, none⟩) hRw).trans r1
  replace r2 := (hbA.cell (p := ⟨w.heap.size, 2, none⟩) hRw).trans r2
  replace r3 := (hbA.cell (p := ⟨w.heap.size, 3, none⟩) hRw).trans r3
  replace r4 := (hbA.cell (p := ⟨w.heap.size, 4, none⟩) hRw).trans r4
  replace rf := fun o => (hbA.frozen (p := ⟨w.heap.size, o, none⟩) hRw).trans (rf o)
  have HBQ := hide hb0
  clear kcw1w0 kfw1w0 klw1w0 hb0 hbA hbw1 hs1
  generalize (w1.alloc (.cells #[.int .i64 1, .int .i64 1, .int .i64 0, .int .i64 1] 68)) = wq at *
  generalize w1.heap.size = M at *
  go_loopw [5, 11] (fun okv i wr => ∃ (j : Nat) (cm cb : Rat), okv = .bool true ∧ i = .int .i64 j ∧ j ≤ m ∧ Hid (lineP l j = some (cm, cb)) ∧ wr.cell? ⟨M, 0, none⟩ = some (.int .i64 cm.num) ∧ wr.cell? ⟨M, 1, none⟩ = some (.int .i64 cm.den) ∧
    wr.cell? ⟨M, 2, none⟩ = some (.int .i64 cb.num) ∧ wr.cell? ⟨M, 3, none⟩ = some (.int .i64 cb.den) ∧ (∀ o, wr.frozen? ⟨M, o, none⟩ = false) ∧ M < wr.heap.size ∧ wq.grownBy wr (some M)) (fun _ i _ => m - (intOf i).toNat)
  case atStart => exact ⟨0, 1, 0, rfl, rfl, by omega, hide rfl, m0, m1, m2, m3, mf, hMq, World.grownBy.refl _ _⟩
  case round =>
    obtain ⟨j, cm, cb, rfl, rfl, hj, HP, c0, c1, c2, c3, cf, hMr, hgr⟩ := hrel
    have hRq : w.heap.size < wq.heap.size := by omega
    have lR : w.heap.size < wr.heap.size := by have := hgr.size; omega
    have hbk := fun (o : Nat) => World.cell?_of_block (a := ⟨w.heap.size, o, none⟩) (hgr.block w.heap.size hRq (fun e => by have := Option.some.inj e; omega))
    have q0 := (hbk 0).trans r0
    have q1 := (hbk 1).trans r1
    have q2 := (hbk 2).trans r2
    have q3 := (hbk 3).trans r3
    have q4 := (hbk 4).trans r4
    have qf := fun o => (World.frozen?_of_block (a := ⟨w.heap.size, o, none⟩) (hgr.block w.heap.size hRq (fun e => by have := Option.some.inj e; omega))).trans (rf o)
    have hb := (unhide HBQ).grown hgr (by omega) (fun i e => by have := Option.some.inj e; omega)
    clear hbk
    by_cases hlt : j < m
    · have hjl : j < l.length := by rw [HL.out]; exact hlt
      obtain ⟨p, q, hpq⟩ : ∃ p q, l[j]? = some (p, q) := ⟨(l[j]'hjl).1, (l[j]'hjl).2, List.getElem?_eq_getElem hjl⟩
      have hkr := (unhide HROW).below hb
      obtain ⟨g, v1, v2, rfl, hgl, y0, y1, hpc⟩ := hkr.at hpq
      have hsf := (unhide HF) (p, q) (List.mem_iff_getElem?.2 ⟨_, hpq⟩)
      obtain ⟨ge, bs, bt, rfl, rfl, hrest⟩ := hpc
      have hpc : PcAt wr (.slice (some ⟨ge, 0, none⟩) 2 2) (.func (.func 159) #[] #[.pointer (some ⟨bs, 0, none⟩), .pointer (some ⟨bt, 0, none⟩)]) p q := ⟨ge, bs, bt, rfl, rfl, hrest⟩
      obtain ⟨hf1, hf2⟩ := lineP_fits (unhide HP)
      have hput := fun W (hW : Below wr.heap.size wr W) => put_q (hpc.below hW) hsf (cm, cb) hf1 hf2
      simp only [lineV, mO, bO, Option.map_some, oN_some, oD_some] at hput
      have hst := lineP_step (unhide HP) hpq
      have t1 : (j : Int) < (m : Int) := by omega
      have HB := hide hb; have HGR := hide hgr
      clear hkr hpc hrest hf1 hf2 hsf hpq hb hgr r0 r1 r2 r3 r4 rf m0 m1 m2 m3 mf HP
      rcases hd : putO p q (cm, cb) with _ | d
      · have hno := lineP_up (k := j + 1) (by rw [hst, hd]) m (by omega)
        have HNO := Lib.hid hno
        rw [hd] at hput
        simp only [Option.map_none, oN_none, oD_none, Option.isSome_none] at hput
        have HPUT := hide hput
        clear hput hst hd hno HGR
        generalize cm.num = a1 at *
        generalize (cm.den : Int) = a2 at *
        generalize cb.num = b1 at *
        generalize (cb.den : Int) = b2 at *
        go_wp2_with (go_at_call 159; (with_reducible refine ((unhide HPUT) _ ?pb).mono ?_); (case pb => exact (by repeat (first | with_reducible exact Below.refl _ _ | with_reducible assumption | (with_reducible refine Below.trans ?_ (Below.mono (by assumption) (by first | omega | (simp <;> omega)))) | with_reducible apply Below.drew | with_reducible apply below_drewN | (with_reducible refine Below.alloc ?_ (by first | omega | (simp <;> omega)) _) | (with_reducible refine Below.setCell ?_ (by first | omega | (simp <;> omega)) _)))); rintro e w5 ⟨rfl, hbw5⟩; have hs5 := hbw5.size; (try simp at hs5); have p0 : w5.cell? ⟨w.heap.size, 0, none⟩ = some (.slice none 0 0) := (hbw5.cell (p := ⟨w.heap.size, 0, none⟩) (by simp; omega)).trans (by simp [go_sem, *]); have p1 : w5.cell? ⟨w.heap.size, 1, none⟩ = some (.int .i64 0) := (hbw5.cell (p := ⟨w.heap.size, 1, none⟩) (by simp; omega)).trans (by simp [go_sem, *]); have p2 : w5.cell? ⟨w.heap.size, 2, none⟩ = some (.int .i64 0) := (hbw5.cell (p := ⟨w.heap.size, 2, none⟩) (by simp; omega)).trans (by simp [go_sem, *]); have p3 : w5.cell? ⟨w.heap.size, 3, none⟩ = some (.int .i64 0) := (hbw5.cell (p := ⟨w.heap.size, 3, none⟩) (by simp; omega)).trans (by simp [go_sem, *]); have p4 : w5.cell? ⟨w.heap.size, 4, none⟩ = some (.int .i64 0) := (hbw5.cell (p := ⟨w.heap.size, 4, none⟩) (by simp; omega)).trans (by simp [go_sem, *]); have pz : ∀ o, w5.frozen? ⟨w.heap.size, o, none⟩ = false := (fun o => (hbw5.frozen (p := ⟨w.heap.size, o, none⟩) (by simp; omega)).trans (by simp [go_sem, *])); have n0 : w5.cell? ⟨M, 0, none⟩ = some (.int .i64 a1) := (hbw5.cell (p := ⟨M, 0, none⟩) (by simp; omega)).trans (by simp [go_sem, *]); have n1 : w5.cell? ⟨M, 1, none⟩ = some (.int .i64 a2) := (hbw5.cell (p := ⟨M, 1, none⟩) (by simp; omega)).trans (by simp [go_sem, *]); have n2 : w5.cell? ⟨M, 2, none⟩ = some (.int .i64 b1) := (hbw5.cell (p := ⟨M, 2, none⟩) (by simp; omega)).trans (by simp [go_sem, *]); have n3 : w5.cell? ⟨M, 3, none⟩ = some (.int .i64 b2) := (hbw5.cell (p := ⟨M, 3, none⟩) (by simp; omega)).trans (by simp [go_sem, *]); have nz : ∀ o, w5.frozen? ⟨M, o, none⟩ = false := (fun o => (hbw5.frozen (p := ⟨M, o, none⟩) (by simp; omega)).trans (by simp [go_sem, *])))
        have hb := unhide HB
        exact bodyPost_ret (v := .tuple #[.agg #[.slice none 0 0, .int .i64 0, .int .i64 0, .int .i64 0, .int .i64 0], .bool false]) (by simp [results, Try.results90, go_sem, *]) rfl ⟨by rw [HNO.out]; rfl, (by repeat (first | with_reducible exact Below.refl _ _ | with_reducible assumption | (with_reducible refine Below.trans ?_ (Below.mono (by assumption) (by first | omega | (simp <;> omega)))) | with_reducible apply Below.drew | with_reducible apply below_drewN | (with_reducible refine Below.alloc ?_ (by first | omega | (simp <;> omega)) _) | (with_reducible refine Below.setCell ?_ (by first | omega | (simp <;> omega)) _)))⟩
      · rw [hd] at hst hput
        simp only [Option.map_some, oN_some, oD_some, Option.isSome_some] at hput
        have HST := hide hst
        obtain ⟨dm, db⟩ := d
        simp only at hput
        obtain ⟨d1, hd1⟩ : ∃ x, x = dm.num := ⟨_, rfl⟩
        obtain ⟨d2, hd2⟩ : ∃ x, x = (dm.den : Int) := ⟨_, rfl⟩
        obtain ⟨d3, hd3⟩ : ∃ x, x = db.num := ⟨_, rfl⟩
        obtain ⟨d4, hd4⟩ : ∃ x, x = (db.den : Int) := ⟨_, rfl⟩
        rw [← hd1, ← hd2, ← hd3, ← hd4] at hput
        have HDV := Lib.hid (And.intro hd1 (And.intro hd2 (And.intro hd3 hd4)))
        have HPUT := hide hput
        clear hput hst hd hd1 hd2 hd3 hd4
        generalize cm.num = a1 at *
        generalize (cm.den : Int) = a2 at *
        generalize cb.num = b1 at *
        generalize (cb.den : Int) = b2 at *
        go_wp2_with (go_at_call 159; (with_reducible refine ((unhide HPUT) _ ?pb).mono ?_); (case pb => exact (by repeat (first | with_reducible exact Below.refl _ _ | with_reducible assumption | (with_reducible refine Below.trans ?_ (Below.mono (by assumption) (by first | omega | (simp <;> omega)))) | with_reducible apply Below.drew | with_reducible apply below_drewN | (with_reducible refine Below.alloc ?_ (by first | omega | (simp <;> omega)) _) | (with_reducible refine Below.setCell ?_ (by first | omega | (simp <;> omega)) _)))); rintro e w5 ⟨rfl, hbw5⟩; have hs5 := hbw5.size; (try simp at hs5); have p0 : w5.cell? ⟨w.heap.size, 0, none⟩ = some (.slice none 0 0) := (hbw5.cell (p := ⟨w.heap.size, 0, none⟩) (by simp; omega)).trans (by simp [go_sem, *]); have p1 : w5.cell? ⟨w.heap.size, 1, none⟩ = some (.int .i64 0) := (hbw5.cell (p := ⟨w.heap.size, 1, none⟩) (by simp; omega)).trans (by simp [go_sem, *]); have p2 : w5.cell? ⟨w.heap.size, 2, none⟩ = some (.int .i64 0) := (hbw5.cell (p := ⟨w.heap.size, 2, none⟩) (by simp; omega)).trans (by simp [go_sem, *]); have p3 : w5.cell? ⟨w.heap.size, 3, none⟩ = some (.int .i64 0) := (hbw5.cell (p := ⟨w.heap.size, 3, none⟩) (by simp; omega)).trans (by simp [go_sem, *]); have p4 : w5.cell? ⟨w.heap.size, 4, none⟩ = some (.int .i64 0) := (hbw5.cell (p := ⟨w.heap.size, 4, none⟩) (by simp; omega)).trans (by simp [go_sem, *]); have pz : ∀ o, w5.frozen? ⟨w.heap.size, o, none⟩ = false := (fun o => (hbw5.frozen (p := ⟨w.heap.size, o, none⟩) (by simp; omega)).trans (by simp [go_sem, *])); have n0 : w5.cell? ⟨M, 0, none⟩ = some (.int .i64 a1) := (hbw5.cell (p := ⟨M, 0, none⟩) (by simp; omega)).trans (by simp [go_sem, *]); have n1 : w5.cell? ⟨M, 1, none⟩ = some (.int .i64 a2) := (hbw5.cell (p := ⟨M, 1, none⟩) (by simp; omega)).trans (by simp [go_sem, *]); have n2 : w5.cell? ⟨M, 2, none⟩ = some (.int .i64 b1) := (hbw5.cell (p := ⟨M, 2, none⟩) (by simp; omega)).trans (by simp [go_sem, *]); have n3 : w5.cell? ⟨M, 3, none⟩ = some (.int .i64 b2) := (hbw5.cell (p := ⟨M, 3, none⟩) (by simp; omega)).trans (by simp [go_sem, *]); have nz : ∀ o, w5.frozen? ⟨M, o, none⟩ = false := (fun o => (hbw5.frozen (p := ⟨M, o, none⟩) (by simp; omega)).trans (by simp [go_sem, *])))
        have hbl : Below wr.heap.size wr w5 := (by repeat (first | with_reducible exact Below.refl _ _ | with_reducible assumption | (with_reducible refine Below.trans ?_ (Below.mono (by assumption) (by first | omega | (simp <;> omega)))) | with_reducible apply Below.drew | with_reducible apply below_drewN | (with_reducible refine Below.alloc ?_ (by first | omega | (simp <;> omega)) _) | (with_reducible refine Below.setCell ?_ (by first | omega | (simp <;> omega)) _)))
        have HGD := hide (grown_set (grown_set (grown_set (grown_set (grown_on (unhide HGR) hbl) 0 (.int .i64 d1)) 1 (.int .i64 d2)) 2 (.int .i64 d3)) 3 (.int .i64 d4))
        have hgs := (unhide HGR).size
        go_roundw
        case rel => exact ⟨j + 1, dm, db, rfl, by go_num, by omega, HST, by rw [← HDV.out.1]; simp [go_sem, *], by rw [← HDV.out.2.1]; simp [go_sem, *], by rw [← HDV.out.2.2.1]; simp [go_sem, *], by rw [← HDV.out.2.2.2]; simp [go_sem, *], fun o => by simp [go_sem, *], by simp; omega, unhide HGD⟩
        case measure => (simp [intOf] <;> omega)
    · obtain rfl : j = m := by omega
      have HPR := Lib.hid (unhide HP)
      have HB := hide hb
      clear HP hb hgr r0 r1 r2 r3 r4 rf m0 m1 m2 m3 mf
      generalize hu1 : cm.num = u1 at *
      generalize hu2 : (cm.den : Int) = u2 at *
      generalize hu3 : cb.num = u3 at *
      generalize hu4 : (cb.den : Int) = u4 at *
      have HCN := Lib.hid (And.intro hu1 (And.intro hu2 (And.intro hu3 hu4)))
      clear hu1 hu2 hu3 hu4
      go_wp2_with fail
      have hb := unhide HB
      exact bodyPost_ret (v := .tuple #[.agg #[.slice A j c, .int .i64 u1, .int .i64 u2, .int .i64 u3, .int .i64 u4], .bool true]) (by simp [results, Try.results90, go_sem, *]) rfl ⟨by rw [HPR.out]; simp only [lwV, lwS, mO, bO, Option.map_some, Option.isSome_some, oN_some, oD_some, HCN.out.1, HCN.out.2.1, HCN.out.2.2.1, HCN.out.2.2.2], (by repeat (first | with_reducible exact Below.refl _ _ | with_reducible assumption | (with_reducible refine Below.trans ?_ (Below.mono (by assumption) (by first | omega | (simp <;> omega)))) | with_reducible apply Below.drew | with_reducible apply below_drewN | (with_reducible refine Below.alloc ?_ (by first | omega | (simp <;> omega)) _) | (with_reducible refine Below.setCell ?_ (by first | omega | (simp <;> omega)) _)))⟩
-- END
end Go.Proofs.Ythccdooacbablaa

namespace Go.Proofs.Ythccdooacbablaa
open Go.RowKit Rm

theorem PcRow.boxed {w w' : World} {B R : Nat} {v : Value} {l : List (QP × QP)} {vs : List Value} {a : Option Addr} {b c : Nat} (h : PcRow w B v l vs) (hR : R < B) (r0 : w.cell? ⟨R, 0, none⟩ = some (.slice a b c)) (hg : w.grownBy w' (some R)) : PcRow w' B v l vs := by
  refine ⟨own_kept h.1 hg (fun k hk e => ?_), h.2.1, fun i p q hi => ?_⟩
  · have h1 := (h.1.lt k hk).1
    have h2 : k = R := Option.some.inj e
    omega
  · obtain ⟨v1, v2, e1, e2, hp⟩ := h.2.2 i p q hi
    refine ⟨v1, v2, e1, e2, hp.to hg.size fun b a hl h0 o => World.cell?_of_block (a := ⟨b, o, none⟩) (hg.block b hl (fun e => ?_))⟩
    have h2 : b = R := Option.some.inj e
    subst h2
    rw [r0] at h0
    injection h0 with h0
    cases h0
theorem zero_lw : lwV (.slice none 0 0) none = .agg #[.slice none 0 0, .int .i64 0, .int .i64 0, .int .i64 0, .int .i64 0] := rfl
theorem none_lw (v : Value) : lwV v none = .agg #[.slice none 0 0, .int .i64 0, .int .i64 0, .int .i64 0, .int .i64 0] := rfl
theorem some_lw (v : Value) (a b : Rat) : lwV v (some (a, b)) = .agg #[v, .int .i64 a.num, .int .i64 a.den, .int .i64 b.num, .int .i64 b.den] := rfl
def inP (n : Nat) (k : Int) : Bool := decide (0 ≤ k ∧ k ≤ (n : Int) - 2)

set_option maxRecDepth 100000 in
set_option maxHeartbeats 3200000 in
theorem wordOfMap_in (g n c base g1 n1 c1 b1 : Nat) (qs : List QP) (r : List Int) (w : World) (ha : w.ownsRow base 62 4 (.slice (some ⟨g, 0, none⟩) n c) n (ptcs (qs.map qp))) (hg : GMap qs) (hm : mapB (qs.map qp) = true) (hn : n ≤ 1048576)
    (h1 : w.ownsRow b1 3 1 (.slice (some ⟨g1, 0, none⟩) n1 c1) n1 (ints r)) (hr1 : 1 ≤ n1) (hr8 : n1 ≤ 8) :
    Calls Try.prog 47 #[.slice (some ⟨g, 0, none⟩) n c, .slice (some ⟨g1, 0, none⟩) n1 c1] w fun e w' =>
      (r.all (inP n) = false → e = .returned (.tuple #[lwV (.slice none 0 0) none, .bool false])) ∧
      (r.all (inP n) = true → ∃ (A2 : Option Addr) (c2 : Nat) (vs : List Value), e = .returned (.tuple #[lwV (.slice A2 n1 c2) (lineK qs r n1), .bool (lineK qs r n1).isSome]) ∧ PcRow w' (w.heap.size + 1) (.slice A2 n1 c2) (wdL qs r) vs) ∧ Below w.heap.size w w' := by
  obtain ⟨i0, hi0, hz0, hz1, hz2⟩ := info_parts iPiece
  have hlen : qs.length = n := by have := own_len ha; rw [List.length_map] at this; exact this
  have hlo := hg.lo
  have hhi := hg.hi
  rw [hlen] at hlo hhi
  have hrl : r.length = n1 := by have := h1.1; rw [ints_len] at this; omega
  have hmap := fun W hW => isMap_any (some ⟨g, 0, none⟩) n c base (qs.map qp) W hW hn
  rw [hm] at hmap
  have hpm := fun W hW => piecesOfMap_q g n c base qs W hW hg
  obtain ⟨z, hz⟩ : ∃ z, z = r.all (inP n) := ⟨_, rfl⟩
  rw [← hz]
  have HZ := Lib.hid hz; have HM := hide hmap; have HPM := hide hpm; have HA := hide ha; have HW := hide h1; have HG := Lib.hid hg; have HL := Lib.hid hlen; have HRL := Lib.hid hrl
  clear hz hmap hpm ha h1 hg hlen hrl hm
  have d1 : decide ((n1 : Int) < 1) = false := decide_eq_false (by omega)
  have d2 : decide ((n1 : Int) > 8) = false := decide_eq_false (by omega)
  go_enter Try.func47, Try.ntmps47
  go_wp2_with (first
    | (go_at_call 88; (with_reducible refine ((unhide HM) _ (own_below (unhide HA) ?pb)).mono ?_); (case pb => exact (by repeat (first | with_reducible exact Below.refl _ _ | with_reducible assumption | (with_reducible refine Below.trans ?_ (Below.mono (by assumption) (by first | omega | (simp <;> omega)))) | with_reducible apply Below.drew | with_reducible apply below_drewN | (with_reducible refine Below.alloc ?_ (by first | omega | (simp <;> omega)) _) | (with_reducible refine Below.setCell ?_ (by first | omega | (simp <;> omega)) _)))); rintro e w1 ⟨rfl, hbw1⟩; have hs1 := hbw1.size; (skip; (try ((have kw1w0 := (bnew hbw1) (w.heap.size) ?pf); (case pf => (first | omega | (simp; done) | (simp; omega))); obtain ⟨kcw1w0, kfw1w0, klw1w0⟩ := kw1w0))))
    | (go_at_call 89; (with_reducible refine ((unhide HPM) _ (own_below (unhide HA) ?pb)).mono ?_); (case pb => exact (by repeat (first | with_reducible exact Below.refl _ _ | with_reducible assumption | (with_reducible refine Below.trans ?_ (Below.mono (by assumption) (by first | omega | (simp <;> omega)))) | with_reducible apply Below.drew | with_reducible apply below_drewN | (with_reducible refine Below.alloc ?_ (by first | omega | (simp <;> omega)) _) | (with_reducible refine Below.setCell ?_ (by first | omega | (simp <;> omega)) _)))); rintro e w2 ⟨A2, d2', vs2, rfl, hrow2, hbw2⟩; have hs2 := hbw2.size; (skip; (try ((have kw2w0 := (bnew hbw2) (w.heap.size) ?pf); (case pf => (first | omega | (simp; done) | (simp; omega))); obtain ⟨kcw2w0, kfw2w0, klw2w0⟩ := kw2w0))); have HROW := hide hrow2; clear hrow2))
  -- ROUND
  have r0 : w2.cell? ⟨w.heap.size, 0, none⟩ = some (.slice none 0 0) := by rw [kcw2w0, kcw1w0]; simp [go_sem]
  have r1 : w2.cell? ⟨w.heap.size, 1, none⟩ = some (.int .i64 0) := by rw [kcw2w0, kcw1w0]; simp [go_sem]
  have r2 : w2.cell? ⟨w.heap.size, 2, none⟩ = some (.int .i64 0) := by rw [kcw2w0, kcw1w0]; simp [go_sem]
  have r3 : w2.cell? ⟨w.heap.size, 3, none⟩ = some (.int .i64 0) := by rw [kcw2w0, kcw1w0]; simp [go_sem]
  have r4 : w2.cell? ⟨w.heap.size, 4, none⟩ = some (.int .i64 0) := by rw [kcw2w0, kcw1w0]; simp [go_sem]
  have rf : ∀ o, w2.frozen? ⟨w.heap.size, o, none⟩ = false := fun o => by rw [kfw2w0, kfw1w0]; simp [go_sem]
  have hR2 : w.heap.size < w2.heap.size := klw2w0
  have hb0 : Below w.heap.size w w2 := (by repeat (first | with_reducible exact Below.refl _ _ | with_reducible assumption | (with_reducible refine Below.trans ?_ (Below.mono (by assumption) (by first | omega | (simp <;> omega)))) | with_reducible apply Below.drew | with_reducible apply below_drewN | (with_reducible refine Below.alloc ?_ (by first | omega | (simp <;> omega)) _) | (with_reducible refine Below.setCell ?_ (by first | omega | (simp <;> omega)) _)))
  have HBQ := hide hb0; have HW2 := hide (own_below (unhide HW) hb0)
  clear kcw1w0 kfw1w0 klw1w0 kcw2w0 kfw2w0 klw2w0 hbw1 hbw2 hb0 hs1 hs2 HM HPM
  go_loopw [7, 28] (fun v i wr => ∃ (j : Nat) (u : Value) (vs : List Value), i = .int .i64 (j : Int) ∧ u = v ∧ j ≤ n1 ∧ Hid (∀ k ∈ r.take j, inP n k = true) ∧ PcRow wr w2.heap.size u (wdL qs (r.take j)) vs ∧ Below w2.heap.size w2 wr) (fun _ i _ => n1 - (intOf i).toNat)
  case atStart => exact ⟨0, _, [], rfl, rfl, by omega, hide (fun k h => by simp at h), PcRow.nil _ _, Below.refl _ _⟩
  case round =>
    obtain ⟨j, u, vs, rfl, rfl, hj, hin, hrow, hbwr⟩ := hrel
    have hzwr := hbwr.size
    have q0 := (hbwr.cell (p := ⟨w.heap.size, 0, none⟩) hR2).trans r0
    have q1 := (hbwr.cell (p := ⟨w.heap.size, 1, none⟩) hR2).trans r1
    have q2 := (hbwr.cell (p := ⟨w.heap.size, 2, none⟩) hR2).trans r2
    have q3 := (hbwr.cell (p := ⟨w.heap.size, 3, none⟩) hR2).trans r3
    have q4 := (hbwr.cell (p := ⟨w.heap.size, 4, none⟩) hR2).trans r4
    have qf := fun o => (hbwr.frozen (p := ⟨w.heap.size, o, none⟩) hR2).trans (rf o)
    have lR : w.heap.size < wr.heap.size := by omega
    have hb := (unhide HBQ).trans (hbwr.mono (unhide HBQ).size)
    by_cases hlt : j < n1
    · have hjr : j < r.length := by rw [HRL.out]; exact hlt
      obtain ⟨gg, hgg, hgl1, _, hc0⟩ := word_cell (own_below (unhide HW2) hbwr) hlt
      obtain rfl : g1 = gg := (Addr.mk.inj (Option.some.inj hgg)).1
      have htk := wdL_take (qs := qs) hjr
      have htk2 : r.take (j + 1) = r.take j ++ [r.getD j 0] := by rw [List.take_succ_eq_append_getElem hjr]; simp [hjr]
      have hlk : (r.take j).length = j := by rw [List.length_take]; omega
      have hnx : inP n (r.getD j 0) = true → ∀ k ∈ r.take (j + 1), inP n k = true := fun h k hk => by
        rw [htk2] at hk
        rcases List.mem_append.1 hk with hk | hk
        · exact (unhide hin) k hk
        · rw [List.mem_singleton.1 hk]; exact h
      have hbad : inP n (r.getD j 0) = false → z = false := fun h => by
        rw [HZ.out, List.all_eq_false]
        exact ⟨_, mem_getD hjr, by rw [h]; decide⟩
      have hrow2 := (unhide HROW).below hbwr
      have hown := hrow.1
      have hwl : (wdL qs (r.take j)).length = j := by unfold wdL; rw [List.length_map, hlk]
      rw [hwl] at hown
      have HNX := hide hnx; have HBAD := hide hbad; have HB := hide hb; have HBW := hide hbwr; have HRW := hide hrow; have HR2 := hide hrow2; have HO := hide hown; have HTK := Lib.hid htk; have HWL := Lib.hid hwl
      clear hnx hbad hb hbwr hrow hrow2 hown htk htk2 hlk hgg hin hwl
      obtain ⟨x, hx⟩ : ∃ x, x = r.getD j 0 := ⟨_, rfl⟩
      rw [← hx] at HNX HBAD hc0 HTK
      have HX := Lib.hid hx; clear hx
      by_cases hok : 0 ≤ x ∧ x ≤ (n : Int) - 2
      · obtain ⟨k, rfl⟩ : ∃ k : Nat, x = (k : Int) := ⟨x.toNat, by omega⟩
        have hn1 := hide ((unhide HNX) (decide_eq_true hok))
        have hkn : k < n - 1 := by omega
        obtain ⟨ga, v1, v2, rfl, hgal, y0, y1, hpc⟩ := (unhide HR2).at (pcL_at (qs := qs) (k := n - 1) hkn)
        obtain ⟨ge, bs, bt, rfl, rfl, hrest⟩ := hpc
        have hpc : PcAt wr (.slice (some ⟨ge, 0, none⟩) 2 2) (.func (.func 159) #[] #[.pointer (some ⟨bs, 0, none⟩), .pointer (some ⟨bt, 0, none⟩)]) (qAt qs k) (qAt qs (k + 1)) := ⟨ge, bs, bt, rfl, rfl, hrest⟩
        have HPC := hide hpc
        have e1 : decide ((k : Int) < 0) = false := decide_eq_false (by omega)
        have e2 : decide ((k : Int) ≥ ((n - 1 : Nat) : Int)) = false := decide_eq_false (by omega)
        have e3 : (k : Int) < ((n - 1 : Nat) : Int) := by omega
        have e4 : (0 : Int) ≤ (k : Int) := by omega
        have hvB : ∀ j, u.ownBlock = some j → w2.heap.size ≤ j := fun j e => ((unhide HO).lt j e).1
        have HV := hide hvB
        clear hpc hrest hvB HBAD HNX hok r0 r1 r2 r3 r4 rf HR2
        obtain ⟨N, hN⟩ : ∃ N, N = n - 1 := ⟨_, rfl⟩
        rw [← hN] at hkn e2 e3 ⊢
        have HNN := Lib.hid hN; clear hN
        have e5 : ¬ N ≤ k := by omega
        have e6 : decide (N ≤ k) = false := decide_eq_false e5
        go_wp2_with (at_builtin; refine wpList_append_any rfl _ _ _ rfl w2.heap.size 123 i0 _ 2 32 Try.underlying66 hi0 hz0 hz1 hz2 rfl (by omega) u j vs rfl ((unhide HO).alloc _) _ 1 [.slice (some ⟨ge, 0, none⟩) 2 2, .func (.func 159) #[] #[.pointer (some ⟨bs, 0, none⟩), .pointer (some ⟨bt, 0, none⟩)]] rfl (zlies_two (by simp [go_sem]) (by simp [go_sem])) rfl (by simp [Value.oneCell']) (Nat.le_trans (by omega) maxLen_ge) (by omega) (by first | omega | (simp <;> omega)) (j + 1) rfl ?_; intro A5 c5 w5 hown5 hgrow5)
        have hby : Below wr.heap.size wr (wr.alloc (.cells #[.slice (some ⟨ge, 0, none⟩) 2 2, .func (.func 159) #[] #[.pointer (some ⟨bs, 0, none⟩), .pointer (some ⟨bt, 0, none⟩)]] 123)) := (by repeat (first | with_reducible exact Below.refl _ _ | with_reducible assumption | (with_reducible refine Below.trans ?_ (Below.mono (by assumption) (by first | omega | (simp <;> omega)))) | with_reducible apply Below.drew | with_reducible apply below_drewN | (with_reducible refine Below.alloc ?_ (by first | omega | (simp <;> omega)) _) | (with_reducible refine Below.setCell ?_ (by first | omega | (simp <;> omega)) _)))
        have hbz : Below w2.heap.size w2 w5 := Below.grown ((unhide HBW).trans (hby.mono (unhide HBW).size)) hgrow5 (by have := hby.size; omega) (unhide HV)
        have hrow5 := (unhide HRW).snoc hby ((unhide HPC).below hby) (by rw [HWL.out]; exact hown5) hgrow5
        rw [show (qAt qs k, qAt qs (k + 1)) = (qAt qs ((k : Int)).toNat, qAt qs (((k : Int)).toNat + 1)) from rfl, ← HTK.out] at hrow5
        have HO5 := hide hrow5; have HBZ := hide hbz
        clear hown5 hbz hgrow5 hby hrow5
        go_wp2_with fail
        go_roundw
        case rel => exact ⟨j + 1, _, _, by go_num, rfl, by omega, hn1, unhide HO5, unhide HBZ⟩
        case measure => (simp [intOf] <;> omega)
      · obtain rfl := (unhide HBAD) (decide_eq_false hok)
        clear HBAD HNX r0 r1 r2 r3 r4 rf HR2
        by_cases h0 : x < 0
        · go_wp2_with fail
          have hb := unhide HB
          exact bodyPost_ret (v := .tuple #[.agg #[.slice none 0 0, .int .i64 0, .int .i64 0, .int .i64 0, .int .i64 0], .bool false]) (by simp [results, Try.results47, go_sem, *]) rfl ⟨rfl, (by repeat (first | with_reducible exact Below.refl _ _ | with_reducible assumption | (with_reducible refine Below.trans ?_ (Below.mono (by assumption) (by first | omega | (simp <;> omega)))) | with_reducible apply Below.drew | with_reducible apply below_drewN | (with_reducible refine Below.alloc ?_ (by first | omega | (simp <;> omega)) _) | (with_reducible refine Below.setCell ?_ (by first | omega | (simp <;> omega)) _)))⟩
        · have e2 : decide (x ≥ ((n - 1 : Nat) : Int)) = true := decide_eq_true (by omega)
          have e1 : decide (x < 0) = false := decide_eq_false h0
          go_wp2_with fail
          have hb := unhide HB
          exact bodyPost_ret (v := .tuple #[.agg #[.slice none 0 0, .int .i64 0, .int .i64 0, .int .i64 0, .int .i64 0], .bool false]) (by simp [results, Try.results47, go_sem, *]) rfl ⟨rfl, (by repeat (first | with_reducible exact Below.refl _ _ | with_reducible assumption | (with_reducible refine Below.trans ?_ (Below.mono (by assumption) (by first | omega | (simp <;> omega)))) | with_reducible apply Below.drew | with_reducible apply below_drewN | (with_reducible refine Below.alloc ?_ (by first | omega | (simp <;> omega)) _) | (with_reducible refine Below.setCell ?_ (by first | omega | (simp <;> omega)) _)))⟩
    · obtain rfl : j = n1 := by omega
      have hta : r.take j = r := by rw [← HRL.out, List.take_length]
      rw [hta] at hrow hin
      obtain rfl : z = true := by rw [HZ.out, List.all_eq_true]; exact fun k hk => (unhide hin) k hk
      have hin2 := unhide hin
      obtain ⟨A5, c5, hA5⟩ := own_slice hrow.1
      have hwl : (wdL qs r).length = j := by unfold wdL; rw [List.length_map, HRL.out]
      rw [hwl] at hA5
      subst hA5
      have hf : ∀ x ∈ wdL qs r, fits (slopeR x.1 x.2) = true := fun x hx => by
        unfold wdL at hx
        obtain ⟨k, hk, rfl⟩ := List.mem_map.1 hx
        have h := of_decide_eq_true (hin2 k hk)
        have hkl : k.toNat + 1 < qs.length := by rw [HL.out]; omega
        exact slope_fits (HG.out.cx _ (by omega)) (HG.out.cy _ (by omega)) (HG.out.cx _ hkl) (HG.out.cy _ hkl) (HG.out.inc _ hkl)
      have hwl2 := fun W (hW : Below wr.heap.size wr W) => withLine_q A5 j c5 w2.heap.size (wdL qs r) vs W (hrow.below hW) hwl (by omega) hf
      have hlw : lineP (wdL qs r) j = lineK qs r j := lineP_word j (by rw [HRL.out]; exact Nat.le_refl _)
      rw [hlw] at hwl2
      have HRW := hide hrow; have HB := hide hb
      clear hrow hb hin hin2 hta hf hlw hwl r0 r1 r2 r3 r4 rf hbwr
      rcases hlk : lineK qs r j with _ | ⟨ma, mb⟩
      · rw [hlk] at hwl2
        simp only [none_lw, Option.isSome_none] at hwl2
        have hpo : lwV (.slice A5 j c5) none = .agg #[.slice none 0 0, .int .i64 0, .int .i64 0, .int .i64 0, .int .i64 0] := rfl
        have HWL := hide hwl2; have HPO := Lib.hid hpo; have HLK := Lib.hid hlk; clear hwl2 hlk hpo
        go_wp2_with (go_at_call 90; (with_reducible refine ((unhide HWL) _ ?pb).mono ?_); (case pb => exact (by repeat (first | with_reducible exact Below.refl _ _ | with_reducible assumption | (with_reducible refine Below.trans ?_ (Below.mono (by assumption) (by first | omega | (simp <;> omega)))) | with_reducible apply Below.drew | with_reducible apply below_drewN | (with_reducible refine Below.alloc ?_ (by first | omega | (simp <;> omega)) _) | (with_reducible refine Below.setCell ?_ (by first | omega | (simp <;> omega)) _)))); rintro e w7 ⟨rfl, hbw7⟩; have hs7 := hbw7.size; (try simp at hs7); have p0 : w7.cell? ⟨w.heap.size, 0, none⟩ = some (.slice none 0 0) := (hbw7.cell (p := ⟨w.heap.size, 0, none⟩) (by first | exact lR | (simp; omega))).trans (by simp [go_sem, *]); have p1 : w7.cell? ⟨w.heap.size, 1, none⟩ = some (.int .i64 0) := (hbw7.cell (p := ⟨w.heap.size, 1, none⟩) (by first | exact lR | (simp; omega))).trans (by simp [go_sem, *]); have p2 : w7.cell? ⟨w.heap.size, 2, none⟩ = some (.int .i64 0) := (hbw7.cell (p := ⟨w.heap.size, 2, none⟩) (by first | exact lR | (simp; omega))).trans (by simp [go_sem, *]); have p3 : w7.cell? ⟨w.heap.size, 3, none⟩ = some (.int .i64 0) := (hbw7.cell (p := ⟨w.heap.size, 3, none⟩) (by first | exact lR | (simp; omega))).trans (by simp [go_sem, *]); have p4 : w7.cell? ⟨w.heap.size, 4, none⟩ = some (.int .i64 0) := (hbw7.cell (p := ⟨w.heap.size, 4, none⟩) (by first | exact lR | (simp; omega))).trans (by simp [go_sem, *]); have pz : ∀ o, w7.frozen? ⟨w.heap.size, o, none⟩ = false := (fun o => (hbw7.frozen (p := ⟨w.heap.size, o, none⟩) (by first | exact lR | (simp; omega))).trans (by simp [go_sem, *])))
        have hb := unhide HB
        have hb7 : Below w.heap.size w w7 := (by repeat (first | with_reducible exact Below.refl _ _ | with_reducible assumption | (with_reducible refine Below.trans ?_ (Below.mono (by assumption) (by first | omega | (simp <;> omega)))) | with_reducible apply Below.drew | with_reducible apply below_drewN | (with_reducible refine Below.alloc ?_ (by first | omega | (simp <;> omega)) _) | (with_reducible refine Below.setCell ?_ (by first | omega | (simp <;> omega)) _)))
        have hgs := grown_set (grown_set (grown_set (grown_set (grown_set (World.grownBy.refl w7 (some w.heap.size)) 0 (Value.slice none 0 0)) 1 (Value.int .i64 0)) 2 (Value.int .i64 0)) 3 (Value.int .i64 0)) 4 (Value.int .i64 0)
        have hrow7 := ((unhide HRW).below hbw7).boxed (R := w.heap.size) hR2 p0 hgs
        have HR7 := hide (hrow7.mono (B' := w.heap.size + 1) hR2)
        clear hrow7 hgs HRW
        exact bodyPost_ret (v := .tuple #[.agg #[.slice none 0 0, .int .i64 0, .int .i64 0, .int .i64 0, .int .i64 0], .bool false]) (by simp [results, Try.results47, go_sem, *]) rfl ⟨⟨A5, c5, by rw [HLK.out, HPO.out]; rfl, vs, unhide HR7⟩, (by repeat (first | with_reducible exact Below.refl _ _ | with_reducible assumption | (with_reducible refine Below.trans ?_ (Below.mono (by assumption) (by first | omega | (simp <;> omega)))) | with_reducible apply Below.drew | with_reducible apply below_drewN | (with_reducible refine Below.alloc ?_ (by first | omega | (simp <;> omega)) _) | (with_reducible refine Below.setCell ?_ (by first | omega | (simp <;> omega)) _)))⟩
      · rw [hlk] at hwl2
        simp only [some_lw, Option.isSome_some] at hwl2
        have hpo : lwV (.slice A5 j c5) (some (ma, mb)) = .agg #[.slice A5 j c5, .int .i64 ma.num, .int .i64 ma.den, .int .i64 mb.num, .int .i64 mb.den] := rfl
        generalize ma.num = x1 at hpo hwl2
        generalize (ma.den : Int) = x2 at hpo hwl2
        generalize mb.num = x3 at hpo hwl2
        generalize (mb.den : Int) = x4 at hpo hwl2
        have HWL := hide hwl2; have HPO := Lib.hid hpo; have HLK := Lib.hid hlk; clear hwl2 hlk hpo
        go_wp2_with (go_at_call 90; (with_reducible refine ((unhide HWL) _ ?pb).mono ?_); (case pb => exact (by repeat (first | with_reducible exact Below.refl _ _ | with_reducible assumption | (with_reducible refine Below.trans ?_ (Below.mono (by assumption) (by first | omega | (simp <;> omega)))) | with_reducible apply Below.drew | with_reducible apply below_drewN | (with_reducible refine Below.alloc ?_ (by first | omega | (simp <;> omega)) _) | (with_reducible refine Below.setCell ?_ (by first | omega | (simp <;> omega)) _)))); rintro e w7 ⟨rfl, hbw7⟩; have hs7 := hbw7.size; (try simp at hs7); have p0 : w7.cell? ⟨w.heap.size, 0, none⟩ = some (.slice none 0 0) := (hbw7.cell (p := ⟨w.heap.size, 0, none⟩) (by first | exact lR | (simp; omega))).trans (by simp [go_sem, *]); have p1 : w7.cell? ⟨w.heap.size, 1, none⟩ = some (.int .i64 0) := (hbw7.cell (p := ⟨w.heap.size, 1, none⟩) (by first | exact lR | (simp; omega))).trans (by simp [go_sem, *]); have p2 : w7.cell? ⟨w.heap.size, 2, none⟩ = some (.int .i64 0) := (hbw7.cell (p := ⟨w.heap.size, 2, none⟩) (by first | exact lR | (simp; omega))).trans (by simp [go_sem, *]); have p3 : w7.cell? ⟨w.heap.size, 3, none⟩ = some (.int .i64 0) := (hbw7.cell (p := ⟨w.heap.size, 3, none⟩) (by first | exact lR | (simp; omega))).trans (by simp [go_sem, *]); have p4 : w7.cell? ⟨w.heap.size, 4, none⟩ = some (.int .i64 0) := (hbw7.cell (p := ⟨w.heap.size, 4, none⟩) (by first | exact lR | (simp; omega))).trans (by simp [go_sem, *]); have pz : ∀ o, w7.frozen? ⟨w.heap.size, o, none⟩ = false := (fun o => (hbw7.frozen (p := ⟨w.heap.size, o, none⟩) (by first | exact lR | (simp; omega))).trans (by simp [go_sem, *])))
        have hb := unhide HB
        have hb7 : Below w.heap.size w w7 := (by repeat (first | with_reducible exact Below.refl _ _ | with_reducible assumption | (with_reducible refine Below.trans ?_ (Below.mono (by assumption) (by first | omega | (simp <;> omega)))) | with_reducible apply Below.drew | with_reducible apply below_drewN | (with_reducible refine Below.alloc ?_ (by first | omega | (simp <;> omega)) _) | (with_reducible refine Below.setCell ?_ (by first | omega | (simp <;> omega)) _)))
        have hgs := grown_set (grown_set (grown_set (grown_set (grown_set (World.grownBy.refl w7 (some w.heap.size)) 0 (Value.slice A5 j c5)) 1 (Value.int .i64 x1)) 2 (Value.int .i64 x2)) 3 (Value.int .i64 x3)) 4 (Value.int .i64 x4)
        have hrow7 := ((unhide HRW).below hbw7).boxed (R := w.heap.size) hR2 p0 hgs
        have HR7 := hide (hrow7.mono (B' := w.heap.size + 1) hR2)
        clear hrow7 hgs HRW
        exact bodyPost_ret (v := .tuple #[.agg #[.slice A5 j c5, .int .i64 x1, .int .i64 x2, .int .i64 x3, .int .i64 x4], .bool true]) (by simp [results, Try.results47, go_sem, *]) rfl ⟨⟨A5, c5, by rw [HLK.out, HPO.out]; rfl, vs, unhide HR7⟩, (by repeat (first | with_reducible exact Below.refl _ _ | with_reducible assumption | (with_reducible refine Below.trans ?_ (Below.mono (by assumption) (by first | omega | (simp <;> omega)))) | with_reducible apply Below.drew | with_reducible apply below_drewN | (with_reducible refine Below.alloc ?_ (by first | omega | (simp <;> omega)) _) | (with_reducible refine Below.setCell ?_ (by first | omega | (simp <;> omega)) _)))⟩
-- END
end Go.Proofs.Ythccdooacbablaa

namespace Go.Proofs.Ythccdooacbablaa
open Go.RowKit Rm

theorem pwB_len {n : Nat} {r : List Int} (h : ¬ (1 ≤ r.length ∧ r.length ≤ 8)) : pwB n r = false := by unfold pwB; rw [decide_eq_false h]; rfl
theorem pwB_in {n : Nat} {r : List Int} (h : 1 ≤ r.length ∧ r.length ≤ 8) : pwB n r = r.all (inP n) := by unfold pwB; rw [decide_eq_true h]; rfl

set_option maxRecDepth 100000 in
set_option maxHeartbeats 1600000 in
/-- A list that is no word of a map's pieces. -/
theorem wordOfMap_no (A : Option Addr) (n c base : Nat) (ps : List Pt) (g1 n1 c1 b1 : Nat) (r : List Int) (w : World) (ha : w.ownsRow base 62 4 (.slice A n c) n (ptcs ps)) (hn : n ≤ 1048576)
    (h1 : w.ownsRow b1 3 1 (.slice (some ⟨g1, 0, none⟩) n1 c1) n1 (ints r)) (hz : peB ps r = false) :
    Calls Try.prog 47 #[.slice A n c, .slice (some ⟨g1, 0, none⟩) n1 c1] w fun e w' => e = .returned (.tuple #[.agg #[.slice none 0 0, .int .i64 0, .int .i64 0, .int .i64 0, .int .i64 0], .bool false]) ∧ Below w.heap.size w w' := by
  have hrl : r.length = n1 := by have := h1.1; rw [ints_len] at this; omega
  have hmap := fun W hW => isMap_any A n c base ps W hW hn
  have hpl := own_len ha
  rcases hm : mapB ps with _ | _
  · rw [hm] at hmap
    have HM := hide hmap; have HA := hide ha
    clear hmap ha h1 hz hm hpl hrl
    go_enter Try.func47, Try.ntmps47
    go_wp2_with (go_at_call 88; (with_reducible refine ((unhide HM) _ (own_below (unhide HA) ?pb)).mono ?_); (case pb => exact (by repeat (first | with_reducible exact Below.refl _ _ | with_reducible assumption | (with_reducible refine Below.trans ?_ (Below.mono (by assumption) (by first | omega | (simp <;> omega)))) | with_reducible apply Below.drew | with_reducible apply below_drewN | (with_reducible refine Below.alloc ?_ (by first | omega | (simp <;> omega)) _) | (with_reducible refine Below.setCell ?_ (by first | omega | (simp <;> omega)) _)))); rintro e w1 ⟨rfl, hbw1⟩; have hs1 := hbw1.size; (skip; (try ((have kw1w0 := (bnew hbw1) (w.heap.size) ?pf); (case pf => (first | omega | (simp; done) | (simp; omega))); obtain ⟨kcw1w0, kfw1w0, klw1w0⟩ := kw1w0))))
    exact bodyPost_ret (v := .tuple #[.agg #[.slice none 0 0, .int .i64 0, .int .i64 0, .int .i64 0, .int .i64 0], .bool false]) (by simp [results, Try.results47, go_sem, *]) rfl ⟨rfl, (by repeat (first | with_reducible exact Below.refl _ _ | with_reducible assumption | (with_reducible refine Below.trans ?_ (Below.mono (by assumption) (by first | omega | (simp <;> omega)))) | with_reducible apply Below.drew | with_reducible apply below_drewN | (with_reducible refine Below.alloc ?_ (by first | omega | (simp <;> omega)) _) | (with_reducible refine Below.setCell ?_ (by first | omega | (simp <;> omega)) _)))⟩
  · by_cases hr : 1 ≤ n1 ∧ n1 ≤ 8
    · obtain ⟨qs, rfl, hg⟩ := gmap_of hm
      obtain ⟨g, hA⟩ := own_form0 ha (by have := hg.lo; rw [List.length_map] at hpl; omega)
      subst hA
      have hin : r.all (inP n) = false := by
        unfold peB at hz
        rw [hm, Bool.true_and, pwB_in (by rw [hrl]; exact hr), hpl] at hz
        exact hz
      exact (wordOfMap_in g n c base g1 n1 c1 b1 qs r w ha hg hm hn h1 hr.1 hr.2).mono fun e w' h => ⟨h.1 hin, h.2.2⟩
    · rw [hm] at hmap
      have HM := hide hmap; have HA := hide ha
      clear hmap ha h1 hz hm hpl hrl
      by_cases h0 : n1 < 1
      · have d1 : decide ((n1 : Int) < 1) = true := decide_eq_true (by omega)
        have d3 : n1 = 0 := by omega
        subst d3
        go_enter Try.func47, Try.ntmps47
        go_wp2_with (go_at_call 88; (with_reducible refine ((unhide HM) _ (own_below (unhide HA) ?pb)).mono ?_); (case pb => exact (by repeat (first | with_reducible exact Below.refl _ _ | with_reducible assumption | (with_reducible refine Below.trans ?_ (Below.mono (by assumption) (by first | omega | (simp <;> omega)))) | with_reducible apply Below.drew | with_reducible apply below_drewN | (with_reducible refine Below.alloc ?_ (by first | omega | (simp <;> omega)) _) | (with_reducible refine Below.setCell ?_ (by first | omega | (simp <;> omega)) _)))); rintro e w1 ⟨rfl, hbw1⟩; have hs1 := hbw1.size; (skip; (try ((have kw1w0 := (bnew hbw1) (w.heap.size) ?pf); (case pf => (first | omega | (simp; done) | (simp; omega))); obtain ⟨kcw1w0, kfw1w0, klw1w0⟩ := kw1w0))))
        exact bodyPost_ret (v := .tuple #[.agg #[.slice none 0 0, .int .i64 0, .int .i64 0, .int .i64 0, .int .i64 0], .bool false]) (by simp [results, Try.results47, go_sem, *]) rfl ⟨rfl, (by repeat (first | with_reducible exact Below.refl _ _ | with_reducible assumption | (with_reducible refine Below.trans ?_ (Below.mono (by assumption) (by first | omega | (simp <;> omega)))) | with_reducible apply Below.drew | with_reducible apply below_drewN | (with_reducible refine Below.alloc ?_ (by first | omega | (simp <;> omega)) _) | (with_reducible refine Below.setCell ?_ (by first | omega | (simp <;> omega)) _)))⟩
      · have d1 : decide ((n1 : Int) < 1) = false := decide_eq_false (by omega)
        have d2 : decide ((n1 : Int) > 8) = true := decide_eq_true (by omega)
        go_enter Try.func47, Try.ntmps47
        go_wp2_with (go_at_call 88; (with_reducible refine ((unhide HM) _ (own_below (unhide HA) ?pb)).mono ?_); (case pb => exact (by repeat (first | with_reducible exact Below.refl _ _ | with_reducible assumption | (with_reducible refine Below.trans ?_ (Below.mono (by assumption) (by first | omega | (simp <;> omega)))) | with_reducible apply Below.drew | with_reducible apply below_drewN | (with_reducible refine Below.alloc ?_ (by first | omega | (simp <;> omega)) _) | (with_reducible refine Below.setCell ?_ (by first | omega | (simp <;> omega)) _)))); rintro e w1 ⟨rfl, hbw1⟩; have hs1 := hbw1.size; (skip; (try ((have kw1w0 := (bnew hbw1) (w.heap.size) ?pf); (case pf => (first | omega | (simp; done) | (simp; omega))); obtain ⟨kcw1w0, kfw1w0, klw1w0⟩ := kw1w0))))
        exact bodyPost_ret (v := .tuple #[.agg #[.slice none 0 0, .int .i64 0, .int .i64 0, .int .i64 0, .int .i64 0], .bool false]) (by simp [results, Try.results47, go_sem, *]) rfl ⟨rfl, (by repeat (first | with_reducible exact Below.refl _ _ | with_reducible assumption | (with_reducible refine Below.trans ?_ (Below.mono (by assumption) (by first | omega | (simp <;> omega)))) | with_reducible apply Below.drew | with_reducible apply below_drewN | (with_reducible refine Below.alloc ?_ (by first | omega | (simp <;> omega)) _) | (with_reducible refine Below.setCell ?_ (by first | omega | (simp <;> omega)) _)))⟩
/-- A word of a map's pieces. -/
theorem wordOfMap_yes (A : Option Addr) (n c base : Nat) (ps : List Pt) (g1 n1 c1 b1 : Nat) (r : List Int) (w : World) (ha : w.ownsRow base 62 4 (.slice A n c) n (ptcs ps)) (hn : n ≤ 1048576)
    (h1 : w.ownsRow b1 3 1 (.slice (some ⟨g1, 0, none⟩) n1 c1) n1 (ints r)) (hz : peB ps r = true) :
    ∃ (g : Nat) (qs : List QP), A = some ⟨g, 0, none⟩ ∧ ps = qs.map qp ∧ GMap qs ∧ qs.length = n ∧ r.length = n1 ∧ (1 ≤ n1 ∧ n1 ≤ 8) ∧ (∀ k ∈ r, 0 ≤ k ∧ k ≤ (n : Int) - 2) ∧
    Calls Try.prog 47 #[.slice A n c, .slice (some ⟨g1, 0, none⟩) n1 c1] w fun e w' => (∃ (A2 : Option Addr) (c2 : Nat) (vs : List Value), e = .returned (.tuple #[lwV (.slice A2 n1 c2) (lineK qs r n1), .bool (lineK qs r n1).isSome]) ∧ PcRow w' (w.heap.size + 1) (.slice A2 n1 c2) (wdL qs r) vs) ∧ Below w.heap.size w w' := by
  have hrl : r.length = n1 := by have := h1.1; rw [ints_len] at this; omega
  have hpl := own_len ha
  unfold peB at hz
  rw [Bool.and_eq_true] at hz
  obtain ⟨hm, hp⟩ := hz
  have hp' := pwB_yes.1 hp
  obtain ⟨qs, rfl, hg⟩ := gmap_of hm
  obtain ⟨g, hA⟩ := own_form0 ha (by have := hg.lo; rw [List.length_map] at hpl; omega)
  subst hA
  have hin : r.all (inP n) = true := by
    rw [pwB_in hp'.1, hpl] at hp
    exact hp
  have hlen : qs.length = n := by rw [List.length_map] at hpl; exact hpl
  refine ⟨g, qs, rfl, rfl, hg, hlen, hrl, by rw [← hrl]; exact hp'.1, by rw [hpl] at hp'; exact hp'.2, ?_⟩
  have hr := hp'.1
  rw [hrl] at hr
  exact (wordOfMap_in g n c base g1 n1 c1 b1 qs r w ha hg hm hn h1 hr.1 hr.2).mono fun e w' h => ⟨h.2.1 hin, h.2.2⟩
/-- The line of a word, and some slice. -/
theorem wordOfMap_line (A : Option Addr) (n c base : Nat) (ps : List Pt) (g1 n1 c1 b1 : Nat) (r : List Int) (w : World) (ha : w.ownsRow base 62 4 (.slice A n c) n (ptcs ps)) (hn : n ≤ 1048576)
    (h1 : w.ownsRow b1 3 1 (.slice (some ⟨g1, 0, none⟩) n1 c1) n1 (ints r)) :
    Calls Try.prog 47 #[.slice A n c, .slice (some ⟨g1, 0, none⟩) n1 c1] w fun e w' =>
      (∃ (A2 : Option Addr) (n2 c2 : Nat), e = .returned (.tuple #[.agg #[.slice A2 n2 c2, .int .i64 (oN (mO (lnO ps r))), .int .i64 (oD (mO (lnO ps r))), .int .i64 (oN (bO (lnO ps r))), .int .i64 (oD (bO (lnO ps r)))], .bool (lnO ps r).isSome])) ∧ Below w.heap.size w w' := by
  rcases hz : peB ps r with _ | _
  · rw [lnO_no hz]
    exact (wordOfMap_no A n c base ps g1 n1 c1 b1 r w ha hn h1 hz).mono fun e w' h => ⟨⟨none, 0, 0, h.1⟩, h.2⟩
  · obtain ⟨g, qs, rfl, rfl, hg, hlen, hrl, _, _, hc⟩ := wordOfMap_yes A n c base ps g1 n1 c1 b1 r w ha hn h1 hz
    rw [lnO_yes hz, hrl]
    refine hc.mono fun e w' ⟨⟨A2, c2, vs, he, _⟩, hb⟩ => ⟨?_, hb⟩
    rcases hl : lineK qs r n1 with _ | ⟨a, b⟩
    · rw [hl] at he; exact ⟨none, 0, 0, he⟩
    · rw [hl] at he; exact ⟨A2, n1, c2, he⟩

set_option maxRecDepth 100000 in
set_option maxHeartbeats 1600000 in
theorem iLineOfWord_any (A : Option Addr) (n c base : Nat) (ps : List Pt) (g1 n1 c1 b1 : Nat) (r : List Int) (w : World) (ha : w.ownsRow base 62 4 (.slice A n c) n (ptcs ps)) (hn : n ≤ 1048576)
    (h1 : w.ownsRow b1 3 1 (.slice (some ⟨g1, 0, none⟩) n1 c1) n1 (ints r)) (_hn1 : n1 ≤ 1048576) :
    Calls Try.prog 16 #[.slice A n c, .slice (some ⟨g1, 0, none⟩) n1 c1] w fun e w' =>
      e = .returned (.tuple #[.agg #[.int .i64 (oN (mO (lnO ps r))), .int .i64 (oD (mO (lnO ps r)))], .agg #[.int .i64 (oN (bO (lnO ps r))), .int .i64 (oD (bO (lnO ps r)))], .bool (lnO ps r).isSome]) ∧ Below w.heap.size w w' := by
  have hlw := fun W hW hW1 => wordOfMap_line A n c base ps g1 n1 c1 b1 r W hW hn hW1
  have HLW := hide hlw; have HA := hide ha; have HW := hide h1
  clear hlw ha h1
  generalize oN (mO (lnO ps r)) = x1 at *
  generalize oD (mO (lnO ps r)) = x2 at *
  generalize oN (bO (lnO ps r)) = x3 at *
  generalize oD (bO (lnO ps r)) = x4 at *
  generalize (lnO ps r).isSome = z at *
  go_enter Try.func16, Try.ntmps16
  go_wp2_with (go_at_call 47; (with_reducible refine ((unhide HLW) _ (own_below (unhide HA) ?pb) (own_below (unhide HW) ?pc)).mono ?_); (case pb => exact (by repeat (first | with_reducible exact Below.refl _ _ | with_reducible assumption | (with_reducible refine Below.trans ?_ (Below.mono (by assumption) (by first | omega | (simp <;> omega)))) | with_reducible apply Below.drew | with_reducible apply below_drewN | (with_reducible refine Below.alloc ?_ (by first | omega | (simp <;> omega)) _) | (with_reducible refine Below.setCell ?_ (by first | omega | (simp <;> omega)) _)))); (case pc => exact (by repeat (first | with_reducible exact Below.refl _ _ | with_reducible assumption | (with_reducible refine Below.trans ?_ (Below.mono (by assumption) (by first | omega | (simp <;> omega)))) | with_reducible apply Below.drew | with_reducible apply below_drewN | (with_reducible refine Below.alloc ?_ (by first | omega | (simp <;> omega)) _) | (with_reducible refine Below.setCell ?_ (by first | omega | (simp <;> omega)) _)))); rintro e w1 ⟨⟨A2, n2, c2, rfl⟩, hbw1⟩; have hs1 := hbw1.size; (try simp at hs1); (skip; (try ((have kw1w0 := (bnew hbw1) (w.heap.size) ?pf); (case pf => (first | omega | (simp; done) | (simp; omega))); obtain ⟨kcw1w0, kfw1w0, klw1w0⟩ := kw1w0)); (try ((have kw1w1 := (bnew hbw1) (w.heap.size + 1) ?pf); (case pf => (first | omega | (simp; done) | (simp; omega))); obtain ⟨kcw1w1, kfw1w1, klw1w1⟩ := kw1w1))))
  go_region
  all_goals
    go_wp2_with fail
    exact bodyPost_ret (v := .tuple #[.agg #[.int .i64 (x1), .int .i64 (x2)], .agg #[.int .i64 (x3), .int .i64 (x4)], .bool z]) (by simp [results, Try.results16, go_sem, *]) rfl ⟨rfl, (by repeat (first | with_reducible exact Below.refl _ _ | with_reducible assumption | (with_reducible refine Below.trans ?_ (Below.mono (by assumption) (by first | omega | (simp <;> omega)))) | with_reducible apply Below.drew | with_reducible apply below_drewN | (with_reducible refine Below.alloc ?_ (by first | omega | (simp <;> omega)) _) | (with_reducible refine Below.setCell ?_ (by first | omega | (simp <;> omega)) _)))⟩
set_option maxRecDepth 100000 in
set_option maxHeartbeats 1600000 in
theorem iWordMultiplier_any (A : Option Addr) (n c base : Nat) (ps : List Pt) (g1 n1 c1 b1 : Nat) (r : List Int) (w : World) (ha : w.ownsRow base 62 4 (.slice A n c) n (ptcs ps)) (hn : n ≤ 1048576)
    (h1 : w.ownsRow b1 3 1 (.slice (some ⟨g1, 0, none⟩) n1 c1) n1 (ints r)) (hn1 : n1 ≤ 1048576) :
    Calls Try.prog 31 #[.slice A n c, .slice (some ⟨g1, 0, none⟩) n1 c1] w fun e w' =>
      e = .returned (.tuple #[.agg #[.int .i64 (oN (mO (lnO ps r))), .int .i64 (oD (mO (lnO ps r)))], .bool (lnO ps r).isSome]) ∧ Below w.heap.size w w' := by
  have hlw := fun W hW hW1 => iLineOfWord_any A n c base ps g1 n1 c1 b1 r W hW hn hW1 hn1
  have HLW := hide hlw; have HA := hide ha; have HW := hide h1
  clear hlw ha h1
  generalize oN (mO (lnO ps r)) = x1 at *
  generalize oD (mO (lnO ps r)) = x2 at *
  generalize oN (bO (lnO ps r)) = x3 at *
  generalize oD (bO (lnO ps r)) = x4 at *
  generalize (lnO ps r).isSome = z at *
  go_enter Try.func31, Try.ntmps31
  go_wp2_with (go_at_call 16; (with_reducible refine ((unhide HLW) _ (own_below (unhide HA) ?pb) (own_below (unhide HW) ?pc)).mono ?_); (case pb => exact (by repeat (first | with_reducible exact Below.refl _ _ | with_reducible assumption | (with_reducible refine Below.trans ?_ (Below.mono (by assumption) (by first | omega | (simp <;> omega)))) | with_reducible apply Below.drew | with_reducible apply below_drewN | (with_reducible refine Below.alloc ?_ (by first | omega | (simp <;> omega)) _) | (with_reducible refine Below.setCell ?_ (by first | omega | (simp <;> omega)) _)))); (case pc => exact (by repeat (first | with_reducible exact Below.refl _ _ | with_reducible assumption | (with_reducible refine Below.trans ?_ (Below.mono (by assumption) (by first | omega | (simp <;> omega)))) | with_reducible apply Below.drew | with_reducible apply below_drewN | (with_reducible refine Below.alloc ?_ (by first | omega | (simp <;> omega)) _) | (with_reducible refine Below.setCell ?_ (by first | omega | (simp <;> omega)) _)))); rintro e w1 ⟨rfl, hbw1⟩; have hs1 := hbw1.size; (try simp at hs1); (skip; (try ((have kw1w0 := (bnew hbw1) (w.heap.size) ?pf); (case pf => (first | omega | (simp; done) | (simp; omega))); obtain ⟨kcw1w0, kfw1w0, klw1w0⟩ := kw1w0))))
  exact bodyPost_ret (v := .tuple #[.agg #[.int .i64 (x1), .int .i64 (x2)], .bool z]) (by simp [results, Try.results31, go_sem, *]) rfl ⟨rfl, (by repeat (first | with_reducible exact Below.refl _ _ | with_reducible assumption | (with_reducible refine Below.trans ?_ (Below.mono (by assumption) (by first | omega | (simp <;> omega)))) | with_reducible apply Below.drew | with_reducible apply below_drewN | (with_reducible refine Below.alloc ?_ (by first | omega | (simp <;> omega)) _) | (with_reducible refine Below.setCell ?_ (by first | omega | (simp <;> omega)) _)))⟩
end Go.Proofs.Ythccdooacbablaa

namespace Go.Proofs.Ythccdooacbablaa
open Go.RowKit Rm

set_option maxRecDepth 100000 in
set_option maxHeartbeats 1600000 in
theorem peGood_any (A : Option Addr) (n c base : Nat) (ps : List Pt) (gw m cw : Nat) (r : List Int) (w : World) (ha : w.ownsRow base 62 4 (.slice A n c) n (ptcs ps)) (hn : n ≤ 1048576)
    (hw : WCells w gw m r) (hm : m ≤ 1048576) (hl : r.length = m) :
    Calls Try.prog 44 #[.slice A n c, .slice (some ⟨gw, 0, none⟩) m cw] w fun e w' => e = .returned (.bool (peB ps r)) ∧ Below w.heap.size w w' := by
  have hgd := fun W hW => imGood_any A n c base ps W hW hn
  have hpl := own_len ha
  have HA := hide ha
  unfold peB
  rcases hlm : mapB ps with _ | _
  · rw [hlm] at hgd
    rw [Bool.false_and]
    have HG := hide hgd
    clear hgd hlm ha hw
    go_enter Try.func44, Try.ntmps44
    go_wp2_with (go_at_call 51; (with_reducible refine ((unhide HG) _ (own_below (unhide HA) ?pb)).mono ?_); (case pb => exact (by repeat (first | with_reducible exact Below.refl _ _ | with_reducible assumption | (with_reducible refine Below.trans ?_ (Below.mono (by assumption) (by first | omega | (simp <;> omega)))) | with_reducible apply Below.drew | with_reducible apply below_drewN | (with_reducible refine Below.alloc ?_ (by first | omega | (simp <;> omega)) _) | (with_reducible refine Below.setCell ?_ (by first | omega | (simp <;> omega)) _)))); rintro e w1 ⟨rfl, hbw1⟩)
    go_ret
    exact ⟨rfl, (by repeat (first | with_reducible exact Below.refl _ _ | with_reducible assumption | (with_reducible refine Below.trans ?_ (Below.mono (by assumption) (by first | omega | (simp <;> omega)))) | with_reducible apply Below.drew | with_reducible apply below_drewN | (with_reducible refine Below.alloc ?_ (by first | omega | (simp <;> omega)) _) | (with_reducible refine Below.setCell ?_ (by first | omega | (simp <;> omega)) _)))⟩
  · rw [hlm] at hgd
    rw [Bool.true_and]
    have HG := hide hgd
    by_cases hr : 1 ≤ m ∧ m ≤ 8
    · rw [pwB_in (by rw [hl]; exact hr), hpl]
      have hal := fun (W : World) (hW : WCells W gw m r) => l1All_any gw m cw r 0 ((n : Int) - 2) W hW hm hl
      have he : r.all (inP n) = allIn 0 ((n : Int) - 2) r := rfl
      rw [he]
      have hin := fun W => l1In_yes (n := (m : Int)) (lo := 1) (hi := 8) (by omega) W
      have HIN := hide hin; have HAL := hide hal; have HW := hide hw
      clear hgd hlm ha hw hin hal he hl
      generalize allIn 0 ((n : Int) - 2) r = z at *
      have s1 : IntKind.i64.wrap ((n : Int) - 2) = (n : Int) - 2 := IntWalk.i64_in _ (by omega)
      go_enter Try.func44, Try.ntmps44
      go_wp2_with (first
        | (go_at_call 51; (with_reducible refine ((unhide HG) _ (own_below (unhide HA) ?pb)).mono ?_); (case pb => exact (by repeat (first | with_reducible exact Below.refl _ _ | with_reducible assumption | (with_reducible refine Below.trans ?_ (Below.mono (by assumption) (by first | omega | (simp <;> omega)))) | with_reducible apply Below.drew | with_reducible apply below_drewN | (with_reducible refine Below.alloc ?_ (by first | omega | (simp <;> omega)) _) | (with_reducible refine Below.setCell ?_ (by first | omega | (simp <;> omega)) _)))); rintro e w1 ⟨rfl, hbw1⟩; have hz1 := hbw1.size)
        | (go_at_call 53; (with_reducible refine ((unhide HIN) _).mono ?_); rintro e w' ⟨rfl, rfl⟩)
        | (go_at_call 82; (with_reducible refine ((unhide HAL) _ ((unhide HW).below ?pb)).mono ?_); (case pb => exact (by repeat (first | with_reducible exact Below.refl _ _ | with_reducible assumption | (with_reducible refine Below.trans ?_ (Below.mono (by assumption) (by first | omega | (simp <;> omega)))) | with_reducible apply Below.drew | with_reducible apply below_drewN | (with_reducible refine Below.alloc ?_ (by first | omega | (simp <;> omega)) _) | (with_reducible refine Below.setCell ?_ (by first | omega | (simp <;> omega)) _)))); rintro e w3 ⟨rfl, hbw3⟩))
      go_ret
      exact ⟨rfl, (by repeat (first | with_reducible exact Below.refl _ _ | with_reducible assumption | (with_reducible refine Below.trans ?_ (Below.mono (by assumption) (by first | omega | (simp <;> omega)))) | with_reducible apply Below.drew | with_reducible apply below_drewN | (with_reducible refine Below.alloc ?_ (by first | omega | (simp <;> omega)) _) | (with_reducible refine Below.setCell ?_ (by first | omega | (simp <;> omega)) _)))⟩
    · rw [pwB_len (by rw [hl]; exact hr)]
      have hin := fun W => l1In_no (n := (m : Int)) (lo := 1) (hi := 8) (by omega) W
      have HIN := hide hin
      clear hgd hlm ha hw hin hl
      go_enter Try.func44, Try.ntmps44
      go_wp2_with (first
        | (go_at_call 51; (with_reducible refine ((unhide HG) _ (own_below (unhide HA) ?pb)).mono ?_); (case pb => exact (by repeat (first | with_reducible exact Below.refl _ _ | with_reducible assumption | (with_reducible refine Below.trans ?_ (Below.mono (by assumption) (by first | omega | (simp <;> omega)))) | with_reducible apply Below.drew | with_reducible apply below_drewN | (with_reducible refine Below.alloc ?_ (by first | omega | (simp <;> omega)) _) | (with_reducible refine Below.setCell ?_ (by first | omega | (simp <;> omega)) _)))); rintro e w1 ⟨rfl, hbw1⟩; have hz1 := hbw1.size)
        | (go_at_call 53; (with_reducible refine ((unhide HIN) _).mono ?_); rintro e w' ⟨rfl, rfl⟩))
      go_ret
      exact ⟨rfl, (by repeat (first | with_reducible exact Below.refl _ _ | with_reducible assumption | (with_reducible refine Below.trans ?_ (Below.mono (by assumption) (by first | omega | (simp <;> omega)))) | with_reducible apply Below.drew | with_reducible apply below_drewN | (with_reducible refine Below.alloc ?_ (by first | omega | (simp <;> omega)) _) | (with_reducible refine Below.setCell ?_ (by first | omega | (simp <;> omega)) _)))⟩
/-- The facts on a word of a map's pieces. -/
theorem peB_facts {A : Option Addr} {n c base : Nat} {ps : List Pt} {r : List Int} {w : World} (ha : w.ownsRow base 62 4 (.slice A n c) n (ptcs ps)) (hz : peB ps r = true) :
    ∃ (g : Nat) (qs : List QP), A = some ⟨g, 0, none⟩ ∧ ps = qs.map qp ∧ GMap qs ∧ qs.length = n ∧ (1 ≤ r.length ∧ r.length ≤ 8) ∧ ∀ k ∈ r, 0 ≤ k ∧ k ≤ (n : Int) - 2 := by
  have hpl := own_len ha
  unfold peB at hz
  rw [Bool.and_eq_true] at hz
  obtain ⟨hm, hp⟩ := hz
  have hp' := pwB_yes.1 hp
  obtain ⟨qs, rfl, hg⟩ := gmap_of hm
  obtain ⟨g, hA⟩ := own_form0 ha (by have := hg.lo; rw [List.length_map] at hpl; omega)
  subst hA
  have hlen : qs.length = n := by rw [List.length_map] at hpl; exact hpl
  exact ⟨g, qs, rfl, rfl, hg, hlen, hp'.1, by rw [hpl] at hp'; exact hp'.2⟩

set_option maxRecDepth 100000 in
set_option maxHeartbeats 1600000 in
theorem sLineOfWord_any (A : Option Addr) (n c base : Nat) (ps : List Pt) (g1 n1 c1 b1 : Nat) (r : List Int) (w : World) (ha : w.ownsRow base 62 4 (.slice A n c) n (ptcs ps)) (hn : n ≤ 1048576)
    (h1 : w.ownsRow b1 3 1 (.slice (some ⟨g1, 0, none⟩) n1 c1) n1 (ints r)) (hn1 : n1 ≤ 1048576) :
    Calls Try.prog 13 #[.slice A n c, .slice (some ⟨g1, 0, none⟩) n1 c1] w fun e w' =>
      e = .returned (.tuple #[.agg #[.int .i64 (oN (mO (lnO ps r))), .int .i64 (oD (mO (lnO ps r)))], .agg #[.int .i64 (oN (bO (lnO ps r))), .int .i64 (oD (bO (lnO ps r)))], .bool (lnO ps r).isSome]) ∧ Below w.heap.size w w' := by
  have hrl : r.length = n1 := by have := h1.1; rw [ints_len] at this; omega
  have hwg := fun W hW hw => peGood_any A n c base ps g1 n1 c1 r W hW hn hw hn1 hrl
  have hWC := WCells.own h1
  have HA := hide ha; have HWC := hide hWC
  rcases hz : peB ps r with _ | _
  · rw [lnO_no hz]
    rw [hz] at hwg
    have HWG := hide hwg
    clear hz ha h1 hrl hwg hWC
    go_enter Try.func13, Try.ntmps13
    go_wp2_with (go_at_call 44; (with_reducible refine ((unhide HWG) _ (own_below (unhide HA) ?pb) ((unhide HWC).below ?pb)).mono ?_); (case pb => exact (by repeat (first | with_reducible exact Below.refl _ _ | with_reducible assumption | (with_reducible refine Below.trans ?_ (Below.mono (by assumption) (by first | omega | (simp <;> omega)))) | with_reducible apply Below.drew | with_reducible apply below_drewN | (with_reducible refine Below.alloc ?_ (by first | omega | (simp <;> omega)) _) | (with_reducible refine Below.setCell ?_ (by first | omega | (simp <;> omega)) _)))); rintro e w1 ⟨rfl, hbw1⟩; have hs1 := hbw1.size; (skip; (try ((have kw1w0 := (bnew hbw1) (w.heap.size) ?pf); (case pf => (first | omega | (simp; done) | (simp; omega))); obtain ⟨kcw1w0, kfw1w0, klw1w0⟩ := kw1w0)); (try ((have kw1w1 := (bnew hbw1) (w.heap.size + 1) ?pf); (case pf => (first | omega | (simp; done) | (simp; omega))); obtain ⟨kcw1w1, kfw1w1, klw1w1⟩ := kw1w1))))
    exact bodyPost_ret (v := .tuple #[.agg #[.int .i64 (0), .int .i64 (0)], .agg #[.int .i64 (0), .int .i64 (0)], .bool false]) (by simp [results, Try.results13, go_sem, *]) rfl ⟨rfl, (by repeat (first | with_reducible exact Below.refl _ _ | with_reducible assumption | (with_reducible refine Below.trans ?_ (Below.mono (by assumption) (by first | omega | (simp <;> omega)))) | with_reducible apply Below.drew | with_reducible apply below_drewN | (with_reducible refine Below.alloc ?_ (by first | omega | (simp <;> omega)) _) | (with_reducible refine Below.setCell ?_ (by first | omega | (simp <;> omega)) _)))⟩
  · obtain ⟨g, qs, rfl, rfl, hg, hlen, hr8, hin⟩ := peB_facts ha hz
    rw [lnO_yes hz, hrl]
    rw [hz] at hwg
    have hln := fun W hW hw => peLine_q g n c base g1 n1 c1 qs r W hW hg hw hn1 hrl hin
    have HWG := hide hwg; have HLN := hide hln
    clear hz ha h1 hrl hwg hWC hln hin hr8 hlen
    generalize oN (mO (lineK qs r n1)) = x1 at *
    generalize oD (mO (lineK qs r n1)) = x2 at *
    generalize oN (bO (lineK qs r n1)) = x3 at *
    generalize oD (bO (lineK qs r n1)) = x4 at *
    generalize (lineK qs r n1).isSome = z at *
    go_enter Try.func13, Try.ntmps13
    go_wp2_with (first
      | (go_at_call 44; (with_reducible refine ((unhide HWG) _ (own_below (unhide HA) ?pb) ((unhide HWC).below ?pb)).mono ?_); (case pb => exact (by repeat (first | with_reducible exact Below.refl _ _ | with_reducible assumption | (with_reducible refine Below.trans ?_ (Below.mono (by assumption) (by first | omega | (simp <;> omega)))) | with_reducible apply Below.drew | with_reducible apply below_drewN | (with_reducible refine Below.alloc ?_ (by first | omega | (simp <;> omega)) _) | (with_reducible refine Below.setCell ?_ (by first | omega | (simp <;> omega)) _)))); rintro e w1 ⟨rfl, hbw1⟩; have hs1 := hbw1.size; (skip; (try ((have kw1w0 := (bnew hbw1) (w.heap.size) ?pf); (case pf => (first | omega | (simp; done) | (simp; omega))); obtain ⟨kcw1w0, kfw1w0, klw1w0⟩ := kw1w0)); (try ((have kw1w1 := (bnew hbw1) (w.heap.size + 1) ?pf); (case pf => (first | omega | (simp; done) | (simp; omega))); obtain ⟨kcw1w1, kfw1w1, klw1w1⟩ := kw1w1))))
      | (go_at_call 45; (with_reducible refine ((unhide HLN) _ (own_below (unhide HA) ?pb) ((unhide HWC).below ?pb)).mono ?_); (case pb => exact (by repeat (first | with_reducible exact Below.refl _ _ | with_reducible assumption | (with_reducible refine Below.trans ?_ (Below.mono (by assumption) (by first | omega | (simp <;> omega)))) | with_reducible apply Below.drew | with_reducible apply below_drewN | (with_reducible refine Below.alloc ?_ (by first | omega | (simp <;> omega)) _) | (with_reducible refine Below.setCell ?_ (by first | omega | (simp <;> omega)) _)))); rintro e w2 ⟨rfl, hbw2⟩; have hs2 := hbw2.size; (skip; (try ((have kw2w0 := (bnew hbw2) (w.heap.size) ?pf); (case pf => (first | omega | (simp; done) | (simp; omega))); obtain ⟨kcw2w0, kfw2w0, klw2w0⟩ := kw2w0)); (try ((have kw2w1 := (bnew hbw2) (w.heap.size + 1) ?pf); (case pf => (first | omega | (simp; done) | (simp; omega))); obtain ⟨kcw2w1, kfw2w1, klw2w1⟩ := kw2w1)))))
    exact bodyPost_ret (v := .tuple #[.agg #[.int .i64 (x1), .int .i64 (x2)], .agg #[.int .i64 (x3), .int .i64 (x4)], .bool z]) (by simp [results, Try.results13, go_sem, *]) rfl ⟨rfl, (by repeat (first | with_reducible exact Below.refl _ _ | with_reducible assumption | (with_reducible refine Below.trans ?_ (Below.mono (by assumption) (by first | omega | (simp <;> omega)))) | with_reducible apply Below.drew | with_reducible apply below_drewN | (with_reducible refine Below.alloc ?_ (by first | omega | (simp <;> omega)) _) | (with_reducible refine Below.setCell ?_ (by first | omega | (simp <;> omega)) _)))⟩

set_option maxRecDepth 100000 in
set_option maxHeartbeats 1600000 in
theorem sWordMultiplier_any (A : Option Addr) (n c base : Nat) (ps : List Pt) (g1 n1 c1 b1 : Nat) (r : List Int) (w : World) (ha : w.ownsRow base 62 4 (.slice A n c) n (ptcs ps)) (hn : n ≤ 1048576)
    (h1 : w.ownsRow b1 3 1 (.slice (some ⟨g1, 0, none⟩) n1 c1) n1 (ints r)) (hn1 : n1 ≤ 1048576) :
    Calls Try.prog 30 #[.slice A n c, .slice (some ⟨g1, 0, none⟩) n1 c1] w fun e w' =>
      e = .returned (.tuple #[.agg #[.int .i64 (oN (mO (lnO ps r))), .int .i64 (oD (mO (lnO ps r)))], .bool (lnO ps r).isSome]) ∧ Below w.heap.size w w' := by
  have hrl : r.length = n1 := by have := h1.1; rw [ints_len] at this; omega
  have hwg := fun W hW hw => peGood_any A n c base ps g1 n1 c1 r W hW hn hw hn1 hrl
  have hWC := WCells.own h1
  have HA := hide ha; have HWC := hide hWC
  rcases hz : peB ps r with _ | _
  · rw [lnO_no hz]
    rw [hz] at hwg
    have HWG := hide hwg
    clear hz ha h1 hrl hwg hWC
    go_enter Try.func30, Try.ntmps30
    go_wp2_with (go_at_call 44; (with_reducible refine ((unhide HWG) _ (own_below (unhide HA) ?pb) ((unhide HWC).below ?pb)).mono ?_); (case pb => exact (by repeat (first | with_reducible exact Below.refl _ _ | with_reducible assumption | (with_reducible refine Below.trans ?_ (Below.mono (by assumption) (by first | omega | (simp <;> omega)))) | with_reducible apply Below.drew | with_reducible apply below_drewN | (with_reducible refine Below.alloc ?_ (by first | omega | (simp <;> omega)) _) | (with_reducible refine Below.setCell ?_ (by first | omega | (simp <;> omega)) _)))); rintro e w1 ⟨rfl, hbw1⟩; have hs1 := hbw1.size; (skip; (try ((have kw1w0 := (bnew hbw1) (w.heap.size) ?pf); (case pf => (first | omega | (simp; done) | (simp; omega))); obtain ⟨kcw1w0, kfw1w0, klw1w0⟩ := kw1w0))))
    exact bodyPost_ret (v := .tuple #[.agg #[.int .i64 (0), .int .i64 (0)], .bool false]) (by simp [results, Try.results30, go_sem, *]) rfl ⟨rfl, (by repeat (first | with_reducible exact Below.refl _ _ | with_reducible assumption | (with_reducible refine Below.trans ?_ (Below.mono (by assumption) (by first | omega | (simp <;> omega)))) | with_reducible apply Below.drew | with_reducible apply below_drewN | (with_reducible refine Below.alloc ?_ (by first | omega | (simp <;> omega)) _) | (with_reducible refine Below.setCell ?_ (by first | omega | (simp <;> omega)) _)))⟩
  · obtain ⟨g, qs, rfl, rfl, hg, hlen, hr8, hin⟩ := peB_facts ha hz
    rw [lnO_yes hz, hrl]
    rw [hz] at hwg
    have hln := fun W hW hw => peLine_q g n c base g1 n1 c1 qs r W hW hg hw hn1 hrl hin
    have HWG := hide hwg; have HLN := hide hln
    clear hz ha h1 hrl hwg hWC hln hin hr8 hlen
    generalize oN (mO (lineK qs r n1)) = x1 at *
    generalize oD (mO (lineK qs r n1)) = x2 at *
    generalize oN (bO (lineK qs r n1)) = x3 at *
    generalize oD (bO (lineK qs r n1)) = x4 at *
    generalize (lineK qs r n1).isSome = z at *
    go_enter Try.func30, Try.ntmps30
    go_wp2_with (first
      | (go_at_call 44; (with_reducible refine ((unhide HWG) _ (own_below (unhide HA) ?pb) ((unhide HWC).below ?pb)).mono ?_); (case pb => exact (by repeat (first | with_reducible exact Below.refl _ _ | with_reducible assumption | (with_reducible refine Below.trans ?_ (Below.mono (by assumption) (by first | omega | (simp <;> omega)))) | with_reducible apply Below.drew | with_reducible apply below_drewN | (with_reducible refine Below.alloc ?_ (by first | omega | (simp <;> omega)) _) | (with_reducible refine Below.setCell ?_ (by first | omega | (simp <;> omega)) _)))); rintro e w1 ⟨rfl, hbw1⟩; have hs1 := hbw1.size; (skip; (try ((have kw1w0 := (bnew hbw1) (w.heap.size) ?pf); (case pf => (first | omega | (simp; done) | (simp; omega))); obtain ⟨kcw1w0, kfw1w0, klw1w0⟩ := kw1w0))))
      | (go_at_call 45; (with_reducible refine ((unhide HLN) _ (own_below (unhide HA) ?pb) ((unhide HWC).below ?pb)).mono ?_); (case pb => exact (by repeat (first | with_reducible exact Below.refl _ _ | with_reducible assumption | (with_reducible refine Below.trans ?_ (Below.mono (by assumption) (by first | omega | (simp <;> omega)))) | with_reducible apply Below.drew | with_reducible apply below_drewN | (with_reducible refine Below.alloc ?_ (by first | omega | (simp <;> omega)) _) | (with_reducible refine Below.setCell ?_ (by first | omega | (simp <;> omega)) _)))); rintro e w2 ⟨rfl, hbw2⟩; have hs2 := hbw2.size; (skip; (try ((have kw2w0 := (bnew hbw2) (w.heap.size) ?pf); (case pf => (first | omega | (simp; done) | (simp; omega))); obtain ⟨kcw2w0, kfw2w0, klw2w0⟩ := kw2w0)))))
    exact bodyPost_ret (v := .tuple #[.agg #[.int .i64 (x1), .int .i64 (x2)], .bool z]) (by simp [results, Try.results30, go_sem, *]) rfl ⟨rfl, (by repeat (first | with_reducible exact Below.refl _ _ | with_reducible assumption | (with_reducible refine Below.trans ?_ (Below.mono (by assumption) (by first | omega | (simp <;> omega)))) | with_reducible apply Below.drew | with_reducible apply below_drewN | (with_reducible refine Below.alloc ?_ (by first | omega | (simp <;> omega)) _) | (with_reducible refine Below.setCell ?_ (by first | omega | (simp <;> omega)) _)))⟩
end Go.Proofs.Ythccdooacbablaa

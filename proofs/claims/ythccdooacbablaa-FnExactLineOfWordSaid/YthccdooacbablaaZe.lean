/-
  Chapter 8: pieces with their lines as closures, of the program.
-/
import Derived.Test.YthccdooacbablaaZd
import Derived.Test.YthccdooacbablaaPut
import Derived.Laws.EntriesVeiled
namespace Go.Proofs.Ythccdooacbablaa
open Go.RowKit Rm

/-- A piece in memory: its points, and the closure that puts a line into its line. -/
def PcAt (w : World) (v1 v2 : Value) (p q : QP) : Prop :=
  ∃ ge bs bt : Nat, v1 = .slice (some ⟨ge, 0, none⟩) 2 2 ∧ v2 = .func (.func 159) #[] #[.pointer (some ⟨bs, 0, none⟩), .pointer (some ⟨bt, 0, none⟩)] ∧
    ge < w.heap.size ∧ bs < w.heap.size ∧ bt < w.heap.size ∧
    (w.cell? ⟨ge, 0, none⟩ = some (.int .i64 p.1.num) ∧ w.cell? ⟨ge, 1, none⟩ = some (.int .i64 p.1.den) ∧ w.cell? ⟨ge, 2, none⟩ = some (.int .i64 p.2.num) ∧ w.cell? ⟨ge, 3, none⟩ = some (.int .i64 p.2.den)) ∧
    (w.cell? ⟨ge, 4, none⟩ = some (.int .i64 q.1.num) ∧ w.cell? ⟨ge, 5, none⟩ = some (.int .i64 q.1.den) ∧ w.cell? ⟨ge, 6, none⟩ = some (.int .i64 q.2.num) ∧ w.cell? ⟨ge, 7, none⟩ = some (.int .i64 q.2.den)) ∧
    (w.cell? ⟨bs, 0, none⟩ = some (.int .i64 (slopeR p q).num) ∧ w.cell? ⟨bs, 1, none⟩ = some (.int .i64 (slopeR p q).den)) ∧
    (w.cell? ⟨bt, 0, none⟩ = some (.int .i64 (oN (startO p q))) ∧ w.cell? ⟨bt, 1, none⟩ = some (.int .i64 (oD (startO p q))))
/-- A piece is kept where the cells of its blocks are. -/
theorem PcAt.to {w w' : World} {v1 v2 : Value} {p q : QP} (h : PcAt w v1 v2 p q) (hs : w.heap.size ≤ w'.heap.size) (hk : ∀ b a, b < w.heap.size → w.cell? ⟨b, 0, none⟩ = some (.int .i64 a) → ∀ o, w'.cell? ⟨b, o, none⟩ = w.cell? ⟨b, o, none⟩) : PcAt w' v1 v2 p q := by
  obtain ⟨ge, bs, bt, e1, e2, l1, l2, l3, ⟨a0, a1, a2, a3⟩, ⟨b0, b1, b2, b3⟩, ⟨s0, s1⟩, ⟨t0, t1⟩⟩ := h
  have k1 := hk ge _ l1 a0
  have k2 := hk bs _ l2 s0
  have k3 := hk bt _ l3 t0
  exact ⟨ge, bs, bt, e1, e2, by omega, by omega, by omega, ⟨(k1 _).trans a0, (k1 _).trans a1, (k1 _).trans a2, (k1 _).trans a3⟩, ⟨(k1 _).trans b0, (k1 _).trans b1, (k1 _).trans b2, (k1 _).trans b3⟩, ⟨(k2 _).trans s0, (k2 _).trans s1⟩, ⟨(k3 _).trans t0, (k3 _).trans t1⟩⟩
theorem PcAt.below {w w' : World} {v1 v2 : Value} {p q : QP} (h : PcAt w v1 v2 p q) (hb : Below w.heap.size w w') : PcAt w' v1 v2 p q :=
  h.to hb.size fun b _ hl _ o => hb.cell (p := ⟨b, o, none⟩) hl

def lineZ (z1 z3 : Bool) (n1 d1 n3 d3 : Int) : Value := match z1, z3 with | true, true => .agg #[.int .i64 n1, .int .i64 d1, .int .i64 n3, .int .i64 d3] | _, _ => .agg #[.int .i64 0, .int .i64 0, .int .i64 0, .int .i64 0]
set_option maxRecDepth 100000 in
set_option maxHeartbeats 1600000 in
theorem put_w (bs bt : Nat) (s1 s2 a1 a2 b1 b2 n1 d1 n2 d2 n3 d3 st1 st2 : Int) (z1 z2 z3 : Bool) (w : World) (ls : bs < w.heap.size) (lt : bt < w.heap.size)
    (c0 : w.cell? ⟨bs, 0, none⟩ = some (.int .i64 s1)) (c1 : w.cell? ⟨bs, 1, none⟩ = some (.int .i64 s2)) (t0 : w.cell? ⟨bt, 0, none⟩ = some (.int .i64 st1)) (t1 : w.cell? ⟨bt, 1, none⟩ = some (.int .i64 st2))
    (h1 : ∀ W, Calls Try.prog 113 #[.agg #[.int .i64 (s1), .int .i64 (s2)], .agg #[.int .i64 (a1), .int .i64 (a2)]] W fun e w' => e = .returned (.tuple #[.agg #[.int .i64 (n1), .int .i64 (d1)], .bool z1]) ∧ Below W.heap.size W w')
    (h2 : ∀ W, Calls Try.prog 113 #[.agg #[.int .i64 (s1), .int .i64 (s2)], .agg #[.int .i64 (b1), .int .i64 (b2)]] W fun e w' => e = .returned (.tuple #[.agg #[.int .i64 (n2), .int .i64 (d2)], .bool z2]) ∧ Below W.heap.size W w')
    (h3 : ∀ W, Calls Try.prog 160 #[.agg #[.int .i64 (n2), .int .i64 (d2)], .agg #[.int .i64 (st1), .int .i64 (st2)]] W fun e w' => e = .returned (.tuple #[.agg #[.int .i64 (n3), .int .i64 (d3)], .bool z3]) ∧ Below W.heap.size W w') :
    Calls Try.prog 159 #[.agg #[.int .i64 a1, .int .i64 a2, .int .i64 b1, .int .i64 b2], .pointer (some ⟨bs, 0, none⟩), .pointer (some ⟨bt, 0, none⟩)] w fun e w' =>
      e = .returned (.tuple #[lineZ z1 z3 n1 d1 n3 d3, .bool (z1 && z3)]) ∧ Below w.heap.size w w' := by
  have H1 := hide h1; have H2 := hide h2; have H3 := hide h3
  clear h1 h2 h3
  cases z1
  case false =>
    go_enter Try.func159, Try.ntmps159
    go_wp2_with ((go_at_call 113; (with_reducible refine ((unhide H1) _).mono ?_); rintro e w1 ⟨rfl, hbw1⟩; obtain ⟨hcw1, hfw1⟩ := bcell hbw1; have hzw1 := hbw1.size; (try simp at hzw1); (try ((have kw1w0 := (bnew hbw1) (w.heap.size) ?pf); (case pf => (first | omega | (simp; done) | (simp; omega))); obtain ⟨kcw1w0, kfw1w0, klw1w0⟩ := kw1w0)); (try ((have kw1w1 := (bnew hbw1) (w.heap.size + 1) ?pf); (case pf => (first | omega | (simp; done) | (simp; omega))); obtain ⟨kcw1w1, kfw1w1, klw1w1⟩ := kw1w1))))
    exact bodyPost_ret (v := .tuple #[.agg #[.int .i64 0, .int .i64 0, .int .i64 0, .int .i64 0], .bool false]) (by simp [results, Try.results159, go_sem, *]) rfl ⟨rfl, (by repeat (first | with_reducible exact Below.refl _ _ | with_reducible assumption | (with_reducible refine Below.trans ?_ (Below.mono (by assumption) (by first | omega | (simp <;> omega)))) | with_reducible apply Below.drew | with_reducible apply below_drewN | (with_reducible refine Below.alloc ?_ (by first | omega | (simp <;> omega)) _) | (with_reducible refine Below.setCell ?_ (by first | omega | (simp <;> omega)) _)))⟩
  case true =>
    cases z3
    case false =>
      go_enter Try.func159, Try.ntmps159
      go_wp2_with (first
        | (go_at_call 113; (with_reducible refine ((unhide H1) _).mono ?_); rintro e w1 ⟨rfl, hbw1⟩; obtain ⟨hcw1, hfw1⟩ := bcell hbw1; have hzw1 := hbw1.size; (try simp at hzw1); (try ((have kw1w0 := (bnew hbw1) (w.heap.size) ?pf); (case pf => (first | omega | (simp; done) | (simp; omega))); obtain ⟨kcw1w0, kfw1w0, klw1w0⟩ := kw1w0)); (try ((have kw1w1 := (bnew hbw1) (w.heap.size + 1) ?pf); (case pf => (first | omega | (simp; done) | (simp; omega))); obtain ⟨kcw1w1, kfw1w1, klw1w1⟩ := kw1w1)); (try ((have kw1bsX0 := (bnew hbw1) (bs) ?pf); (case pf => (first | omega | (simp; done) | (simp; omega))); obtain ⟨kcw1bsX0, kfw1bsX0, klw1bsX0⟩ := kw1bsX0)); (try ((have kw1btX0 := (bnew hbw1) (bt) ?pf); (case pf => (first | omega | (simp; done) | (simp; omega))); obtain ⟨kcw1btX0, kfw1btX0, klw1btX0⟩ := kw1btX0)))
        | (go_at_call 113; (with_reducible refine ((unhide H2) _).mono ?_); rintro e w2 ⟨rfl, hbw2⟩; obtain ⟨hcw2, hfw2⟩ := bcell hbw2; have hzw2 := hbw2.size; (try simp at hzw2); (try ((have kw2w0 := (bnew hbw2) (w.heap.size) ?pf); (case pf => (first | omega | (simp; done) | (simp; omega))); obtain ⟨kcw2w0, kfw2w0, klw2w0⟩ := kw2w0)); (try ((have kw2w1 := (bnew hbw2) (w.heap.size + 1) ?pf); (case pf => (first | omega | (simp; done) | (simp; omega))); obtain ⟨kcw2w1, kfw2w1, klw2w1⟩ := kw2w1)); (try ((have kw2bsX0 := (bnew hbw2) (bs) ?pf); (case pf => (first | omega | (simp; done) | (simp; omega))); obtain ⟨kcw2bsX0, kfw2bsX0, klw2bsX0⟩ := kw2bsX0)); (try ((have kw2btX0 := (bnew hbw2) (bt) ?pf); (case pf => (first | omega | (simp; done) | (simp; omega))); obtain ⟨kcw2btX0, kfw2btX0, klw2btX0⟩ := kw2btX0)); (try ((have kw2w10 := (bnew hbw2) (w1.heap.size) ?pf); (case pf => (first | omega | (simp; done) | (simp; omega))); obtain ⟨kcw2w10, kfw2w10, klw2w10⟩ := kw2w10)))
        | (go_at_call 160; (with_reducible refine ((unhide H3) _).mono ?_); rintro e w3 ⟨rfl, hbw3⟩; obtain ⟨hcw3, hfw3⟩ := bcell hbw3; have hzw3 := hbw3.size; (try simp at hzw3); (try ((have kw3w0 := (bnew hbw3) (w.heap.size) ?pf); (case pf => (first | omega | (simp; done) | (simp; omega))); obtain ⟨kcw3w0, kfw3w0, klw3w0⟩ := kw3w0)); (try ((have kw3w1 := (bnew hbw3) (w.heap.size + 1) ?pf); (case pf => (first | omega | (simp; done) | (simp; omega))); obtain ⟨kcw3w1, kfw3w1, klw3w1⟩ := kw3w1)); (try ((have kw3bsX0 := (bnew hbw3) (bs) ?pf); (case pf => (first | omega | (simp; done) | (simp; omega))); obtain ⟨kcw3bsX0, kfw3bsX0, klw3bsX0⟩ := kw3bsX0)); (try ((have kw3btX0 := (bnew hbw3) (bt) ?pf); (case pf => (first | omega | (simp; done) | (simp; omega))); obtain ⟨kcw3btX0, kfw3btX0, klw3btX0⟩ := kw3btX0)); (try ((have kw3w10 := (bnew hbw3) (w1.heap.size) ?pf); (case pf => (first | omega | (simp; done) | (simp; omega))); obtain ⟨kcw3w10, kfw3w10, klw3w10⟩ := kw3w10)); (try ((have kw3w20 := (bnew hbw3) (w2.heap.size) ?pf); (case pf => (first | omega | (simp; done) | (simp; omega))); obtain ⟨kcw3w20, kfw3w20, klw3w20⟩ := kw3w20))))
      exact bodyPost_ret (v := .tuple #[.agg #[.int .i64 0, .int .i64 0, .int .i64 0, .int .i64 0], .bool false]) (by simp [results, Try.results159, go_sem, *]) rfl ⟨rfl, (by repeat (first | with_reducible exact Below.refl _ _ | with_reducible assumption | (with_reducible refine Below.trans ?_ (Below.mono (by assumption) (by first | omega | (simp <;> omega)))) | with_reducible apply Below.drew | with_reducible apply below_drewN | (with_reducible refine Below.alloc ?_ (by first | omega | (simp <;> omega)) _) | (with_reducible refine Below.setCell ?_ (by first | omega | (simp <;> omega)) _)))⟩
    case true =>
      go_enter Try.func159, Try.ntmps159
      go_wp2_with (first
        | (go_at_call 113; (with_reducible refine ((unhide H1) _).mono ?_); rintro e w1 ⟨rfl, hbw1⟩; obtain ⟨hcw1, hfw1⟩ := bcell hbw1; have hzw1 := hbw1.size; (try simp at hzw1); (try ((have kw1w0 := (bnew hbw1) (w.heap.size) ?pf); (case pf => (first | omega | (simp; done) | (simp; omega))); obtain ⟨kcw1w0, kfw1w0, klw1w0⟩ := kw1w0)); (try ((have kw1w1 := (bnew hbw1) (w.heap.size + 1) ?pf); (case pf => (first | omega | (simp; done) | (simp; omega))); obtain ⟨kcw1w1, kfw1w1, klw1w1⟩ := kw1w1)); (try ((have kw1bsX0 := (bnew hbw1) (bs) ?pf); (case pf => (first | omega | (simp; done) | (simp; omega))); obtain ⟨kcw1bsX0, kfw1bsX0, klw1bsX0⟩ := kw1bsX0)); (try ((have kw1btX0 := (bnew hbw1) (bt) ?pf); (case pf => (first | omega | (simp; done) | (simp; omega))); obtain ⟨kcw1btX0, kfw1btX0, klw1btX0⟩ := kw1btX0)))
        | (go_at_call 113; (with_reducible refine ((unhide H2) _).mono ?_); rintro e w2 ⟨rfl, hbw2⟩; obtain ⟨hcw2, hfw2⟩ := bcell hbw2; have hzw2 := hbw2.size; (try simp at hzw2); (try ((have kw2w0 := (bnew hbw2) (w.heap.size) ?pf); (case pf => (first | omega | (simp; done) | (simp; omega))); obtain ⟨kcw2w0, kfw2w0, klw2w0⟩ := kw2w0)); (try ((have kw2w1 := (bnew hbw2) (w.heap.size + 1) ?pf); (case pf => (first | omega | (simp; done) | (simp; omega))); obtain ⟨kcw2w1, kfw2w1, klw2w1⟩ := kw2w1)); (try ((have kw2bsX0 := (bnew hbw2) (bs) ?pf); (case pf => (first | omega | (simp; done) | (simp; omega))); obtain ⟨kcw2bsX0, kfw2bsX0, klw2bsX0⟩ := kw2bsX0)); (try ((have kw2btX0 := (bnew hbw2) (bt) ?pf); (case pf => (first | omega | (simp; done) | (simp; omega))); obtain ⟨kcw2btX0, kfw2btX0, klw2btX0⟩ := kw2btX0)); (try ((have kw2w10 := (bnew hbw2) (w1.heap.size) ?pf); (case pf => (first | omega | (simp; done) | (simp; omega))); obtain ⟨kcw2w10, kfw2w10, klw2w10⟩ := kw2w10)))
        | (go_at_call 160; (with_reducible refine ((unhide H3) _).mono ?_); rintro e w3 ⟨rfl, hbw3⟩; obtain ⟨hcw3, hfw3⟩ := bcell hbw3; have hzw3 := hbw3.size; (try simp at hzw3); (try ((have kw3w0 := (bnew hbw3) (w.heap.size) ?pf); (case pf => (first | omega | (simp; done) | (simp; omega))); obtain ⟨kcw3w0, kfw3w0, klw3w0⟩ := kw3w0)); (try ((have kw3w1 := (bnew hbw3) (w.heap.size + 1) ?pf); (case pf => (first | omega | (simp; done) | (simp; omega))); obtain ⟨kcw3w1, kfw3w1, klw3w1⟩ := kw3w1)); (try ((have kw3bsX0 := (bnew hbw3) (bs) ?pf); (case pf => (first | omega | (simp; done) | (simp; omega))); obtain ⟨kcw3bsX0, kfw3bsX0, klw3bsX0⟩ := kw3bsX0)); (try ((have kw3btX0 := (bnew hbw3) (bt) ?pf); (case pf => (first | omega | (simp; done) | (simp; omega))); obtain ⟨kcw3btX0, kfw3btX0, klw3btX0⟩ := kw3btX0)); (try ((have kw3w10 := (bnew hbw3) (w1.heap.size) ?pf); (case pf => (first | omega | (simp; done) | (simp; omega))); obtain ⟨kcw3w10, kfw3w10, klw3w10⟩ := kw3w10)); (try ((have kw3w20 := (bnew hbw3) (w2.heap.size) ?pf); (case pf => (first | omega | (simp; done) | (simp; omega))); obtain ⟨kcw3w20, kfw3w20, klw3w20⟩ := kw3w20))))
      exact bodyPost_ret (v := .tuple #[.agg #[.int .i64 n1, .int .i64 d1, .int .i64 n3, .int .i64 d3], .bool true]) (by simp [results, Try.results159, go_sem, *]) rfl ⟨rfl, (by repeat (first | with_reducible exact Below.refl _ _ | with_reducible assumption | (with_reducible refine Below.trans ?_ (Below.mono (by assumption) (by first | omega | (simp <;> omega)))) | with_reducible apply Below.drew | with_reducible apply below_drewN | (with_reducible refine Below.alloc ?_ (by first | omega | (simp <;> omega)) _) | (with_reducible refine Below.setCell ?_ (by first | omega | (simp <;> omega)) _)))⟩
/-- The value of a line, or of none. -/
def lineV (o : Option (Rat × Rat)) : Value := .agg #[.int .i64 (oN (mO o)), .int .i64 (oD (mO o)), .int .i64 (oN (bO o)), .int .i64 (oD (bO o))]
theorem put_q {w : World} {v1 : Value} {bs bt : Nat} {p q : QP} (hp : PcAt w v1 (.func (.func 159) #[] #[.pointer (some ⟨bs, 0, none⟩), .pointer (some ⟨bt, 0, none⟩)]) p q) (hs : fits (slopeR p q) = true) (l : Rat × Rat) (h1 : fits l.1 = true) (h2 : fits l.2 = true) :
    Calls Try.prog 159 #[lineV (some l), .pointer (some ⟨bs, 0, none⟩), .pointer (some ⟨bt, 0, none⟩)] w fun e w' => e = .returned (.tuple #[lineV (putO p q l), .bool (putO p q l).isSome]) ∧ Below w.heap.size w w' := by
  obtain ⟨ge, bs', bt', e1, e2, l1, l2, l3, _, _, ⟨s0, s1⟩, ⟨t0, t1⟩⟩ := hp
  injection e2 with _ _ e3
  injection e3 with e3
  injection e3 with e4 e5
  injection e5 with e5 _
  injection e4 with e4
  injection e5 with e5
  obtain rfl : bs = bs' := (Addr.mk.inj (Option.some.inj e4)).1
  obtain rfl : bt = bt' := (Addr.mk.inj (Option.some.inj e5)).1
  refine (put_w bs bt _ _ _ _ _ _ (oN (omul (some (slopeR p q)) (some l.1))) (oD (omul (some (slopeR p q)) (some l.1))) (oN (omul (some (slopeR p q)) (some l.2))) (oD (omul (some (slopeR p q)) (some l.2)))
    (oN (oadd (omul (some (slopeR p q)) (some l.2)) (startO p q))) (oD (oadd (omul (some (slopeR p q)) (some l.2)) (startO p q))) _ _ (omul (some (slopeR p q)) (some l.1)).isSome (omul (some (slopeR p q)) (some l.2)).isSome (oadd (omul (some (slopeR p q)) (some l.2)) (startO p q)).isSome
    w l2 l3 s0 s1 t0 t1 (fun W => iMultiplyRats_o (some (slopeR p q)) (some l.1) (isR_some hs) (isR_some h1) W) (fun W => iMultiplyRats_o (some (slopeR p q)) (some l.2) (isR_some hs) (isR_some h2) W)
    (fun W => iAddRats_o _ (startO p q) (isR_omul _ _) (isR_osub _ _) W)).mono ?_
  rintro e w' ⟨rfl, hb⟩
  refine ⟨?_, hb⟩
  unfold putO
  cases omul (some (slopeR p q)) (some l.1) <;> cases oadd (omul (some (slopeR p q)) (some l.2)) (startO p q) <;> rfl

set_option maxRecDepth 100000 in
set_option maxHeartbeats 1600000 in
theorem pieceBetween_w (a1 a2 a3 a4 b1 b2 b3 b4 s1 s2 n1 d1 n2 d2 : Int) (z1 z2 : Bool) (w : World)
    (h0 : ∀ W, Calls Try.prog 148 #[.agg #[.int .i64 (a1), .int .i64 (a2), .int .i64 (a3), .int .i64 (a4)], .agg #[.int .i64 (b1), .int .i64 (b2), .int .i64 (b3), .int .i64 (b4)]] W fun e w' => e = .returned (.agg #[.int .i64 (s1), .int .i64 (s2)]) ∧ Below W.heap.size W w')
    (h1 : ∀ W, Calls Try.prog 113 #[.agg #[.int .i64 (s1), .int .i64 (s2)], .agg #[.int .i64 (a1), .int .i64 (a2)]] W fun e w' => e = .returned (.tuple #[.agg #[.int .i64 (n1), .int .i64 (d1)], .bool z1]) ∧ Below W.heap.size W w')
    (h2 : ∀ W, Calls Try.prog 93 #[.agg #[.int .i64 (a3), .int .i64 (a4)], .agg #[.int .i64 (n1), .int .i64 (d1)]] W fun e w' => e = .returned (.tuple #[.agg #[.int .i64 (n2), .int .i64 (d2)], .bool z2]) ∧ Below W.heap.size W w') :
    Calls Try.prog 132 #[.agg #[.int .i64 (a1), .int .i64 (a2), .int .i64 (a3), .int .i64 (a4)], .agg #[.int .i64 (b1), .int .i64 (b2), .int .i64 (b3), .int .i64 (b4)]] w fun e w' => ∃ ge bs bt : Nat, e = .returned (.agg #[.slice (some ⟨ge, 0, none⟩) 2 2, .func (.func 159) #[] #[.pointer (some ⟨bs, 0, none⟩), .pointer (some ⟨bt, 0, none⟩)]]) ∧
      (ge < w'.heap.size ∧ bs < w'.heap.size ∧ bt < w'.heap.size) ∧
      (w'.cell? ⟨ge, 0, none⟩ = some (.int .i64 a1) ∧ w'.cell? ⟨ge, 1, none⟩ = some (.int .i64 a2) ∧ w'.cell? ⟨ge, 2, none⟩ = some (.int .i64 a3) ∧ w'.cell? ⟨ge, 3, none⟩ = some (.int .i64 a4)) ∧
      (w'.cell? ⟨ge, 4, none⟩ = some (.int .i64 b1) ∧ w'.cell? ⟨ge, 5, none⟩ = some (.int .i64 b2) ∧ w'.cell? ⟨ge, 6, none⟩ = some (.int .i64 b3) ∧ w'.cell? ⟨ge, 7, none⟩ = some (.int .i64 b4)) ∧
      (w'.cell? ⟨bs, 0, none⟩ = some (.int .i64 s1) ∧ w'.cell? ⟨bs, 1, none⟩ = some (.int .i64 s2)) ∧ (w'.cell? ⟨bt, 0, none⟩ = some (.int .i64 n2) ∧ w'.cell? ⟨bt, 1, none⟩ = some (.int .i64 d2)) ∧ Below w.heap.size w w' := by
  have H0 := hide h0; have H1 := hide h1; have H2 := hide h2
  clear h0 h1 h2
  go_enter Try.func132, Try.ntmps132
  go_wp2_with (first
    | (go_at_call 148; (with_reducible refine ((unhide H0) _).mono ?_); rintro e w1 ⟨rfl, hbw1⟩; obtain ⟨hcw1, hfw1⟩ := bcell hbw1; have hzw1 := hbw1.size; (try simp at hzw1); (try ((have kw1w0 := (bnew hbw1) (w.heap.size) ?pf); (case pf => (first | omega | (simp; done) | (simp; omega))); obtain ⟨kcw1w0, kfw1w0, klw1w0⟩ := kw1w0)); (try ((have kw1w1 := (bnew hbw1) (w.heap.size + 1) ?pf); (case pf => (first | omega | (simp; done) | (simp; omega))); obtain ⟨kcw1w1, kfw1w1, klw1w1⟩ := kw1w1)); (try ((have kw1w2 := (bnew hbw1) (w.heap.size + 1 + 1) ?pf); (case pf => (first | omega | (simp; done) | (simp; omega))); obtain ⟨kcw1w2, kfw1w2, klw1w2⟩ := kw1w2)))
    | (go_at_call 113; (with_reducible refine ((unhide H1) _).mono ?_); rintro e w2 ⟨rfl, hbw2⟩; obtain ⟨hcw2, hfw2⟩ := bcell hbw2; have hzw2 := hbw2.size; (try simp at hzw2); (try ((have kw2w0 := (bnew hbw2) (w.heap.size) ?pf); (case pf => (first | omega | (simp; done) | (simp; omega))); obtain ⟨kcw2w0, kfw2w0, klw2w0⟩ := kw2w0)); (try ((have kw2w1 := (bnew hbw2) (w.heap.size + 1) ?pf); (case pf => (first | omega | (simp; done) | (simp; omega))); obtain ⟨kcw2w1, kfw2w1, klw2w1⟩ := kw2w1)); (try ((have kw2w2 := (bnew hbw2) (w.heap.size + 1 + 1) ?pf); (case pf => (first | omega | (simp; done) | (simp; omega))); obtain ⟨kcw2w2, kfw2w2, klw2w2⟩ := kw2w2)); (try ((have kw2w10 := (bnew hbw2) (w1.heap.size) ?pf); (case pf => (first | omega | (simp; done) | (simp; omega))); obtain ⟨kcw2w10, kfw2w10, klw2w10⟩ := kw2w10)))
    | (go_at_call 93; (with_reducible refine ((unhide H2) _).mono ?_); rintro e w3 ⟨rfl, hbw3⟩; obtain ⟨hcw3, hfw3⟩ := bcell hbw3; have hzw3 := hbw3.size; (try simp at hzw3); (try ((have kw3w0 := (bnew hbw3) (w.heap.size) ?pf); (case pf => (first | omega | (simp; done) | (simp; omega))); obtain ⟨kcw3w0, kfw3w0, klw3w0⟩ := kw3w0)); (try ((have kw3w1 := (bnew hbw3) (w.heap.size + 1) ?pf); (case pf => (first | omega | (simp; done) | (simp; omega))); obtain ⟨kcw3w1, kfw3w1, klw3w1⟩ := kw3w1)); (try ((have kw3w2 := (bnew hbw3) (w.heap.size + 1 + 1) ?pf); (case pf => (first | omega | (simp; done) | (simp; omega))); obtain ⟨kcw3w2, kfw3w2, klw3w2⟩ := kw3w2)); (try ((have kw3w10 := (bnew hbw3) (w1.heap.size) ?pf); (case pf => (first | omega | (simp; done) | (simp; omega))); obtain ⟨kcw3w10, kfw3w10, klw3w10⟩ := kw3w10)); (try ((have kw3w20 := (bnew hbw3) (w2.heap.size) ?pf); (case pf => (first | omega | (simp; done) | (simp; omega))); obtain ⟨kcw3w20, kfw3w20, klw3w20⟩ := kw3w20))))
  exact bodyPost_ret (v := .agg #[.slice (some ⟨w3.heap.size + 1, 0, none⟩) 2 2, .func (.func 159) #[] #[.pointer (some ⟨w1.heap.size, 0, none⟩), .pointer (some ⟨w3.heap.size, 0, none⟩)]]) (by simp [results, Try.results132, go_sem, *]) rfl
    ⟨w3.heap.size + 1, w1.heap.size, w3.heap.size, rfl, ⟨by simp, by simp; omega, by simp; omega⟩, ⟨by simp [go_sem], by simp [go_sem], by simp [go_sem], by simp [go_sem]⟩, ⟨by simp [go_sem], by simp [go_sem], by simp [go_sem], by simp [go_sem]⟩, ⟨by simp [go_sem, *], by simp [go_sem, *]⟩, ⟨by simp [go_sem], by simp [go_sem]⟩, (by repeat (first | with_reducible exact Below.refl _ _ | with_reducible assumption | (with_reducible refine Below.trans ?_ (Below.mono (by assumption) (by first | omega | (simp <;> omega)))) | with_reducible apply Below.drew | with_reducible apply below_drewN | (with_reducible refine Below.alloc ?_ (by first | omega | (simp <;> omega)) _) | (with_reducible refine Below.setCell ?_ (by first | omega | (simp <;> omega)) _)))⟩
theorem pieceBetween_q (p q : QP) (h1 : co p.1) (h2 : co p.2) (h3 : co q.1) (h4 : co q.2) (hlt : p.1 < q.1) (w : World) :
    Calls Try.prog 132 #[.agg #[.int .i64 (p.1.num), .int .i64 (p.1.den), .int .i64 (p.2.num), .int .i64 (p.2.den)], .agg #[.int .i64 (q.1.num), .int .i64 (q.1.den), .int .i64 (q.2.num), .int .i64 (q.2.den)]] w fun e w' => ∃ v1 v2 : Value, e = .returned (.agg #[v1, v2]) ∧ PcAt w' v1 v2 p q ∧ Below w.heap.size w w' := by
  have hs := slope_fits h1 h2 h3 h4 hlt
  refine (pieceBetween_w _ _ _ _ _ _ _ _ _ _ (oN (omul (some (slopeR p q)) (some p.1))) (oD (omul (some (slopeR p q)) (some p.1))) (oN (startO p q)) (oD (startO p q)) (omul (some (slopeR p q)) (some p.1)).isSome (startO p q).isSome w
    (fun W => slopeOf_q p q h1 h2 h3 h4 hlt W) (fun W => iMultiplyRats_o (some (slopeR p q)) (some p.1) (isR_some hs) (isR_some (co_fits h1)) W) (fun W => iSubtractRats_o (some p.2) _ (isR_some (co_fits h2)) (isR_omul _ _) W)).mono ?_
  rintro e w' ⟨ge, bs, bt, rfl, ⟨l1, l2, l3⟩, a, b, s, t, hb⟩
  exact ⟨_, _, rfl, ⟨ge, bs, bt, rfl, rfl, l1, l2, l3, a, b, s, t⟩, hb⟩
end Go.Proofs.Ythccdooacbablaa

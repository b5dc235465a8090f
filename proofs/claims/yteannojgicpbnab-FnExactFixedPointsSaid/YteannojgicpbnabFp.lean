/-
  Chapter 2: FixedPoints of the program.
-/
import Derived.Test.YteannojgicpbnabPm
namespace Go.Proofs.Yteannojgicpbnab
open Go.RowKit Rm

def sdF (p : QP) : Int := cq p.2 p.1
def innF (p q : QP) : Option Rat := some (fixR p q)
theorem sdF_wrap (p q : QP) : IntKind.i64.wrap (sdF p * sdF q) = sdF p * sdF q := cq_mul_wrap _ _ _ _
set_option maxRecDepth 100000 in
theorem side_fp (p : QP) (w : World) (h1 : co p.1) (h2 : co p.2) :
    Calls Try.prog 26 #[.agg #[.int .i64 (p.1.num), .int .i64 (p.1.den), .int .i64 (p.2.num), .int .i64 (p.2.den)]] w fun e w' => e = .returned (.int .i64 (sdF p)) ∧ Below w.heap.size w w' := by
  have hor := fun W => orderOf_q p.2 p.1 (co_fits h2) (co_fits h1) W
  rw [show cq p.2 p.1 = sdF p from rfl] at hor
  have HO := hide hor
  clear hor h1 h2
  generalize sdF p = z at *
  generalize p.1.num = p1 at *
  generalize (p.1.den : Int) = p2 at *
  generalize p.2.num = p3 at *
  generalize (p.2.den : Int) = p4 at *
  go_enter Try.func26, Try.ntmps26
  go_wp2_with ((go_at_call 27; (with_reducible refine ((unhide HO) _).mono ?_); rintro e w1 ⟨rfl, hbw1⟩; obtain ⟨hcw1, hfw1⟩ := bcell hbw1; have hzw1 := hbw1.size; (try simp at hzw1); (try ((have kw1w0 := (bnew hbw1) (w.heap.size) ?pf); (case pf => (first | omega | (simp; done) | (simp; omega))); obtain ⟨kcw1w0, kfw1w0, klw1w0⟩ := kw1w0))))
  go_ret
  exact ⟨rfl, (by repeat (first | with_reducible exact Below.refl _ _ | with_reducible assumption | (with_reducible refine Below.trans ?_ (Below.mono (by assumption) (by first | omega | (simp <;> omega)))) | with_reducible apply Below.drew | with_reducible apply below_drewN | (with_reducible refine Below.alloc ?_ (by first | omega | (simp <;> omega)) _) | (with_reducible refine Below.setCell ?_ (by first | omega | (simp <;> omega)) _)))⟩
theorem osub_f {a b : Rat} (h : fits (a - b) = true) : osub (some a) (some b) = some (a - b) := keep_fits h
theorem omul_f {a b : Rat} (h : fits (a * b) = true) : omul (some a) (some b) = some (a * b) := keep_fits h
theorem odiv_f {a b : Rat} (hb : b ≠ 0) (h : fits (a / b) = true) : odiv (some a) (some b) = some (a / b) := by
  show (if b = 0 then none else keep (a / b)) = _
  rw [if_neg hb]; exact keep_fits h

set_option maxRecDepth 100000 in
set_option maxHeartbeats 1600000 in
theorem fixedOnPiece_q (p q : QP) (w : World) (h1 : co p.1) (h2 : co p.2) (h3 : co q.1) (h4 : co q.2) (hne : (q.1 - p.1) - (q.2 - p.2) ≠ 0) :
    Calls Try.prog 28 #[.agg #[.int .i64 (p.1.num), .int .i64 (p.1.den), .int .i64 (p.2.num), .int .i64 (p.2.den)], .agg #[.int .i64 (q.1.num), .int .i64 (q.1.den), .int .i64 (q.2.num), .int .i64 (q.2.den)]] w fun e w' => e = .returned (.tuple #[.agg #[.int .i64 (oN (innF p q)), .int .i64 (oD (innF p q))], .bool (innF p q).isSome]) ∧ Below w.heap.size w w' := by
  have fl := mul_co_fits h3 h2
  have fr := mul_co_fits h1 h4
  have fn := fix_num_fits h1 h2 h3 h4
  have fu := sub_fits h3 h1
  have fi := sub_fits h4 h2
  have fd := fix_den_fits h1 h2 h3 h4
  have fx := fix_fits h1 h2 h3 h4 hne
  have c1 := fun W => iMultiplyRats_o (some q.1) (some p.2) (isR_some (co_fits h3)) (isR_some (co_fits h2)) W
  have c2 := fun W => iMultiplyRats_o (some p.1) (some q.2) (isR_some (co_fits h1)) (isR_some (co_fits h4)) W
  have c3 := fun W => iSubtractRats_o (some (q.1 * p.2)) (some (p.1 * q.2)) (isR_some fl) (isR_some fr) W
  have c4 := fun W => iSubtractRats_o (some q.1) (some p.1) (isR_some (co_fits h3)) (isR_some (co_fits h1)) W
  have c5 := fun W => iSubtractRats_o (some q.2) (some p.2) (isR_some (co_fits h4)) (isR_some (co_fits h2)) W
  have c6 := fun W => iSubtractRats_o (some (q.1 - p.1)) (some (q.2 - p.2)) (isR_some fu) (isR_some fi) W
  have c7 := fun W => iDivideRats_o (some (q.1 * p.2 - p.1 * q.2)) (some (q.1 - p.1 - (q.2 - p.2))) (isR_some fn) (isR_some fd) W
  rw [omul_f fl] at c1
  rw [omul_f fr] at c2
  rw [osub_f fn] at c3
  rw [osub_f fu] at c4
  rw [osub_f fi] at c5
  rw [osub_f fd] at c6
  rw [odiv_f hne fx] at c7
  simp only [oN_some, oD_some, Option.isSome_some] at c1 c2 c3 c4 c5 c6 c7
  rw [show innF p q = some ((q.1 * p.2 - p.1 * q.2) / (q.1 - p.1 - (q.2 - p.2))) from rfl]
  simp only [oN_some, oD_some, Option.isSome_some]
  clear fl fr fn fu fi fd fx h1 h2 h3 h4 hne
  generalize (q.1 * p.2 - p.1 * q.2) / (q.1 - p.1 - (q.2 - p.2)) = x at *
  generalize q.1 * p.2 - p.1 * q.2 = nu at *
  generalize q.1 - p.1 - (q.2 - p.2) = de at *
  generalize q.1 * p.2 = le at *
  generalize p.1 * q.2 = ri at *
  generalize q.1 - p.1 = ru at *
  generalize q.2 - p.2 = rs at *
  generalize x.num = xn at *
  generalize (x.den : Int) = xd at *
  generalize nu.num = nn at *
  generalize (nu.den : Int) = nd at *
  generalize de.num = dn at *
  generalize (de.den : Int) = dd at *
  generalize le.num = ln at *
  generalize (le.den : Int) = ld at *
  generalize ri.num = rn at *
  generalize (ri.den : Int) = rd at *
  generalize ru.num = un at *
  generalize (ru.den : Int) = ud at *
  generalize rs.num = sn at *
  generalize (rs.den : Int) = sdd at *
  generalize p.1.num = p1 at *
  generalize (p.1.den : Int) = p2 at *
  generalize p.2.num = p3 at *
  generalize (p.2.den : Int) = p4 at *
  generalize q.1.num = q1 at *
  generalize (q.1.den : Int) = q2 at *
  generalize q.2.num = q3 at *
  generalize (q.2.den : Int) = q4 at *
  have C1 := hide c1; have C2 := hide c2; have C3 := hide c3; have C4 := hide c4; have C5 := hide c5; have C6 := hide c6; have C7 := hide c7
  clear c1 c2 c3 c4 c5 c6 c7
  go_enter Try.func28, Try.ntmps28
  go_wp2_with (first | (go_at_call 52; have _t := hbw6; clear _t; (with_reducible refine ((unhide C7) _).mono ?_); rintro e w7 ⟨rfl, hbw7⟩; obtain ⟨hcw7, hfw7⟩ := bcell hbw7; have hzw7 := hbw7.size; (try simp at hzw7); (try ((have kw7w0 := (bnew hbw7) (w.heap.size) ?pf); (case pf => (first | omega | (simp; done) | (simp; omega))); obtain ⟨kcw7w0, kfw7w0, klw7w0⟩ := kw7w0)); (try ((have kw7w1 := (bnew hbw7) (w.heap.size + 1) ?pf); (case pf => (first | omega | (simp; done) | (simp; omega))); obtain ⟨kcw7w1, kfw7w1, klw7w1⟩ := kw7w1)); (try ((have kw7w2 := (bnew hbw7) (w.heap.size + 1 + 1) ?pf); (case pf => (first | omega | (simp; done) | (simp; omega))); obtain ⟨kcw7w2, kfw7w2, klw7w2⟩ := kw7w2)); (try ((have kw7w30 := (bnew hbw7) (w3.heap.size) ?pf); (case pf => (first | omega | (simp; done) | (simp; omega))); obtain ⟨kcw7w30, kfw7w30, klw7w30⟩ := kw7w30)); (try ((have kw7w60 := (bnew hbw7) (w6.heap.size) ?pf); (case pf => (first | omega | (simp; done) | (simp; omega))); obtain ⟨kcw7w60, kfw7w60, klw7w60⟩ := kw7w60))) | (go_at_call 51; have _t := hbw5; clear _t; (with_reducible refine ((unhide C6) _).mono ?_); rintro e w6 ⟨rfl, hbw6⟩; obtain ⟨hcw6, hfw6⟩ := bcell hbw6; have hzw6 := hbw6.size; (try simp at hzw6); (try ((have kw6w0 := (bnew hbw6) (w.heap.size) ?pf); (case pf => (first | omega | (simp; done) | (simp; omega))); obtain ⟨kcw6w0, kfw6w0, klw6w0⟩ := kw6w0)); (try ((have kw6w1 := (bnew hbw6) (w.heap.size + 1) ?pf); (case pf => (first | omega | (simp; done) | (simp; omega))); obtain ⟨kcw6w1, kfw6w1, klw6w1⟩ := kw6w1)); (try ((have kw6w2 := (bnew hbw6) (w.heap.size + 1 + 1) ?pf); (case pf => (first | omega | (simp; done) | (simp; omega))); obtain ⟨kcw6w2, kfw6w2, klw6w2⟩ := kw6w2)); (try ((have kw6w30 := (bnew hbw6) (w3.heap.size) ?pf); (case pf => (first | omega | (simp; done) | (simp; omega))); obtain ⟨kcw6w30, kfw6w30, klw6w30⟩ := kw6w30)); (try ((have kw6w40 := (bnew hbw6) (w4.heap.size) ?pf); (case pf => (first | omega | (simp; done) | (simp; omega))); obtain ⟨kcw6w40, kfw6w40, klw6w40⟩ := kw6w40)); (try ((have kw6w50 := (bnew hbw6) (w5.heap.size) ?pf); (case pf => (first | omega | (simp; done) | (simp; omega))); obtain ⟨kcw6w50, kfw6w50, klw6w50⟩ := kw6w50))) | (go_at_call 51; have _t := hbw4; clear _t; (with_reducible refine ((unhide C5) _).mono ?_); rintro e w5 ⟨rfl, hbw5⟩; obtain ⟨hcw5, hfw5⟩ := bcell hbw5; have hzw5 := hbw5.size; (try simp at hzw5); (try ((have kw5w0 := (bnew hbw5) (w.heap.size) ?pf); (case pf => (first | omega | (simp; done) | (simp; omega))); obtain ⟨kcw5w0, kfw5w0, klw5w0⟩ := kw5w0)); (try ((have kw5w1 := (bnew hbw5) (w.heap.size + 1) ?pf); (case pf => (first | omega | (simp; done) | (simp; omega))); obtain ⟨kcw5w1, kfw5w1, klw5w1⟩ := kw5w1)); (try ((have kw5w2 := (bnew hbw5) (w.heap.size + 1 + 1) ?pf); (case pf => (first | omega | (simp; done) | (simp; omega))); obtain ⟨kcw5w2, kfw5w2, klw5w2⟩ := kw5w2)); (try ((have kw5w30 := (bnew hbw5) (w3.heap.size) ?pf); (case pf => (first | omega | (simp; done) | (simp; omega))); obtain ⟨kcw5w30, kfw5w30, klw5w30⟩ := kw5w30)); (try ((have kw5w40 := (bnew hbw5) (w4.heap.size) ?pf); (case pf => (first | omega | (simp; done) | (simp; omega))); obtain ⟨kcw5w40, kfw5w40, klw5w40⟩ := kw5w40))) | (go_at_call 51; have _t := hbw3; clear _t; (with_reducible refine ((unhide C4) _).mono ?_); rintro e w4 ⟨rfl, hbw4⟩; obtain ⟨hcw4, hfw4⟩ := bcell hbw4; have hzw4 := hbw4.size; (try simp at hzw4); (try ((have kw4w0 := (bnew hbw4) (w.heap.size) ?pf); (case pf => (first | omega | (simp; done) | (simp; omega))); obtain ⟨kcw4w0, kfw4w0, klw4w0⟩ := kw4w0)); (try ((have kw4w1 := (bnew hbw4) (w.heap.size + 1) ?pf); (case pf => (first | omega | (simp; done) | (simp; omega))); obtain ⟨kcw4w1, kfw4w1, klw4w1⟩ := kw4w1)); (try ((have kw4w2 := (bnew hbw4) (w.heap.size + 1 + 1) ?pf); (case pf => (first | omega | (simp; done) | (simp; omega))); obtain ⟨kcw4w2, kfw4w2, klw4w2⟩ := kw4w2)); (try ((have kw4w30 := (bnew hbw4) (w3.heap.size) ?pf); (case pf => (first | omega | (simp; done) | (simp; omega))); obtain ⟨kcw4w30, kfw4w30, klw4w30⟩ := kw4w30))) | (go_at_call 51; have _t := hbw2; clear _t; (with_reducible refine ((unhide C3) _).mono ?_); rintro e w3 ⟨rfl, hbw3⟩; obtain ⟨hcw3, hfw3⟩ := bcell hbw3; have hzw3 := hbw3.size; (try simp at hzw3); (try ((have kw3w0 := (bnew hbw3) (w.heap.size) ?pf); (case pf => (first | omega | (simp; done) | (simp; omega))); obtain ⟨kcw3w0, kfw3w0, klw3w0⟩ := kw3w0)); (try ((have kw3w1 := (bnew hbw3) (w.heap.size + 1) ?pf); (case pf => (first | omega | (simp; done) | (simp; omega))); obtain ⟨kcw3w1, kfw3w1, klw3w1⟩ := kw3w1)); (try ((have kw3w2 := (bnew hbw3) (w.heap.size + 1 + 1) ?pf); (case pf => (first | omega | (simp; done) | (simp; omega))); obtain ⟨kcw3w2, kfw3w2, klw3w2⟩ := kw3w2)); (try ((have kw3w10 := (bnew hbw3) (w1.heap.size) ?pf); (case pf => (first | omega | (simp; done) | (simp; omega))); obtain ⟨kcw3w10, kfw3w10, klw3w10⟩ := kw3w10)); (try ((have kw3w20 := (bnew hbw3) (w2.heap.size) ?pf); (case pf => (first | omega | (simp; done) | (simp; omega))); obtain ⟨kcw3w20, kfw3w20, klw3w20⟩ := kw3w20))) | (go_at_call 50; have _t := hbw1; clear _t; (with_reducible refine ((unhide C2) _).mono ?_); rintro e w2 ⟨rfl, hbw2⟩; obtain ⟨hcw2, hfw2⟩ := bcell hbw2; have hzw2 := hbw2.size; (try simp at hzw2); (try ((have kw2w0 := (bnew hbw2) (w.heap.size) ?pf); (case pf => (first | omega | (simp; done) | (simp; omega))); obtain ⟨kcw2w0, kfw2w0, klw2w0⟩ := kw2w0)); (try ((have kw2w1 := (bnew hbw2) (w.heap.size + 1) ?pf); (case pf => (first | omega | (simp; done) | (simp; omega))); obtain ⟨kcw2w1, kfw2w1, klw2w1⟩ := kw2w1)); (try ((have kw2w2 := (bnew hbw2) (w.heap.size + 1 + 1) ?pf); (case pf => (first | omega | (simp; done) | (simp; omega))); obtain ⟨kcw2w2, kfw2w2, klw2w2⟩ := kw2w2)); (try ((have kw2w10 := (bnew hbw2) (w1.heap.size) ?pf); (case pf => (first | omega | (simp; done) | (simp; omega))); obtain ⟨kcw2w10, kfw2w10, klw2w10⟩ := kw2w10))) | (go_at_call 50; (with_reducible refine ((unhide C1) _).mono ?_); rintro e w1 ⟨rfl, hbw1⟩; obtain ⟨hcw1, hfw1⟩ := bcell hbw1; have hzw1 := hbw1.size; (try simp at hzw1); (try ((have kw1w0 := (bnew hbw1) (w.heap.size) ?pf); (case pf => (first | omega | (simp; done) | (simp; omega))); obtain ⟨kcw1w0, kfw1w0, klw1w0⟩ := kw1w0)); (try ((have kw1w1 := (bnew hbw1) (w.heap.size + 1) ?pf); (case pf => (first | omega | (simp; done) | (simp; omega))); obtain ⟨kcw1w1, kfw1w1, klw1w1⟩ := kw1w1)); (try ((have kw1w2 := (bnew hbw1) (w.heap.size + 1 + 1) ?pf); (case pf => (first | omega | (simp; done) | (simp; omega))); obtain ⟨kcw1w2, kfw1w2, klw1w2⟩ := kw1w2))))
  exact bodyPost_ret (v := .tuple #[.agg #[.int .i64 (xn), .int .i64 (xd)], .bool true]) (by simp [results, Try.results28, go_sem, *]) rfl ⟨rfl, (by repeat (first | with_reducible exact Below.refl _ _ | with_reducible assumption | (with_reducible refine Below.trans ?_ (Below.mono (by assumption) (by first | omega | (simp <;> omega)))) | with_reducible apply Below.drew | with_reducible apply below_drewN | (with_reducible refine Below.alloc ?_ (by first | omega | (simp <;> omega)) _) | (with_reducible refine Below.setCell ?_ (by first | omega | (simp <;> omega)) _)))⟩

set_option maxRecDepth 100000 in
set_option maxHeartbeats 3200000 in
theorem pw_fp (g m c base : Nat) (qs : List QP) (w : World) (ha : w.ownsRow base 45 4 (.slice (some ⟨g, 0, none⟩) (m + 1) c) (m + 1) (ptcs (qs.map qp))) (hg : GMap qs) :
    Calls Try.prog 25 #[.slice (some ⟨g, 0, none⟩) (m + 1) c, .func (.func 26) #[] #[], .func (.func 28) #[] #[]] w fun e w' =>
      (∀ l, pwK sdF innF qs (m + 1) = some l → ∃ v : Value, e = .returned (.tuple #[v, .bool true]) ∧ w'.ownsRow w.heap.size 37 2 v l.length (frcs (l.map qf))) ∧
      (pwK sdF innF qs (m + 1) = none → e = .returned (.tuple #[.slice none 0 0, .bool false])) ∧ Below w.heap.size w w' := by
  obtain ⟨i0, hi0, hz0, hz1, hz2⟩ := info_parts iRat
  have hlen : qs.length = m + 1 := by have := own_len ha; rw [List.length_map] at this; exact this
  have hhi := hg.hi
  rw [hlen] at hhi
  have hgl : g < w.heap.size := (ha.lt g rfl).2
  have hsd : ∀ k, k < m + 1 → ∀ W : World, Below w.heap.size w W → Calls Try.prog 26 #[.agg #[.int .i64 ((qAt qs k).1.num), .int .i64 ((qAt qs k).1.den), .int .i64 ((qAt qs k).2.num), .int .i64 ((qAt qs k).2.den)]] W fun e w' => e = .returned (.int .i64 (sdF (qAt qs k))) ∧ Below W.heap.size W w' :=
    fun k hk W _ => side_fp _ W (hg.cx k (by omega)) (hg.cy k (by omega))
  have hin : ∀ k, k + 1 < m + 1 → sdF (qAt qs k) * sdF (qAt qs (k + 1)) < 0 → ∀ W : World, Below w.heap.size w W → Calls Try.prog 28 #[.agg #[.int .i64 ((qAt qs k).1.num), .int .i64 ((qAt qs k).1.den), .int .i64 ((qAt qs k).2.num), .int .i64 ((qAt qs k).2.den)], .agg #[.int .i64 ((qAt qs (k + 1)).1.num), .int .i64 ((qAt qs (k + 1)).1.den), .int .i64 ((qAt qs (k + 1)).2.num), .int .i64 ((qAt qs (k + 1)).2.den)]] W fun e w' =>
      e = .returned (.tuple #[.agg #[.int .i64 (oN (innF (qAt qs k) (qAt qs (k + 1)))), .int .i64 (oD (innF (qAt qs k) (qAt qs (k + 1))))], .bool (innF (qAt qs k) (qAt qs (k + 1))).isSome]) ∧ Below W.heap.size W w' :=
    fun k hk hz W _ => fixedOnPiece_q _ _ W (hg.cx k (by omega)) (hg.cy k (by omega)) (hg.cx _ (by omega)) (hg.cy _ (by omega)) (fixR_ne hz)
  have HSD := hide hsd; have HIN := hide hin
  have HA := hide ha
  have HL := Lib.hid hlen
  clear hsd hin ha hlen
  go_enter Try.func25, Try.ntmps25
  go_wp2
  go_loopw [8, 15] (fun v i wr => ∃ (k : Nat) (u : Value) (l : List Rat), i = .int .i64 k ∧ u = v ∧ k ≤ m + 1 ∧ l.length ≤ k ∧ Hid (pwK sdF innF qs k = some l) ∧ wr.ownsRow w.heap.size 37 2 u l.length (frcs (l.map qf)) ∧ Below w.heap.size w wr) (fun _ i _ => m + 1 - (intOf i).toNat)
  case atStart => exact ⟨0, _, [], rfl, rfl, by omega, by simp, hide rfl, World.ownsRow_nil _ _ _ _, Below.refl _ _⟩
  case round =>
    obtain ⟨k, u, l, rfl, rfl, hk, hlk, HP, hown, hbwr⟩ := hrel
    have hzwr := hbwr.size
    by_cases hlt : k < m + 1
    · (skip; (try ((have kwrgX0 := (bnew hbwr) (g) ?pf); (case pf => (first | omega | (simp; done) | (simp; omega))); obtain ⟨kcwrgX0, kfwrgX0, klwrgX0⟩ := kwrgX0)))
      have hkl : k < qs.length := by rw [HL.out]; exact hlt
      have hC := own_below (unhide HA) hbwr
      obtain ⟨k0, k1, k2, k3⟩ := q_cells hC (k := k) hlt
      have hvB : ∀ j, u.ownBlock = some j → w.heap.size ≤ j := fun j e => (hown.lt j e).1
      have hside := (unhide HSD) k hlt
      have HC := hide hC
      have HS := hide hside
      have HO := hide hown
      have HV := hide hvB
      have HB := hide hbwr
      clear hown hvB hbwr kcwrgX0 kfwrgX0 hside hC
      obtain ⟨sa, hsa⟩ : ∃ r, r = sdF (qAt qs k) := ⟨_, rfl⟩
      rw [← hsa] at HS
      have HSA := Lib.hid hsa
      clear hsa
      by_cases h0 : sa = 0
      · subst h0
        have HP1 := hide (pwK_zero (unhide HP) HSA.out.symm)
        have hsn := frq_snoc l (qAt qs k).1
        have HSN := Lib.hid hsn
        clear hsn
        have hll : (l ++ [(qAt qs k).1]).length = l.length + 1 := by simp
        generalize l ++ [(qAt qs k).1] = l' at *
        generalize (qAt qs k).1.num = f1 at *
        generalize ((qAt qs k).1.den : Int) = f2 at *
        generalize (qAt qs k).2.num = f3 at *
        generalize ((qAt qs k).2.den : Int) = f4 at *
        go_upto_region 5 with fail
        go_cut [23] (fun s23 wx => s23 = .bool true ∧ Below wr.heap.size wr wx ∧ wx.cell? ⟨wr.heap.size, 0, none⟩ = some (.int .i64 f1) ∧ wx.cell? ⟨wr.heap.size, 1, none⟩ = some (.int .i64 f2))
        case first =>
          have hb := unhide HB
          go_wp2_with (go_at_call 26; (with_reducible refine ((unhide HS) _ ?pb).mono ?_); (case pb => exact (by repeat (first | with_reducible exact Below.refl _ _ | with_reducible assumption | (with_reducible refine Below.trans ?_ (Below.mono (by assumption) (by first | omega | (simp <;> omega)))) | with_reducible apply Below.drew | with_reducible apply below_drewN | (with_reducible refine Below.alloc ?_ (by first | omega | (simp <;> omega)) _) | (with_reducible refine Below.setCell ?_ (by first | omega | (simp <;> omega)) _)))); rintro e w3 ⟨rfl, hbw3⟩; (skip; (try ((have kw3wr0 := (bnew hbw3) (wr.heap.size) ?pf); (case pf => (first | omega | (simp; done) | (simp; omega))); obtain ⟨kcw3wr0, kfw3wr0, klw3wr0⟩ := kw3wr0))))
          go_meet
          exact ⟨by simp, (by repeat (first | with_reducible exact Below.refl _ _ | with_reducible assumption | (with_reducible refine Below.trans ?_ (Below.mono (by assumption) (by first | omega | (simp <;> omega)))) | with_reducible apply Below.drew | with_reducible apply below_drewN | (with_reducible refine Below.alloc ?_ (by first | omega | (simp <;> omega)) _) | (with_reducible refine Below.setCell ?_ (by first | omega | (simp <;> omega)) _))), by simp [go_sem, *], by simp [go_sem, *]⟩
        case rest =>
          obtain ⟨rfl, hbwc, d0, d1⟩ := hcut
          have hzc := hbwc.size
          have HBC := hide hbwc
          clear hbwc
          go_wp2_with (at_builtin; refine wpList_append_lies _ rfl _ _ _ rfl w.heap.size 37 i0 _ 2 16 Try.underlying24 hi0 hz0 hz1 hz2 rfl (by omega) u l.length _ rfl (World.ownsRow.alloc (own_below (unhide HO) (unhide HBC)) _) ⟨wc.heap.size, 0, none⟩ 1 1 [.int .i64 f1, .int .i64 f2] rfl rfl (World.news_of_block (cs := #[.int .i64 f1, .int .i64 f2]) (t := 37) (fr := (0, 0)) (heap_alloc_new wc _)) (by simp [Value.oneCell']) (by omega) (by unfold maxLen; omega) (by omega) (by simp; omega) (wc.heap.size + 1) (by simp) ?_; intro gg cap w4 hown4 hgrow hat hlt4)
          have hb := unhide HB
          have hbc := unhide HBC
          rw [← HSN.out] at hown4
          have hby : Below wr.heap.size wr (wc.alloc (.cells #[.int .i64 f1, .int .i64 f2] 37)) := (by repeat (first | with_reducible exact Below.refl _ _ | with_reducible assumption | (with_reducible refine Below.trans ?_ (Below.mono (by assumption) (by first | omega | (simp <;> omega)))) | with_reducible apply Below.drew | with_reducible apply below_drewN | (with_reducible refine Below.alloc ?_ (by first | omega | (simp <;> omega)) _) | (with_reducible refine Below.setCell ?_ (by first | omega | (simp <;> omega)) _)))
          have hbz : Below w.heap.size w w4 := (hb.trans (hby.mono hb.size)).grown hgrow (by have := hby.size; omega) (unhide HV)
          have HO4 := hide hown4
          have HBZ := hide hbz
          clear hown4 hby hgrow hb hbz hbc
          go_wp2_with fail
          go_roundw
          case rel => exact ⟨k + 1, _, l', by go_num, rfl, by omega, by omega, HP1, by rw [hll]; exact unhide HO4, unhide HBZ⟩
          case measure => (simp [intOf] <;> omega)
      · have hs1 : (sa == 0) = false := by simpa using h0
        have hs2 : decide (sa = 0) = false := by simpa using h0
        have h0' : ¬ sdF (qAt qs k) = 0 := by rw [← HSA.out]; exact h0
        generalize hf1 : (qAt qs k).1.num = f1 at *
        generalize hf2 : ((qAt qs k).1.den : Int) = f2 at *
        generalize hf3 : (qAt qs k).2.num = f3 at *
        generalize hf4 : ((qAt qs k).2.den : Int) = f4 at *
        go_upto_region 5 with fail
        go_cut [23] (fun s23 wx => s23 = .bool false ∧ Below wr.heap.size wr wx ∧ wx.cell? ⟨wr.heap.size, 0, none⟩ = some (.int .i64 f1) ∧ wx.cell? ⟨wr.heap.size, 1, none⟩ = some (.int .i64 f2) ∧ wx.cell? ⟨wr.heap.size, 2, none⟩ = some (.int .i64 f3) ∧ wx.cell? ⟨wr.heap.size, 3, none⟩ = some (.int .i64 f4))
        case first =>
          have hb := unhide HB
          go_wp2_with (go_at_call 26; (with_reducible refine ((unhide HS) _ ?pb).mono ?_); (case pb => exact (by repeat (first | with_reducible exact Below.refl _ _ | with_reducible assumption | (with_reducible refine Below.trans ?_ (Below.mono (by assumption) (by first | omega | (simp <;> omega)))) | with_reducible apply Below.drew | with_reducible apply below_drewN | (with_reducible refine Below.alloc ?_ (by first | omega | (simp <;> omega)) _) | (with_reducible refine Below.setCell ?_ (by first | omega | (simp <;> omega)) _)))); rintro e w3 ⟨rfl, hbw3⟩; (skip; (try ((have kw3wr0 := (bnew hbw3) (wr.heap.size) ?pf); (case pf => (first | omega | (simp; done) | (simp; omega))); obtain ⟨kcw3wr0, kfw3wr0, klw3wr0⟩ := kw3wr0))))
          go_meet
          exact ⟨by simp [*], (by repeat (first | with_reducible exact Below.refl _ _ | with_reducible assumption | (with_reducible refine Below.trans ?_ (Below.mono (by assumption) (by first | omega | (simp <;> omega)))) | with_reducible apply Below.drew | with_reducible apply below_drewN | (with_reducible refine Below.alloc ?_ (by first | omega | (simp <;> omega)) _) | (with_reducible refine Below.setCell ?_ (by first | omega | (simp <;> omega)) _))), by simp [go_sem, *], by simp [go_sem, *], by simp [go_sem, *], by simp [go_sem, *]⟩
        case rest =>
          obtain ⟨rfl, hbwc, d0, d1, d2, d3⟩ := hcut
          have hzc := hbwc.size
          have hbl : wr.heap.size < wc.heap.size := by
            rcases Nat.lt_or_ge wr.heap.size wc.heap.size with h | h
            · exact h
            · exact absurd d0 (by simp [World.cell?, Array.getElem?_eq_none h])
          have hside2 : ∀ W : World, Below w.heap.size w W → Calls Try.prog 26 #[.agg #[.int .i64 (f1), .int .i64 (f2), .int .i64 (f3), .int .i64 (f4)]] W fun e w' => e = .returned (.int .i64 sa) ∧ Below W.heap.size W w' := unhide HS
          have hb := unhide HB
          have hbw := hb.trans (hbwc.mono hb.size)
          have HBW := hide hbw
          have HC2 := hide (own_below (unhide HC) hbwc)
          have HO2 := hide (own_below (unhide HO) hbwc)
          clear hside2 hb hbw HC HO
          have s0 : (0 : Int) ≤ (k : Int) + 1 := by omega
          have s1 : IntKind.i64.wrap ((k : Int) + 1) = (k : Int) + 1 := IntWalk.i64_in _ (by omega)
          have s5 : ((k : Int) + 1).toNat = k + 1 := by omega
          by_cases hk1 : k = m
          · obtain rfl : m = k := hk1.symm
            have HP1 := hide (pwK_skip (unhide HP) h0' (fun h => absurd h (by rw [HL.out]; omega)))
            have HB2 := hide hbwc
            clear hbwc h0'
            go_upto_region 7 with fail
            go_cut [47] (fun s47 wx => s47 = .bool false ∧ Below wc.heap.size wc wx)
            case first =>
              go_quiet (fail)
              go_wp2_with fail
              go_meet
              exact ⟨by simp [*], (by repeat (first | with_reducible exact Below.refl _ _ | with_reducible assumption | (with_reducible refine Below.trans ?_ (Below.mono (by assumption) (by first | omega | (simp <;> omega)))) | with_reducible apply Below.drew | with_reducible apply below_drewN | (with_reducible refine Below.alloc ?_ (by first | omega | (simp <;> omega)) _) | (with_reducible refine Below.setCell ?_ (by first | omega | (simp <;> omega)) _)))⟩
            case rest =>
              obtain ⟨rfl, hbwd⟩ := hcut
              have hb := unhide HBW
              have HBZ := hide (hb.trans (hbwd.mono hb.size))
              have HO3 := hide (own_below (unhide HO2) hbwd)
              clear hb hbwd
              go_wp2_with fail
              go_roundw
              case rel => exact ⟨m + 1, _, l, by go_num, rfl, by omega, by omega, HP1, unhide HO3, unhide HBZ⟩
              case measure => (simp [intOf] <;> omega)
          · have hk2 : k + 1 < m + 1 := by omega
            have hk2l : k + 1 < qs.length := by rw [HL.out]; exact hk2
            obtain ⟨j0, j1, j2, j3⟩ := q_cells (unhide HC2) (k := k + 1) hk2
            have hsb := (unhide HSD) (k + 1) hk2
            obtain ⟨sb, hsbe⟩ : ∃ r, r = sdF (qAt qs (k + 1)) := ⟨_, rfl⟩
            rw [← hsbe] at hsb
            have hmw := sdF_wrap (qAt qs k) (qAt qs (k + 1))
            rw [← HSA.out, ← hsbe] at hmw
            have HSB := Lib.hid hsbe
            have HS2 := hide hsb
            have hinn := (unhide HIN) k hk2
            rw [hf1, hf2, hf3, hf4, ← HSA.out, ← HSB.out] at hinn
            have HI := hide hinn
            clear hsbe hsb hinn
            have s2 : (k : Int) + 1 < (m : Int) + 1 := by omega
            generalize (qAt qs (k + 1)).1.num = e1 at *
            generalize ((qAt qs (k + 1)).1.den : Int) = e2 at *
            generalize (qAt qs (k + 1)).2.num = e3 at *
            generalize ((qAt qs (k + 1)).2.den : Int) = e4 at *
            obtain ⟨bb, hbb⟩ : ∃ bb, decide (sa * sb < 0) = bb := ⟨_, rfl⟩
            have HBB := Lib.hid hbb
            have HB2 := hide hbwc
            clear hbwc
            go_upto_region 7 with fail
            go_cut [47] (fun s47 wx => s47 = .bool bb ∧ Below wc.heap.size wc wx)
            case first =>
              have hb := unhide HBW
              go_region_held3 (fun w' => (w'.cell? ⟨g, (k + 1) * 4, none⟩ = some (.int .i64 e1) ∧ w'.cell? ⟨g, (k + 1) * 4 + 1, none⟩ = some (.int .i64 e2) ∧ w'.cell? ⟨g, (k + 1) * 4 + 2, none⟩ = some (.int .i64 e3) ∧ w'.cell? ⟨g, (k + 1) * 4 + 3, none⟩ = some (.int .i64 e4)) ∧
                  w'.cell? ⟨wr.heap.size, 0, none⟩ = some (.int .i64 f1) ∧ w'.cell? ⟨wr.heap.size, 1, none⟩ = some (.int .i64 f2) ∧ w'.cell? ⟨wr.heap.size, 2, none⟩ = some (.int .i64 f3) ∧ w'.cell? ⟨wr.heap.size, 3, none⟩ = some (.int .i64 f4)) (simp [go_sem, *])
                (first
                  | ((go_at_call 26; (with_reducible refine ((unhide HS) _ ?pb).mono ?_); (case pb => exact (by repeat (first | with_reducible exact Below.refl _ _ | with_reducible assumption | (with_reducible refine Below.trans ?_ (Below.mono (by assumption) (by first | omega | (simp <;> omega)))) | with_reducible apply Below.drew | with_reducible apply below_drewN | (with_reducible refine Below.alloc ?_ (by first | omega | (simp <;> omega)) _) | (with_reducible refine Below.setCell ?_ (by first | omega | (simp <;> omega)) _)))); rintro e w3 ⟨rfl, hbw3⟩; have hz3 := hbw3.size; (try simp at hz3); (skip; (try ((have kw3gX0 := (bnew hbw3) (g) ?pf); (case pf => (first | omega | (simp; done) | (simp; omega))); obtain ⟨kcw3gX0, kfw3gX0, klw3gX0⟩ := kw3gX0)); (try ((have kw3wr0 := (bnew hbw3) (wr.heap.size) ?pf); (case pf => (first | omega | (simp; done) | (simp; omega))); obtain ⟨kcw3wr0, kfw3wr0, klw3wr0⟩ := kw3wr0)))))
                  | ((go_at_call 26; (with_reducible refine ((unhide HS2) _ ?pb).mono ?_); (case pb => exact (by repeat (first | with_reducible exact Below.refl _ _ | with_reducible assumption | (with_reducible refine Below.trans ?_ (Below.mono (by assumption) (by first | omega | (simp <;> omega)))) | with_reducible apply Below.drew | with_reducible apply below_drewN | (with_reducible refine Below.alloc ?_ (by first | omega | (simp <;> omega)) _) | (with_reducible refine Below.setCell ?_ (by first | omega | (simp <;> omega)) _)))); rintro e w4 ⟨rfl, hbw4⟩; have hz4 := hbw4.size; (try simp at hz4); (skip; (try ((have kw4gX0 := (bnew hbw4) (g) ?pf); (case pf => (first | omega | (simp; done) | (simp; omega))); obtain ⟨kcw4gX0, kfw4gX0, klw4gX0⟩ := kw4gX0)); (try ((have kw4wr0 := (bnew hbw4) (wr.heap.size) ?pf); (case pf => (first | omega | (simp; done) | (simp; omega))); obtain ⟨kcw4wr0, kfw4wr0, klw4wr0⟩ := kw4wr0))))))
              all_goals
                go_wp2_with fail
                go_meet
                exact ⟨by simp [*], (by repeat (first | with_reducible exact Below.refl _ _ | with_reducible assumption | (with_reducible refine Below.trans ?_ (Below.mono (by assumption) (by first | omega | (simp <;> omega)))) | with_reducible apply Below.drew | with_reducible apply below_drewN | (with_reducible refine Below.alloc ?_ (by first | omega | (simp <;> omega)) _) | (with_reducible refine Below.setCell ?_ (by first | omega | (simp <;> omega)) _)))⟩
            case rest =>
              obtain ⟨rfl, hbwd⟩ := hcut
              have hzd := hbwd.size
              have hb := unhide HBW
              have hbe := hb.trans (hbwd.mono hb.size)
              have HBE := hide hbe
              have HO3 := hide (own_below (unhide HO2) hbwd)
              have hgd : ∀ o, wc.cell? ⟨g, o, none⟩ = _ := fun o => hbwd.cell (p := ⟨g, o, none⟩) (by show g < _; omega)
              have hwd : ∀ o, wc.cell? ⟨wr.heap.size, o, none⟩ = _ := fun o => hbwd.cell (p := ⟨wr.heap.size, o, none⟩) hbl
              have i0' := (hgd _).trans j0
              have i1' := (hgd _).trans j1
              have i2' := (hgd _).trans j2
              have i3' := (hgd _).trans j3
              have b0' := (hwd _).trans d0
              have b1' := (hwd _).trans d1
              have b2' := (hwd _).trans d2
              have b3' := (hwd _).trans d3
              have hgl3 : g < wc.heap.size := by omega
              have hwl3 : wr.heap.size < wc.heap.size := by omega
              clear hgd hwd hb j0 j1 j2 j3 d0 d1 d2 d3
              cases bb
              · have hnn : ¬ sa * sb < 0 := of_decide_eq_false HBB.out
                have HP1 := hide (pwK_skip (unhide HP) h0' (fun _ => by rw [← HSA.out, ← HSB.out]; exact hnn))
                clear hbwd hbe hnn
                go_wp2_with fail
                go_roundw
                case rel => exact ⟨k + 1, _, l, by go_num, rfl, by omega, by omega, HP1, unhide HO3, unhide HBE⟩
                case measure => (simp [intOf] <;> omega)
              · have hnn : sa * sb < 0 := of_decide_eq_true HBB.out
                have hstep := pwK_in (unhide HP) h0' hk2l (by rw [← HSA.out, ← HSB.out]; exact hnn)
                clear hbwd hbe
                replace HI := hide ((unhide HI) hnn)
                obtain ⟨res, hres⟩ : ∃ r, r = innF (qAt qs k) (qAt qs (k + 1)) := ⟨_, rfl⟩
                rw [← hres] at hstep HI
                have HST := hide hstep
                clear hstep hres hnn
                obtain ⟨xn, hxn⟩ : ∃ r, r = oN res := ⟨_, rfl⟩
                obtain ⟨xd, hxd⟩ : ∃ r, r = oD res := ⟨_, rfl⟩
                obtain ⟨xz, hxz⟩ : ∃ r, r = res.isSome := ⟨_, rfl⟩
                rw [← hxn, ← hxd, ← hxz] at HI
                have HXN := Lib.hid hxn; have HXD := Lib.hid hxd; have HXZ := Lib.hid hxz
                clear hxn hxd hxz
                go_upto_region 8 with fail
                go_cut [11, 12] (fun s11 s12 wx => s12 = .bool xz ∧ ∃ h : Nat, s11 = .pointer (some ⟨h, 0, none⟩) ∧ Box2 wc wx h xn xd)
                case first =>
                  have hb := unhide HBE
                  go_region_held3 (fun w' => (w'.cell? ⟨g, (k + 1) * 4, none⟩ = some (.int .i64 e1) ∧ w'.cell? ⟨g, (k + 1) * 4 + 1, none⟩ = some (.int .i64 e2) ∧ w'.cell? ⟨g, (k + 1) * 4 + 2, none⟩ = some (.int .i64 e3) ∧ w'.cell? ⟨g, (k + 1) * 4 + 3, none⟩ = some (.int .i64 e4)) ∧
                      w'.cell? ⟨wr.heap.size, 0, none⟩ = some (.int .i64 f1) ∧ w'.cell? ⟨wr.heap.size, 1, none⟩ = some (.int .i64 f2) ∧ w'.cell? ⟨wr.heap.size, 2, none⟩ = some (.int .i64 f3) ∧ w'.cell? ⟨wr.heap.size, 3, none⟩ = some (.int .i64 f4)) (simp [go_sem, World.cell?_alloc_past, *])
                    (((go_at_call 28; (with_reducible refine ((unhide HI) _ ?pb).mono ?_); (case pb => exact (by repeat (first | with_reducible exact Below.refl _ _ | with_reducible assumption | (with_reducible refine Below.trans ?_ (Below.mono (by assumption) (by first | omega | (simp <;> omega)))) | with_reducible apply Below.drew | with_reducible apply below_drewN | (with_reducible refine Below.alloc ?_ (by first | omega | (simp <;> omega)) _) | (with_reducible refine Below.setCell ?_ (by first | omega | (simp <;> omega)) _)))); rintro e w5 ⟨rfl, hbw5⟩; have hz5 := hbw5.size; (try simp at hz5); (skip; (try ((have kw5gX0 := (bnew hbw5) (g) ?pf); (case pf => (first | omega | (simp; done) | (simp; omega))); obtain ⟨kcw5gX0, kfw5gX0, klw5gX0⟩ := kw5gX0)); (try ((have kw5wr.heap.sizeX0 := (bnew hbw5) (wr.heap.size) ?pf); (case pf => (first | omega | (simp; done) | (simp; omega))); obtain ⟨kcw5wr.heap.sizeX0, kfw5wr.heap.sizeX0, klw5wr.heap.sizeX0⟩ := kw5wr.heap.sizeX0)); (try ((have kw5wc0 := (bnew hbw5) (wc.heap.size) ?pf); (case pf => (first | omega | (simp; done) | (simp; omega))); obtain ⟨kcw5wc0, kfw5wc0, klw5wc0⟩ := kw5wc0))))))
                  all_goals
                    go_wp2_with fail
                    go_meet
                    refine ⟨rfl, _, rfl, ⟨(by repeat (first | with_reducible exact Below.refl _ _ | with_reducible assumption | (with_reducible refine Below.trans ?_ (Below.mono (by assumption) (by first | omega | (simp <;> omega)))) | with_reducible apply Below.drew | with_reducible apply below_drewN | (with_reducible refine Below.alloc ?_ (by first | omega | (simp <;> omega)) _) | (with_reducible refine Below.setCell ?_ (by first | omega | (simp <;> omega)) _))), ?_, ?_, ?_, ?_, ?_, ?_⟩⟩
                  all_goals first | (go_simp; done) | (simp [go_sem, *]; done) | omega | (simp <;> omega)
                case rest =>
                  obtain ⟨rfl, h, rfl, hB⟩ := hcut
                  have hbwe := hB.below
                  have hze := hbwe.size
                  have x0 := hB.c0
                  have x1 := hB.c1
                  have hhl := hB.hi
                  have hb := unhide HBE
                  have HBZ := hide (hb.trans (hbwe.mono hb.size))
                  have HO4 := hide (own_below (unhide HO3) hbwe)
                  clear hB hbwe hb i0' i1' i2' i3' b0' b1' b2' b3'
                  rcases res with _ | x
                  · obtain rfl : xz = false := HXZ.out
                    go_wp2_with fail
                    go_ret2
                    have hno := pwK_none (unhide HST) (j := m + 1) (m - k) (by omega)
                    exact ⟨fun l' hl' => by rw [hno] at hl'; (cases hl'), fun _ => rfl, unhide HBZ⟩
                  · obtain rfl : xz = true := HXZ.out
                    have HP1 := hide (show pwK sdF innF qs (k + 1) = some (l ++ [x]) from unhide HST)
                    have hsn := frq_snoc l x
                    rw [show x.num = xn from HXN.out.symm, show (x.den : Int) = xd from HXD.out.symm] at hsn
                    have HSN := Lib.hid hsn
                    have hll : (l ++ [x]).length = l.length + 1 := by simp
                    clear hsn HST HI
                    generalize l ++ [x] = l' at *
                    go_wp2_with (at_builtin; refine wpList_append_lies _ rfl _ _ _ rfl w.heap.size 37 i0 _ 2 16 Try.underlying24 hi0 hz0 hz1 hz2 rfl (by omega) u l.length _ rfl (World.ownsRow.alloc (unhide HO4) _) ⟨wc.heap.size, 0, none⟩ 1 1 [.int .i64 xn, .int .i64 xd] rfl rfl (World.news_of_block (cs := #[.int .i64 xn, .int .i64 xd]) (t := 37) (fr := (0, 0)) (heap_alloc_new wc _)) (by simp [Value.oneCell']) (by omega) (by unfold maxLen; omega) (by omega) (by simp; omega) (wc.heap.size + 1) (by simp) ?_; intro gg cap w4 hown4 hgrow hat hlt4)
                    have hb := unhide HBZ
                    rw [← HSN.out] at hown4
                    have hby : Below wc.heap.size wc (wc.alloc (.cells #[.int .i64 xn, .int .i64 xd] 37)) := (by repeat (first | with_reducible exact Below.refl _ _ | with_reducible assumption | (with_reducible refine Below.trans ?_ (Below.mono (by assumption) (by first | omega | (simp <;> omega)))) | with_reducible apply Below.drew | with_reducible apply below_drewN | (with_reducible refine Below.alloc ?_ (by first | omega | (simp <;> omega)) _) | (with_reducible refine Below.setCell ?_ (by first | omega | (simp <;> omega)) _)))
                    have hbz : Below w.heap.size w w4 := (hb.trans (hby.mono hb.size)).grown hgrow (by have := hby.size; have := hb.size; omega) (unhide HV)
                    have HO5 := hide hown4
                    have HBY := hide hbz
                    clear hown4 hby hgrow hb hbz
                    go_wp2_with fail
                    go_roundw
                    case rel => exact ⟨k + 1, _, l', by go_num, rfl, by omega, by omega, HP1, by rw [hll]; exact unhide HO5, unhide HBY⟩
                    case measure => (simp [intOf] <;> omega)
    · obtain rfl : k = m + 1 := by omega
      have HO := hide hown
      have HB := hide hbwr
      clear hown hbwr
      go_wp2
      go_ret2
      refine ⟨fun l' hl' => ?_, fun hn => ?_, unhide HB⟩
      · rw [unhide HP] at hl'
        injection hl' with hl'
        subst hl'
        exact ⟨_, rfl, unhide HO⟩
      · rw [unhide HP] at hn; cases hn
end Go.Proofs.Yteannojgicpbnab

/-
  Chapter 8: the pieces of a map, and a word with its line, of the program.
-/
import Derived.Test.YthccdooacbablaaZe
namespace Go.Proofs.Ythccdooacbablaa
open Go.RowKit Rm

theorem iPiece : (Try.prog.info? 123).map (fun i => (i.zero, i.size, i.bytes)) = some (some (.agg #[.slice none 0 0, .nilFunc]), 2, 32) := by kernel_rfl
theorem zlies_two {W : World} {Y c : Nat} {a b : Value} (h0 : W.cell? ⟨Y, 0, none⟩ = some a) (h1 : W.cell? ⟨Y, 1, none⟩ = some b) : Lies W (.slice (some ⟨Y, 0, none⟩) 1 c) 1 [a, b] := by
  refine .inr ⟨_, _, rfl, fun j u hu => ?_⟩
  rw [add_at]
  match j, hu with
  | 0, hu => simp only [List.getElem?_cons_zero, Option.some.injEq] at hu; subst hu; exact h0
  | 1, hu => simp only [List.getElem?_cons_succ, List.getElem?_cons_zero, Option.some.injEq] at hu; subst hu; exact h1
  | j + 2, hu => simp at hu
/-- A slice of pieces that the call owns. -/
def PcRow (w : World) (B : Nat) (v : Value) (l : List (QP × QP)) (vs : List Value) : Prop :=
  w.ownsRow B 123 2 v l.length vs ∧ (l = [] → v.ownBlock = none) ∧ ∀ (i : Nat) (p q : QP), l[i]? = some (p, q) → ∃ v1 v2 : Value, vs[i * 2]? = some v1 ∧ vs[i * 2 + 1]? = some v2 ∧ PcAt w v1 v2 p q
theorem PcRow.nil (w : World) (B : Nat) : PcRow w B (.slice none 0 0) [] [] := ⟨World.ownsRow_nil _ _ _ _, fun _ => rfl, fun i p q h => by simp at h⟩
theorem PcRow.below {w w' : World} {B : Nat} {v : Value} {l : List (QP × QP)} {vs : List Value} (h : PcRow w B v l vs) (hb : Below w.heap.size w w') : PcRow w' B v l vs :=
  ⟨own_below h.1 hb, h.2.1, fun i p q hi => by
    obtain ⟨v1, v2, e1, e2, hp⟩ := h.2.2 i p q hi
    exact ⟨v1, v2, e1, e2, hp.below hb⟩⟩
theorem PcRow.mono {w : World} {B B' : Nat} {v : Value} {l : List (QP × QP)} {vs : List Value} (h : PcRow w B v l vs) (hB : B' ≤ B) : PcRow w B' v l vs := ⟨h.1.mono hB, h.2⟩
theorem PcRow.at {w : World} {B : Nat} {A : Option Addr} {n c : Nat} {l : List (QP × QP)} {vs : List Value} (h : PcRow w B (.slice A n c) l vs) {i : Nat} {p q : QP} (hi : l[i]? = some (p, q)) :
    ∃ (g : Nat) (v1 v2 : Value), A = some ⟨g, 0, none⟩ ∧ g < w.heap.size ∧ w.cell? ⟨g, i * 2, none⟩ = some v1 ∧ w.cell? ⟨g, i * 2 + 1, none⟩ = some v2 ∧ PcAt w v1 v2 p q := by
  obtain ⟨v1, v2, e1, e2, hp⟩ := h.2.2 i p q hi
  have hl : i < l.length := by
    rcases Nat.lt_or_ge i l.length with h | h
    · exact h
    · rw [List.getElem?_eq_none h] at hi; cases hi
  obtain ⟨g, cap, hv, _, hg⟩ := h.1.form (by omega)
  injection hv with ha hn hc
  subst ha hn hc
  exact ⟨g, v1, v2, rfl, hg, (h.1.cellAt (i * 2) (by omega)).trans e1, (h.1.cellAt (i * 2 + 1) (by omega)).trans e2, hp⟩
/-- A block with a number at its head is not the slice's own. -/
theorem PcRow.apart {w : World} {B : Nat} {v : Value} {l : List (QP × QP)} {vs : List Value} (h : PcRow w B v l vs) {b : Nat} {a : Int} (h0 : w.cell? ⟨b, 0, none⟩ = some (.int .i64 a)) : some b ≠ v.ownBlock := by
  intro e
  rcases l with _ | ⟨⟨p, q⟩, l⟩
  · rw [h.2.1 rfl] at e; cases e
  · obtain ⟨A, c, hv⟩ := own_slice h.1
    subst hv
    obtain ⟨g, v1, v2, rfl, _, h1, _, hp⟩ := h.at (i := 0) rfl
    obtain rfl : b = g := by injection e
    obtain ⟨ge, _, _, rfl, _⟩ := hp
    rw [h0] at h1
    injection h1 with h1
    cases h1
theorem PcRow.snoc {w w2 w' : World} {B : Nat} {v v' v1 v2 : Value} {l : List (QP × QP)} {vs : List Value} {p q : QP} (h : PcRow w B v l vs) (hb : Below w.heap.size w w2) (hp : PcAt w2 v1 v2 p q)
    (hown : w'.ownsRow B 123 2 v' (l.length + 1) (vs ++ [v1, v2])) (hg : w2.grownBy w' v.ownBlock) : PcRow w' B v' (l ++ [(p, q)]) (vs ++ [v1, v2]) := by
  have h2 := h.below hb
  have hk : ∀ b a, b < w2.heap.size → w2.cell? ⟨b, 0, none⟩ = some (.int .i64 a) → ∀ o, w'.cell? ⟨b, o, none⟩ = w2.cell? ⟨b, o, none⟩ := fun b a hl h0 o =>
    World.cell?_of_block (a := ⟨b, o, none⟩) (hg.block b hl (fun e => h2.apart h0 e))
  have hvl : vs.length = l.length * 2 := h.1.1
  refine ⟨by simpa using hown, fun e => by simp at e, fun i p' q' hi => ?_⟩
  rcases Nat.lt_trichotomy i l.length with hlt | heq | hgt
  · rw [List.getElem?_append_left hlt] at hi
    obtain ⟨u1, u2, e1, e2, hp'⟩ := h2.2.2 i p' q' hi
    exact ⟨u1, u2, by rw [List.getElem?_append_left (by omega)]; exact e1, by rw [List.getElem?_append_left (by omega)]; exact e2, hp'.to hg.size hk⟩
  · subst heq
    rw [List.getElem?_append_right (Nat.le_refl _), Nat.sub_self] at hi
    simp only [List.getElem?_cons_zero, Option.some.injEq, Prod.mk.injEq] at hi
    obtain ⟨rfl, rfl⟩ := hi
    exact ⟨v1, v2, by rw [List.getElem?_append_right (by omega), show l.length * 2 - vs.length = 0 by omega]; rfl, by rw [List.getElem?_append_right (by omega), show l.length * 2 + 1 - vs.length = 1 by omega]; rfl, hp.to hg.size hk⟩
  · rw [List.getElem?_append_right (by omega)] at hi
    rw [List.getElem?_eq_none (by simp; omega)] at hi
    cases hi

/-- The first k pieces of a map. -/
def pcL (qs : List QP) (k : Nat) : List (QP × QP) := (List.range k).map fun i => (qAt qs i, qAt qs (i + 1))
theorem pcL_len (qs : List QP) (k : Nat) : (pcL qs k).length = k := by unfold pcL; simp
theorem pcL_sn (qs : List QP) (k : Nat) : pcL qs (k + 1) = pcL qs k ++ [(qAt qs k, qAt qs (k + 1))] := by unfold pcL; rw [List.range_succ, List.map_append]; rfl
theorem pcL_at {qs : List QP} {k i : Nat} (h : i < k) : (pcL qs k)[i]? = some (qAt qs i, qAt qs (i + 1)) := by unfold pcL; simp [h]

set_option maxRecDepth 100000 in
set_option maxHeartbeats 1600000 in
theorem piecesOfMap_q (g n c base : Nat) (qs : List QP) (w : World) (ha : w.ownsRow base 62 4 (.slice (some ⟨g, 0, none⟩) n c) n (ptcs (qs.map qp))) (hg : GMap qs) :
    Calls Try.prog 89 #[.slice (some ⟨g, 0, none⟩) n c] w fun e w' => ∃ (A : Option Addr) (d : Nat) (vs : List Value), e = .returned (.slice A (n - 1) d) ∧ PcRow w' w.heap.size (.slice A (n - 1) d) (pcL qs (n - 1)) vs ∧ Below w.heap.size w w' := by
  obtain ⟨i0, hi0, hz0, hz1, hz2⟩ := info_parts iPiece
  have hlen : qs.length = n := by have := own_len ha; rw [List.length_map] at this; exact this
  have hlo := hg.lo
  have hhi := hg.hi
  rw [hlen] at hlo hhi
  have hgl := (ha.lt g rfl).2
  have HA := hide ha; clear ha
  have HL := Lib.hid hlen; clear hlen
  go_enter Try.func89, Try.ntmps89
  go_wp2_with fail
  go_loopw [3, 4] (fun v i wr => ∃ (k : Nat) (u : Value) (vs : List Value), i = .int .i64 ((k : Int) + 1) ∧ u = v ∧ k + 1 ≤ n ∧ PcRow wr w.heap.size u (pcL qs k) vs ∧ Below w.heap.size w wr) (fun _ i _ => n - (intOf i).toNat)
  case atStart => exact ⟨0, _, [], rfl, rfl, by omega, PcRow.nil _ _, Below.refl _ _⟩
  case round =>
    obtain ⟨k, u, vs, rfl, rfl, hk, hrow, hbwr⟩ := hrel
    have hzwr := hbwr.size
    by_cases hlt : k + 1 < n
    · have hgr : g < wr.heap.size := by omega
      have hk1 : k + 1 < qs.length := by rw [HL.out]; exact hlt
      obtain ⟨k0, k1, k2, k3⟩ := q_cells (own_below (unhide HA) hbwr) (k := k) (by omega)
      obtain ⟨j0, j1, j2, j3⟩ := q_cells (own_below (unhide HA) hbwr) (k := k + 1) hlt
      have hsl := fun W => pieceBetween_q (qAt qs k) (qAt qs (k + 1)) (hg.cx _ (by omega)) (hg.cy _ (by omega)) (hg.cx _ hk1) (hg.cy _ hk1) (hg.inc k hk1) W
      have hsn := pcL_sn qs k
      have hown := hrow.1
      rw [pcL_len] at hown
      generalize qAt qs (k + 1) = q at *
      generalize qAt qs k = p at *
      have HS := hide hsl
      clear hsl
      generalize q.1.num = e1 at *
      generalize (q.1.den : Int) = e2 at *
      generalize q.2.num = e3 at *
      generalize (q.2.den : Int) = e4 at *
      generalize p.1.num = f1 at *
      generalize (p.1.den : Int) = f2 at *
      generalize p.2.num = f3 at *
      generalize (p.2.den : Int) = f4 at *
      have hvB : ∀ j, u.ownBlock = some j → w.heap.size ≤ j := fun j e => (hown.lt j e).1
      have s1 : IntKind.i64.wrap (k : Int) = (k : Int) := IntWalk.i64_in _ (by omega)
      have s2 : (0 : Int) ≤ (k : Int) + 1 := by omega
      have s3 : (k : Int) + 1 < (n : Int) := by omega
      have s4 : (k : Int) < (n : Int) := by omega
      have s5 : ((k : Int) + 1).toNat = k + 1 := by omega
      have HN := Lib.hid hsn
      have HO := hide hown
      have HV := hide hvB
      have HB := hide hbwr
      have HROW := hide hrow
      clear hsn hown hbwr hvB hrow
      go_upto_region 5 with fail
      go_region_held3 (fun w' => (w'.cell? ⟨g, (k + 1) * 4, none⟩ = some (.int .i64 e1) ∧ w'.cell? ⟨g, (k + 1) * 4 + 1, none⟩ = some (.int .i64 e2) ∧ w'.cell? ⟨g, (k + 1) * 4 + 2, none⟩ = some (.int .i64 e3) ∧ w'.cell? ⟨g, (k + 1) * 4 + 3, none⟩ = some (.int .i64 e4)) ∧
          w'.cell? ⟨g, k * 4, none⟩ = some (.int .i64 f1) ∧ w'.cell? ⟨g, k * 4 + 1, none⟩ = some (.int .i64 f2) ∧ w'.cell? ⟨g, k * 4 + 2, none⟩ = some (.int .i64 f3) ∧ w'.cell? ⟨g, k * 4 + 3, none⟩ = some (.int .i64 f4)) (simp [go_sem, World.cell?_alloc_past, *])
        (first
          | (go_at_call 132; (with_reducible refine ((unhide HS) _).mono ?_); rintro e w3 ⟨v1, v2, rfl, ⟨ge, bs, bt, rfl, rfl, hrest⟩, hbw3⟩; have hz3 := hbw3.size; (try simp at hz3); have HR := hide hrest; clear hrest; (skip; (try ((have kw3gX0 := (bnew hbw3) (g) ?pf); (case pf => (first | omega | (simp; done) | (simp; omega))); obtain ⟨kcw3gX0, kfw3gX0, klw3gX0⟩ := kw3gX0))))
          | (refine step_append_any (by rfl) _ _ _ (by rfl) w.heap.size 123 i0 _ 2 32 Try.underlying66 hi0 hz0 hz1 hz2 rfl (by omega) u k vs (by rfl) ((own_below (unhide HO) (show Below wr.heap.size wr w3 from (by repeat (first | with_reducible exact Below.refl _ _ | with_reducible assumption | (with_reducible refine Below.trans ?_ (Below.mono (by assumption) (by first | omega | (simp <;> omega)))) | with_reducible apply Below.drew | with_reducible apply below_drewN | (with_reducible refine Below.alloc ?_ (by first | omega | (simp <;> omega)) _) | (with_reducible refine Below.setCell ?_ (by first | omega | (simp <;> omega)) _))))).alloc _) _ 1 [.slice (some ⟨ge, 0, none⟩) 2 2, .func (.func 159) #[] #[.pointer (some ⟨bs, 0, none⟩), .pointer (some ⟨bt, 0, none⟩)]] (by rfl) (zlies_two (by simp [go_sem]) (by simp [go_sem])) rfl (by simp [Value.oneCell']) (Nat.le_trans (by omega) maxLen_ge) (by omega) (by first | omega | (simp; omega)) (k + 1) rfl ?_; intro Ag cap w4 hown4 hgrow; have kg := grown_far hgrow (unhide HV) hgl (by simp; omega)))
      all_goals
        have hb := unhide HB
        have hpc : PcAt w3 _ _ p q := ⟨ge, bs, bt, rfl, rfl, unhide HR⟩
        have hby : Below wr.heap.size wr (w3.alloc (.cells #[.slice (some ⟨ge, 0, none⟩) 2 2, .func (.func 159) #[] #[.pointer (some ⟨bs, 0, none⟩), .pointer (some ⟨bt, 0, none⟩)]] 123)) := (by repeat (first | with_reducible exact Below.refl _ _ | with_reducible assumption | (with_reducible refine Below.trans ?_ (Below.mono (by assumption) (by first | omega | (simp <;> omega)))) | with_reducible apply Below.drew | with_reducible apply below_drewN | (with_reducible refine Below.alloc ?_ (by first | omega | (simp <;> omega)) _) | (with_reducible refine Below.setCell ?_ (by first | omega | (simp <;> omega)) _)))
        have hbz : Below w.heap.size w w4 := (hb.trans (hby.mono hb.size)).grown hgrow (by have := hby.size; omega) (unhide HV)
        have hrow4 := (unhide HROW).snoc hby (hpc.below (by repeat (first | with_reducible exact Below.refl _ _ | with_reducible assumption | (with_reducible refine Below.trans ?_ (Below.mono (by assumption) (by first | omega | (simp <;> omega)))) | with_reducible apply Below.drew | with_reducible apply below_drewN | (with_reducible refine Below.alloc ?_ (by first | omega | (simp <;> omega)) _) | (with_reducible refine Below.setCell ?_ (by first | omega | (simp <;> omega)) _)))) (by rw [pcL_len]; exact hown4) hgrow
        rw [← HN.out] at hrow4
        have HO4 := hide hrow4
        have HBZ := hide hbz
        clear hown4 hby hgrow hb hbz hpc hrow4
        go_wp2_with fail
        go_roundw
        case rel => exact ⟨k + 1, _, _, by go_num, rfl, by omega, unhide HO4, unhide HBZ⟩
        case measure => simp [intOf]; omega
    · obtain rfl : n = k + 1 := by omega
      obtain ⟨A, d, hAd⟩ := own_slice hrow.1
      rw [pcL_len] at hAd
      have HO := hide hrow
      have HB := hide hbwr
      clear hrow hbwr
      subst hAd
      go_wp2
      go_ret
      exact ⟨_, _, _, rfl, unhide HO, unhide HB⟩
end Go.Proofs.Ythccdooacbablaa

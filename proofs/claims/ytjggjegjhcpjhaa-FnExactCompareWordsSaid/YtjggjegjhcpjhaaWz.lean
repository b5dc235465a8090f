/-
  Chapter 6: CompareWords of the program.
-/
import Derived.Test.YtjggjegjhcpjhaaWy
namespace Go.Proofs.Ytjggjegjhcpjhaa
open Go.RowKit Rm

/-- The twisted order from place i on, n places left. -/
def cwF (qs : List QP) (a b : List Int) : Nat → Nat → Int
  | 0, _ => 0
  | n + 1, i => if a.getD i 0 = b.getD i 0 then cwF qs a b n (i + 1) else sgK qs a i * cmpI (a.getD i 0) (b.getD i 0)
theorem cwF_eq {qs : List QP} {a b : List Int} : ∀ (n i : Nat), (∀ j, i ≤ j → j < i + n → a.getD j 0 = b.getD j 0) → cwF qs a b n i = 0
  | 0, _, _ => rfl
  | n + 1, i, h => by
    rw [cwF, if_pos (h i (Nat.le_refl _) (by omega))]
    exact cwF_eq n (i + 1) fun j h1 h2 => h j (by omega) (by omega)
theorem cwF_ne {qs : List QP} {a b : List Int} {k : Nat} (hne : a.getD k 0 ≠ b.getD k 0) : ∀ (n i : Nat), i ≤ k → k < i + n → (∀ j, i ≤ j → j < k → a.getD j 0 = b.getD j 0) → cwF qs a b n i = sgK qs a k * cmpI (a.getD k 0) (b.getD k 0)
  | 0, i, h1, h2, _ => by omega
  | n + 1, i, h1, h2, h => by
    rw [cwF]
    by_cases e : i = k
    · subst e; rw [if_neg hne]
    · rw [if_pos (h i (Nat.le_refl _) (by omega))]
      exact cwF_ne hne n (i + 1) (by omega) (by omega) fun j h3 h4 => h j (by omega) h4
def cwZ (ps : List Pt) (a b : List Int) : Bool := wsB ps [a, b] && decide (a.length = b.length)
def cwI (ps : List Pt) (a b : List Int) : Int := match cwZ ps a b with | true => cwF (dec ps) a b a.length 0 | false => 0
theorem cwI_no {ps : List Pt} {a b : List Int} (h : cwZ ps a b = false) : cwI ps a b = 0 := by unfold cwI; simp only [h]
theorem cwI_yes {qs : List QP} {a b : List Int} (h : cwZ (qs.map qp) a b = true) : cwI (qs.map qp) a b = cwF qs a b a.length 0 := by unfold cwI; simp only [h, dec_qp]
theorem cmpI_bd (a b : Int) : -1 ≤ cmpI a b ∧ cmpI a b ≤ 1 := by unfold cmpI; split; omega; split <;> omega
theorem wsB_two {ps : List Pt} {a b : List Int} : wsB ps [a, b] = (lmB ps && (wdB (lapsQ (dec ps)).length a && wdB (lapsQ (dec ps)).length b)) := by unfold wsB; simp
theorem wordsAt_two {w : World} {B1 g1 n1 c1 B2 g2 n2 c2 : Nat} {r s : List Int} (h : w.ownsRow B1 3 1 (.slice (some ⟨g1, 0, none⟩) n1 c1) n1 (ints r)) (hn : n1 ≤ 1048576)
    (h' : w.ownsRow B2 3 1 (.slice (some ⟨g2, 0, none⟩) n2 c2) n2 (ints s)) (hn' : n2 ≤ 1048576) :
    WordsAt (w.alloc (.cells #[.slice (some ⟨g1, 0, none⟩) n1 c1, .slice (some ⟨g2, 0, none⟩) n2 c2] 36)) w.heap.size [.slice (some ⟨g1, 0, none⟩) n1 c1, .slice (some ⟨g2, 0, none⟩) n2 c2] [r, s] := by
  refine ⟨by simp, rfl, fun i v hi => ?_, fun i v s hi hs => ?_⟩
  · match i, hi with
    | 0, hi => simp only [List.getElem?_cons_zero, Option.some.injEq] at hi; subst hi; simp [go_sem]
    | 1, hi => simp only [List.getElem?_cons_succ, List.getElem?_cons_zero, Option.some.injEq] at hi; subst hi; simp [go_sem]
    | i + 2, hi => simp at hi
  · match i, hi, hs with
    | 0, hi, hs =>
      simp only [List.getElem?_cons_zero, Option.some.injEq] at hi hs
      subst hi hs
      exact ⟨_, n1, c1, B1, rfl, hn, h.alloc _⟩
    | 1, hi, hs =>
      simp only [List.getElem?_cons_succ, List.getElem?_cons_zero, Option.some.injEq] at hi hs
      subst hi hs
      exact ⟨_, n2, c2, B2, rfl, hn', h'.alloc _⟩
    | i + 2, hi, _ => simp at hi
theorem arF_in {r : List Int} {k : Nat} (h : k < r.length) : arF r k = r.getD k 0 := by unfold arF; rw [if_pos h]
theorem arF_out {r : List Int} {k : Nat} (h : r.length ≤ k) : arF r k = -1 := by unfold arF; rw [if_neg (by omega)]
theorem arF_bd {r : List Int} {n : Nat} (hn : n ≤ 1000) (h : ∀ k ∈ r, 0 ≤ k ∧ k < (n : Int)) : ∀ k, k < 20 → -1 ≤ arF r k ∧ arF r k ≤ 1000 := fun k _ => by
  rcases Nat.lt_or_ge k r.length with h1 | h1
  · rw [arF_in h1]
    have := h (r.getD k 0) (by rw [List.getD_eq_getElem?_getD, List.getElem?_eq_getElem h1]; exact List.getElem_mem h1)
    omega
  · rw [arF_out h1]; omega

set_option maxRecDepth 100000 in
set_option maxHeartbeats 3200000 in
theorem iCompareWords_any (A : Option Addr) (n c base : Nat) (ps : List Pt) (g1 n1 c1 b1 : Nat) (r : List Int) (g2 n2 c2 b2 : Nat) (s : List Int) (w : World) (ha : w.ownsRow base 73 4 (.slice A n c) n (ptcs ps)) (hn : n ≤ 1048576)
    (h1 : w.ownsRow b1 3 1 (.slice (some ⟨g1, 0, none⟩) n1 c1) n1 (ints r)) (hn1 : n1 ≤ 1048576) (h2 : w.ownsRow b2 3 1 (.slice (some ⟨g2, 0, none⟩) n2 c2) n2 (ints s)) (hn2 : n2 ≤ 1048576) :
    Calls Try.prog 33 #[.slice A n c, .slice (some ⟨g1, 0, none⟩) n1 c1, .slice (some ⟨g2, 0, none⟩) n2 c2] w fun e w' => e = .returned (.tuple #[.int .i64 (cwI ps r s), .bool (cwZ ps r s)]) ∧ Below w.heap.size w w' := by
  have hrl : r.length = n1 := by have := h1.1; rw [ints_len] at this; omega
  have hsl : s.length = n2 := by have := h2.1; rw [ints_len] at this; omega
  have hb0 : Below w.heap.size w (w.alloc (.cells #[.slice (some ⟨g1, 0, none⟩) n1 c1, .slice (some ⟨g2, 0, none⟩) n2 c2] 36)) := (by repeat (first | with_reducible exact Below.refl _ _ | with_reducible assumption | (with_reducible refine Below.trans ?_ (Below.mono (by assumption) (by first | omega | (simp <;> omega)))) | with_reducible apply Below.drew | with_reducible apply below_drewN | (with_reducible refine Below.alloc ?_ (by first | omega | (simp <;> omega)) _) | (with_reducible refine Below.setCell ?_ (by first | omega | (simp <;> omega)) _)))
  have hlw := lapsOfWords_any A n c base ps w.heap.size 2 2 _ [r, s] _ (own_below ha hb0) hn (wordsAt_two h1 hn1 h2 hn2) rfl (by omega)
  have HLW := hide hlw; have HB0 := hide hb0
  clear hlw hb0
  rcases hz : wsB ps [r, s] with _ | _
  · have hcz : cwZ ps r s = false := by unfold cwZ; rw [hz]; rfl
    rw [cwI_no hcz, hcz]
    have HZ := Lib.hid hz
    clear hz ha h1 h2 hrl hsl hcz
    go_enter Try.func33, Try.ntmps33
    go_wp2_with (go_at_call 68; (with_reducible refine (unhide HLW).mono ?_); rintro e w1 ⟨h1, _, hbw1⟩; obtain rfl := h1 HZ.out; clear h1)
    have hb := unhide HB0
    have hz0 := hb.size
    go_ret2
    exact ⟨rfl, (by repeat (first | with_reducible exact Below.refl _ _ | with_reducible assumption | (with_reducible refine Below.trans ?_ (Below.mono (by assumption) (by first | omega | (simp <;> omega)))) | with_reducible apply Below.drew | with_reducible apply below_drewN | (with_reducible refine Below.alloc ?_ (by first | omega | (simp <;> omega)) _) | (with_reducible refine Below.setCell ?_ (by first | omega | (simp <;> omega)) _)))⟩
  · have hz' := hz
    rw [wsB_two, Bool.and_eq_true, Bool.and_eq_true] at hz'
    obtain ⟨qs, hq, hl⟩ := lmB_of hz'.1
    have hmb : mapB ps = true := by rw [hq]; exact hl.toGMap.mapB
    obtain ⟨g, mm, qs', hAg, hnm, hq', hg', hlen⟩ := own_form ha hmb
    obtain rfl : qs = qs' := by have := congrArg dec (hq.symm.trans hq'); rwa [dec_qp, dec_qp] at this
    subst hAg hnm hq
    have hwr := wdB_yes.1 hz'.2.1
    have hws := wdB_yes.1 hz'.2.2
    rw [dec_qp] at hwr hws
    have hllen := lapsQ_len hg'
    have HZ := Lib.hid hz; have HQ := Lib.hid hl
    by_cases hll : n1 = n2
    · have d1 : (n1 : Int) = (n2 : Int) := by omega
      subst hll
      have hcz : cwZ (qs.map qp) r s = true := by unfold cwZ; rw [hz, decide_eq_true (by omega)]; rfl
      rw [cwI_yes hcz, hcz, hrl]
      have hP := PCells.own ha
      have hW1 := WCells.own h1
      have hW2 := WCells.own h2
      have hn20 : n1 ≤ 20 := by have := hwr.1; omega
      have hcap : n1 ≤ c1 := by
        rcases h1.2 with ⟨hv, h0⟩ | ⟨g, cap, _, hv, _, _, h3, _⟩
        · injection hv with _ h1 h2; omega
        · injection hv with _ h1 h2; omega
      have hsg := fun (k : Nat) (hk : k ≤ n1) (A2 : Option Addr) (c2 B2 : Nat) (W : World) hv (hW : Below w.heap.size w W) => signOf_any A2 (lapsQ qs).length c2 B2 g c g1 k c1 qs r W hv (hP.below hW) hg' ((hW1.less hk).below hW) (by omega) (by omega) hwr.2
      have har := fun (W : World) (hW : Below w.heap.size w W) => arrayOf_any g1 n1 c1 b1 r W (own_below h1 hW) hn20
      have has := fun (W : World) (hW : Below w.heap.size w W) => arrayOf_any g2 n1 c2 b2 s W (own_below h2 hW) hn20
      have heq := fun W => equal_arr r s (arF_bd (by omega) hwr.2) (arF_bd (by omega) hws.2) W
      have HSG := hide hsg; have HAR := hide har; have HAS := hide has; have HEQ := hide heq; have HW1 := hide hW1; have HW2 := hide hW2; have HRL := Lib.hid hrl; have HSL := Lib.hid hsl
      have hs1 := arA_size r; have hs2 := arA_size s
      have ho1 := arA_one r; have ho2 := arA_one s
      have hinf1 : (Try.prog.info? 93).map (·.size) = some (arA r).size := by rw [hs1]; kernel_rfl
      have hinf2 : (Try.prog.info? 93).map (·.size) = some (arA s).size := by rw [hs2]; kernel_rfl
      have hat1 := fun k hk => arA_at r (k := k) hk
      have hat2 := fun k hk => arA_at s (k := k) hk
      have HS1 := Lib.hid hs1; have HS2 := Lib.hid hs2; have HO1 := Lib.hid ho1; have HO2 := Lib.hid ho2; have HI1 := Lib.hid hinf1; have HI2 := Lib.hid hinf2; have HAT1 := hide hat1; have HAT2 := hide hat2
      clear hz ha h1 h2 hrl hsl hz' hmb hq' hg' hlen hwr hws hP hW1 hW2 hsg har has heq hl hcz hs1 hs2 ho1 ho2 hinf1 hinf2 hat1 hat2 d1
      generalize arA r = AR at *
      generalize arA s = AS at *
      go_enter Try.func33, Try.ntmps33
      go_upto_region 4 with (go_at_call 68; (with_reducible refine (unhide HLW).mono ?_); rintro e w1 ⟨_, h2, hbw1⟩; obtain ⟨v1, rfl, hv1⟩ := h2 g qs rfl rfl HQ.out HZ.out; clear h2; obtain ⟨A2, c3, rfl⟩ := own_slice hv1; have HV1 := hide hv1; clear hv1; have hb := unhide HB0; have hz0 := hb.size; have hz1 := hbw1.size)
      have hbA : Below w.heap.size w w1 := (by repeat (first | with_reducible exact Below.refl _ _ | with_reducible assumption | (with_reducible refine Below.trans ?_ (Below.mono (by assumption) (by first | omega | (simp <;> omega)))) | with_reducible apply Below.drew | with_reducible apply below_drewN | (with_reducible refine Below.alloc ?_ (by first | omega | (simp <;> omega)) _) | (with_reducible refine Below.setCell ?_ (by first | omega | (simp <;> omega)) _)))
      have HBA := hide hbA
      have hzA := hbA.size
      clear hbA hb hbw1
      go_upto_region 5 with (first
        | (go_at_call 71; (with_reducible refine ((unhide HAR) _ ?pb).mono ?_); (case pb => exact (unhide HBA)); rintro e w2 ⟨rfl, hbw2⟩; have hz2 := hbw2.size)
        | (go_at_call 71; (with_reducible refine ((unhide HAS) _ ?pb).mono ?_); (case pb => exact (unhide HBA).trans (hbw2.mono hzA)); rintro e w3 ⟨rfl, hbw3⟩; have hz3 := hbw3.size)
        | (refine wpList_store_row rfl 93 (.tmp 10) (.tmp 31) rfl w3.heap.size AR rfl rfl 93 _ (heap_alloc2_old w3 (.cells #[.int .i64 0, .int .i64 0, .int .i64 0, .int .i64 0, .int .i64 0, .int .i64 0, .int .i64 0, .int .i64 0, .int .i64 0, .int .i64 0, .int .i64 0, .int .i64 0, .int .i64 0, .int .i64 0, .int .i64 0, .int .i64 0, .int .i64 0, .int .i64 0, .int .i64 0, .int .i64 0] 93) (.cells #[.int .i64 0, .int .i64 0, .int .i64 0, .int .i64 0, .int .i64 0, .int .i64 0, .int .i64 0, .int .i64 0, .int .i64 0, .int .i64 0, .int .i64 0, .int .i64 0, .int .i64 0, .int .i64 0, .int .i64 0, .int .i64 0, .int .i64 0, .int .i64 0, .int .i64 0, .int .i64 0] 93)) HI1.out (by rw [HS1.out]; rfl) HO1.out ?_)
        | (refine wpList_store_row rfl 93 (.tmp 11) (.tmp 33) rfl (w3.heap.size + 1) AS rfl rfl 93 _ ((setRow_other _ _ _ _ (by omega)).trans (heap_alloc2_new w3 (.cells #[.int .i64 0, .int .i64 0, .int .i64 0, .int .i64 0, .int .i64 0, .int .i64 0, .int .i64 0, .int .i64 0, .int .i64 0, .int .i64 0, .int .i64 0, .int .i64 0, .int .i64 0, .int .i64 0, .int .i64 0, .int .i64 0, .int .i64 0, .int .i64 0, .int .i64 0, .int .i64 0] 93) (.cells #[.int .i64 0, .int .i64 0, .int .i64 0, .int .i64 0, .int .i64 0, .int .i64 0, .int .i64 0, .int .i64 0, .int .i64 0, .int .i64 0, .int .i64 0, .int .i64 0, .int .i64 0, .int .i64 0, .int .i64 0, .int .i64 0, .int .i64 0, .int .i64 0, .int .i64 0, .int .i64 0] 93))) HI2.out (by rw [HS2.out]; rfl) HO2.out ?_))
      have hbS : Below w3.heap.size w3 ((((w3.alloc (.cells #[.int .i64 0, .int .i64 0, .int .i64 0, .int .i64 0, .int .i64 0, .int .i64 0, .int .i64 0, .int .i64 0, .int .i64 0, .int .i64 0, .int .i64 0, .int .i64 0, .int .i64 0, .int .i64 0, .int .i64 0, .int .i64 0, .int .i64 0, .int .i64 0, .int .i64 0, .int .i64 0] 93)).alloc (.cells #[.int .i64 0, .int .i64 0, .int .i64 0, .int .i64 0, .int .i64 0, .int .i64 0, .int .i64 0, .int .i64 0, .int .i64 0, .int .i64 0, .int .i64 0, .int .i64 0, .int .i64 0, .int .i64 0, .int .i64 0, .int .i64 0, .int .i64 0, .int .i64 0, .int .i64 0, .int .i64 0] 93)).setRow w3.heap.size AR).setRow (w3.heap.size + 1) AS) :=
        below_setRow (below_setRow (show Below w3.heap.size w3 ((w3.alloc (.cells #[.int .i64 0, .int .i64 0, .int .i64 0, .int .i64 0, .int .i64 0, .int .i64 0, .int .i64 0, .int .i64 0, .int .i64 0, .int .i64 0, .int .i64 0, .int .i64 0, .int .i64 0, .int .i64 0, .int .i64 0, .int .i64 0, .int .i64 0, .int .i64 0, .int .i64 0, .int .i64 0] 93)).alloc (.cells #[.int .i64 0, .int .i64 0, .int .i64 0, .int .i64 0, .int .i64 0, .int .i64 0, .int .i64 0, .int .i64 0, .int .i64 0, .int .i64 0, .int .i64 0, .int .i64 0, .int .i64 0, .int .i64 0, .int .i64 0, .int .i64 0, .int .i64 0, .int .i64 0, .int .i64 0, .int .i64 0] 93)) from (by repeat (first | with_reducible exact Below.refl _ _ | with_reducible assumption | (with_reducible refine Below.trans ?_ (Below.mono (by assumption) (by first | omega | (simp <;> omega)))) | with_reducible apply Below.drew | with_reducible apply below_drewN | (with_reducible refine Below.alloc ?_ (by first | omega | (simp <;> omega)) _) | (with_reducible refine Below.setCell ?_ (by first | omega | (simp <;> omega)) _)))) (Nat.le_refl _) AR) (by omega) AS
      have h10 : ((((w3.alloc (.cells #[.int .i64 0, .int .i64 0, .int .i64 0, .int .i64 0, .int .i64 0, .int .i64 0, .int .i64 0, .int .i64 0, .int .i64 0, .int .i64 0, .int .i64 0, .int .i64 0, .int .i64 0, .int .i64 0, .int .i64 0, .int .i64 0, .int .i64 0, .int .i64 0, .int .i64 0, .int .i64 0] 93)).alloc (.cells #[.int .i64 0, .int .i64 0, .int .i64 0, .int .i64 0, .int .i64 0, .int .i64 0, .int .i64 0, .int .i64 0, .int .i64 0, .int .i64 0, .int .i64 0, .int .i64 0, .int .i64 0, .int .i64 0, .int .i64 0, .int .i64 0, .int .i64 0, .int .i64 0, .int .i64 0, .int .i64 0] 93)).setRow w3.heap.size AR).setRow (w3.heap.size + 1) AS).heap[w3.heap.size]? = some (.cells AR 93 (0, 0)) :=
        (setRow_other _ _ _ _ (by omega)).trans (setRow_heap _ _ _ _ _ _ (heap_alloc2_old w3 (.cells #[.int .i64 0, .int .i64 0, .int .i64 0, .int .i64 0, .int .i64 0, .int .i64 0, .int .i64 0, .int .i64 0, .int .i64 0, .int .i64 0, .int .i64 0, .int .i64 0, .int .i64 0, .int .i64 0, .int .i64 0, .int .i64 0, .int .i64 0, .int .i64 0, .int .i64 0, .int .i64 0] 93) (.cells #[.int .i64 0, .int .i64 0, .int .i64 0, .int .i64 0, .int .i64 0, .int .i64 0, .int .i64 0, .int .i64 0, .int .i64 0, .int .i64 0, .int .i64 0, .int .i64 0, .int .i64 0, .int .i64 0, .int .i64 0, .int .i64 0, .int .i64 0, .int .i64 0, .int .i64 0, .int .i64 0] 93)))
      have h11 : ((((w3.alloc (.cells #[.int .i64 0, .int .i64 0, .int .i64 0, .int .i64 0, .int .i64 0, .int .i64 0, .int .i64 0, .int .i64 0, .int .i64 0, .int .i64 0, .int .i64 0, .int .i64 0, .int .i64 0, .int .i64 0, .int .i64 0, .int .i64 0, .int .i64 0, .int .i64 0, .int .i64 0, .int .i64 0] 93)).alloc (.cells #[.int .i64 0, .int .i64 0, .int .i64 0, .int .i64 0, .int .i64 0, .int .i64 0, .int .i64 0, .int .i64 0, .int .i64 0, .int .i64 0, .int .i64 0, .int .i64 0, .int .i64 0, .int .i64 0, .int .i64 0, .int .i64 0, .int .i64 0, .int .i64 0, .int .i64 0, .int .i64 0] 93)).setRow w3.heap.size AR).setRow (w3.heap.size + 1) AS).heap[w3.heap.size + 1]? = some (.cells AS 93 (0, 0)) :=
        setRow_heap _ _ _ _ _ _ ((setRow_other _ _ _ _ (by omega)).trans (heap_alloc2_new w3 (.cells #[.int .i64 0, .int .i64 0, .int .i64 0, .int .i64 0, .int .i64 0, .int .i64 0, .int .i64 0, .int .i64 0, .int .i64 0, .int .i64 0, .int .i64 0, .int .i64 0, .int .i64 0, .int .i64 0, .int .i64 0, .int .i64 0, .int .i64 0, .int .i64 0, .int .i64 0, .int .i64 0] 93) (.cells #[.int .i64 0, .int .i64 0, .int .i64 0, .int .i64 0, .int .i64 0, .int .i64 0, .int .i64 0, .int .i64 0, .int .i64 0, .int .i64 0, .int .i64 0, .int .i64 0, .int .i64 0, .int .i64 0, .int .i64 0, .int .i64 0, .int .i64 0, .int .i64 0, .int .i64 0, .int .i64 0] 93)))
      generalize (((w3.alloc (.cells #[.int .i64 0, .int .i64 0, .int .i64 0, .int .i64 0, .int .i64 0, .int .i64 0, .int .i64 0, .int .i64 0, .int .i64 0, .int .i64 0, .int .i64 0, .int .i64 0, .int .i64 0, .int .i64 0, .int .i64 0, .int .i64 0, .int .i64 0, .int .i64 0, .int .i64 0, .int .i64 0] 93)).alloc (.cells #[.int .i64 0, .int .i64 0, .int .i64 0, .int .i64 0, .int .i64 0, .int .i64 0, .int .i64 0, .int .i64 0, .int .i64 0, .int .i64 0, .int .i64 0, .int .i64 0, .int .i64 0, .int .i64 0, .int .i64 0, .int .i64 0, .int .i64 0, .int .i64 0, .int .i64 0, .int .i64 0] 93)).setRow w3.heap.size AR).setRow (w3.heap.size + 1) AS = wS at *
      obtain ⟨z, hze, hzi⟩ := (unhide HEQ) wS
      have hbT := (unhide HBA).trans ((hbw2.trans ((hbw3.trans (hbS.mono hz3)).mono hz2)).mono hzA)
      have H10 := hide h10; have H11 := hide h11; have HBS := hide hbS; have HZI := hide hzi; have HBT := hide hbT
      have hzS := hbT.size
      have hV := (own_below (own_below (own_below (unhide HV1) hbw2) hbw3) hbS).mono hz0
      have HV := hide hV
      obtain ⟨X, hX⟩ : ∃ X, X = w3.heap.size := ⟨_, rfl⟩
      have hXl : w3.heap.size + 1 < wS.heap.size := (Array.getElem?_eq_some_iff.1 h11).1
      rw [← hX] at H10 H11 hXl ⊢
      have hXw : w.heap.size ≤ X := by omega
      have HX := Lib.hid hX
      clear hX h10 h11 hbS hzi hbT hV hbw2 hbw3 HEQ HV1 HAR HAS HLW HB0 HBA
      have hnX : n1 ≤ 20 := hn20
      cases z
      · have hdif : ∃ kd, kd < n1 ∧ r.getD kd 0 ≠ s.getD kd 0 := by
          have hno : ¬ ∀ k, k < 20 → arF r k = arF s k := fun h => by have := (unhide HZI).2 h; cases this
          rcases Decidable.em (∃ kd, kd < n1 ∧ r.getD kd 0 ≠ s.getD kd 0) with h | h
          · exact h
          · exfalso
            refine hno fun k hk => ?_
            rcases Nat.lt_or_ge k n1 with h1 | h1
            · rw [arF_in (by rw [HRL.out]; exact h1), arF_in (by rw [HSL.out]; exact h1)]
              exact Decidable.byContradiction fun h2 => h ⟨k, h1, h2⟩
            · rw [arF_out (by rw [HRL.out]; exact h1), arF_out (by rw [HSL.out]; exact h1)]
        obtain ⟨kd, hkd, hkne⟩ := hdif
        have HKD := Lib.hid hkne
        clear hkne HZI
        go_upto_region 8 with (first
          | (refine wpList_load_row rfl 93 (.tmp 10) rfl X rfl 93 AR (0, 0) _ (unhide H10) Try.underlying93 rfl HI1.out ?_)
          | (refine wpList_load_row rfl 93 (.tmp 11) rfl (X + 1) rfl 93 AS (0, 0) _ (unhide H11) Try.underlying93 rfl HI2.out ?_))
        go_loopw [12] (fun i wr => ∃ k : Nat, i = .int .i64 (k : Int) ∧ k ≤ kd ∧ Hid (∀ j, j < k → r.getD j 0 = s.getD j 0) ∧ Below wS.heap.size wS wr) (fun i _ => 20 - (intOf i).toNat)
        case atStart => exact ⟨0, rfl, by omega, hide (fun j h => by omega), Below.refl _ _⟩
        case round =>
          obtain ⟨k, rfl, hk, hpre, hbwr⟩ := hrel
          have hzwr := hbwr.size
          have hX1 : X < wr.heap.size := by omega
          have hX2 : X + 1 < wr.heap.size := by omega
          have hc1 : wr.cell? ⟨X, k, none⟩ = some (.int .i64 (r.getD k 0)) := by
            rw [cell_of_row wr X k AR _ _ ((hbwr.block X (by omega)).trans (unhide H10)), (unhide HAT1) k (by omega), arF_in (by rw [HRL.out]; omega)]
          have hc2 : wr.cell? ⟨X + 1, k, none⟩ = some (.int .i64 (s.getD k 0)) := by
            rw [cell_of_row wr (X + 1) k AS _ _ ((hbwr.block (X + 1) (by omega)).trans (unhide H11)), (unhide HAT2) k (by omega), arF_in (by rw [HSL.out]; omega)]
          have t1 : (0 : Int) ≤ (k : Int) := by omega
          have t2 : (k : Int) < 20 := by omega
          have HB := hide hbwr
          by_cases he : r.getD k 0 = s.getD k 0
          · have hk1 : k + 1 ≤ kd := by
              rcases Nat.lt_or_ge k kd with h | h
              · omega
              · have e : k = kd := by omega
                subst e
                exact absurd he HKD.out
            have hp1 := hide (fun j (hj : j < k + 1) => show r.getD j 0 = s.getD j 0 from by
              rcases Nat.lt_or_ge j k with h1 | h1
              · exact (unhide hpre) j h1
              · obtain rfl : j = k := by omega
                exact he)
            rw [← he] at hc2
            clear he hpre hbwr HKD
            generalize r.getD k 0 = x at *
            go_upto_region 8 with fail
            go_quiet (fail)
            go_wp2_with fail
            have hb := unhide HB
            go_roundw
            case rel => exact ⟨k + 1, by go_num, hk1, hp1, (by repeat (first | with_reducible exact Below.refl _ _ | with_reducible assumption | (with_reducible refine Below.trans ?_ (Below.mono (by assumption) (by first | omega | (simp <;> omega)))) | with_reducible apply Below.drew | with_reducible apply below_drewN | (with_reducible refine Below.alloc ?_ (by first | omega | (simp <;> omega)) _) | (with_reducible refine Below.setCell ?_ (by first | omega | (simp <;> omega)) _)))⟩
            case measure => (simp [intOf] <;> omega)
          · have hcw := cwF_ne (qs := qs) (a := r) (b := s) (k := k) he n1 0 (by omega) (by omega) (fun j _ hj => (unhide hpre) j hj)
            have hsgk := fun W hv hW => (unhide HSG) k (by omega) A2 c3 w.heap.size W hv hW
            have hcmp := fun W => compare_any (r.getD k 0) (s.getD k 0) W
            have hbz := (unhide HBT).trans (hbwr.mono hzS)
            have hw1 := (unhide HW1).below hbz
            have hw2 := (unhide HW2).below hbz
            have hd1 := hw1.cel k (by omega)
            have hd2 := hw2.cel k (by omega)
            have hgl1 := hw1.lt
            have hgl2 := hw2.lt
            have hq1 := sgK_bd (qs := qs) (r := r) k
            have hq2 := cmpI_bd (r.getD k 0) (s.getD k 0)
            have hmw : IntKind.i64.wrap (sgK qs r k * cmpI (r.getD k 0) (s.getD k 0)) = sgK qs r k * cmpI (r.getD k 0) (s.getD k 0) := IntWalk.i64_in _ (by
              have h3 := mul_bd (a := sgK qs r k) (d := cmpI (r.getD k 0) (s.getD k 0)) (A := 1) (D := 1) (by omega) (by omega) (by omega) (by omega)
              omega)
            have hne1 : (r.getD k 0 == s.getD k 0) = false := by simpa using he
            have hne2 : decide (r.getD k 0 = s.getD k 0) = false := by simpa using he
            have HCW := Lib.hid hcw; have HSGK := hide hsgk; have HCMP := hide hcmp; have HBZ := hide hbz; have HV2 := hide (own_below (unhide HV) hbwr)
            have t3 : (k : Int) < (n1 : Int) := by omega
            have t4 : (k : Int) ≤ (c1 : Int) := by omega
            clear hcw hsgk hcmp hbz hw1 hw2 hq1 hq2 hpre hbwr HKD he
            generalize cmpI (r.getD k 0) (s.getD k 0) = cc at *
            generalize sgK qs r k = sg at *
            generalize r.getD k 0 = x at *
            generalize s.getD k 0 = y at *
            go_upto_region 8 with fail
            go_quiet (fail)
            go_upto_region 10 with fail
            go_region_held3 (fun w' => w'.cell? ⟨g1, k, none⟩ = some (.int .i64 x) ∧ w'.cell? ⟨g2, k, none⟩ = some (.int .i64 y)) (simp [go_sem, *])
              (first
                | (go_at_call 69; (with_reducible refine ((unhide HSGK) _ (own_below (unhide HV2) ?pb) ((unhide HBZ).trans ?pc)).mono ?_); (case pb => exact (by repeat (first | with_reducible exact Below.refl _ _ | with_reducible assumption | (with_reducible refine Below.trans ?_ (Below.mono (by assumption) (by first | omega | (simp <;> omega)))) | with_reducible apply Below.drew | with_reducible apply below_drewN | (with_reducible refine Below.alloc ?_ (by first | omega | (simp <;> omega)) _) | (with_reducible refine Below.setCell ?_ (by first | omega | (simp <;> omega)) _)))); (case pc => exact (show Below wr.heap.size wr _ from (by repeat (first | with_reducible exact Below.refl _ _ | with_reducible assumption | (with_reducible refine Below.trans ?_ (Below.mono (by assumption) (by first | omega | (simp <;> omega)))) | with_reducible apply Below.drew | with_reducible apply below_drewN | (with_reducible refine Below.alloc ?_ (by first | omega | (simp <;> omega)) _) | (with_reducible refine Below.setCell ?_ (by first | omega | (simp <;> omega)) _)))).mono (unhide HBZ).size); rintro e w5 ⟨rfl, hbw5⟩; have hz5 := hbw5.size; (try simp at hz5); (skip; (try ((have kw5g1X0 := (bnew hbw5) (g1) ?pf); (case pf => (first | omega | (simp; done) | (simp; omega))); obtain ⟨kcw5g1X0, kfw5g1X0, klw5g1X0⟩ := kw5g1X0)); (try ((have kw5g2X0 := (bnew hbw5) (g2) ?pf); (case pf => (first | omega | (simp; done) | (simp; omega))); obtain ⟨kcw5g2X0, kfw5g2X0, klw5g2X0⟩ := kw5g2X0))))
                | (go_at_call 72; (with_reducible refine ((unhide HCMP) _).mono ?_); rintro e w6 ⟨rfl, rfl⟩))
            all_goals
              go_wp2_with fail
              have hbz := unhide HBZ
              go_ret2
              exact ⟨by rw [HCW.out]; rfl, hbz.trans ((show Below wr.heap.size wr _ from (by repeat (first | with_reducible exact Below.refl _ _ | with_reducible assumption | (with_reducible refine Below.trans ?_ (Below.mono (by assumption) (by first | omega | (simp <;> omega)))) | with_reducible apply Below.drew | with_reducible apply below_drewN | (with_reducible refine Below.alloc ?_ (by first | omega | (simp <;> omega)) _) | (with_reducible refine Below.setCell ?_ (by first | omega | (simp <;> omega)) _)))).mono hbz.size)⟩
      · have hall := (unhide HZI).1 rfl
        have hcw : cwF qs r s n1 0 = 0 := cwF_eq n1 0 fun j _ hj => by
          have := hall j (by omega)
          rw [arF_in (by rw [HRL.out]; omega), arF_in (by rw [HSL.out]; omega)] at this
          exact this
        have HCW := Lib.hid hcw
        clear hall hcw
        go_wp2_with (first
          | (refine wpList_load_row rfl 93 (.tmp 10) rfl X rfl 93 AR (0, 0) _ (unhide H10) Try.underlying93 rfl HI1.out ?_)
          | (refine wpList_load_row rfl 93 (.tmp 11) rfl (X + 1) rfl 93 AS (0, 0) _ (unhide H11) Try.underlying93 rfl HI2.out ?_))
        go_ret2
        exact ⟨by rw [HCW.out]; rfl, unhide HBT⟩
    · have hcz : cwZ (qs.map qp) r s = false := by unfold cwZ; rw [decide_eq_false (by omega), Bool.and_false]
      rw [cwI_no hcz, hcz]
      have d1 : ¬ (n1 : Int) = (n2 : Int) := by omega
      clear hz ha h1 h2 hrl hsl hz' hmb hq' hg' hlen hwr hws hl hcz hll
      go_enter Try.func33, Try.ntmps33
      go_wp2_with (go_at_call 68; (with_reducible refine (unhide HLW).mono ?_); rintro e w1 ⟨_, h2, hbw1⟩; obtain ⟨v1, rfl, hv1⟩ := h2 g qs rfl rfl HQ.out HZ.out; clear h2)
      have hb := unhide HB0
      have hz0 := hb.size
      have hz1 := hbw1.size
      go_ret2
      exact ⟨rfl, (by repeat (first | with_reducible exact Below.refl _ _ | with_reducible assumption | (with_reducible refine Below.trans ?_ (Below.mono (by assumption) (by first | omega | (simp <;> omega)))) | with_reducible apply Below.drew | with_reducible apply below_drewN | (with_reducible refine Below.alloc ?_ (by first | omega | (simp <;> omega)) _) | (with_reducible refine Below.setCell ?_ (by first | omega | (simp <;> omega)) _)))⟩
end Go.Proofs.Ytjggjegjhcpjhaa

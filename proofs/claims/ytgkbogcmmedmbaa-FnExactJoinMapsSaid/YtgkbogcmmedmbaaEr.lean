/-
  Chapter 5: joined maps, over rational numbers; the program's value of a joined map.
-/
import Derived.Test.YtgkbogcmmedmbaaEb
import Derived.Test.YtgkbogcmmedmbaaDc
import Derived.Test.YtgkbogcmmedmbaaEs
namespace Go.Proofs.Ytgkbogcmmedmbaa
open Go.RowKit Rm

def jF (fs : List QP) (a : Rat) : List QP := fs.filter fun p => decide (p.1 < a)
def jG (gs : List QP) (a : Rat) : List QP := gs.filter fun p => decide (a < p.1)
def jnL (fs gs : List QP) (a y : Rat) : List QP := jF fs a ++ (a, y) :: jG gs a
def jnP (fs gs : List QP) (a : Rat) : List Rat := a :: ((xsOf fs).filter fun x => decide (x < a)) ++ ((xsOf gs).filter fun x => decide (a < x))
def vjn (fs gs : List QP) (a x : Rat) : Option Rat := if a < x then vAt gs x else vAt fs x
/-- The joined map, if there is one. -/
def jnO (fs gs : List QP) (a : Rat) : Option (List QP) := (vAt fs a).bind fun y => (vAt gs a).bind fun z => if y = z then ifO (jnL fs gs a y) else none
theorem xsOf_jF (fs : List QP) (a : Rat) : xsOf (jF fs a) = (xsOf fs).filter fun x => decide (x < a) := by unfold xsOf jF; rw [List.filter_map]; rfl
theorem xsOf_jG (gs : List QP) (a : Rat) : xsOf (jG gs a) = (xsOf gs).filter fun x => decide (a < x) := by unfold xsOf jG; rw [List.filter_map]; rfl
theorem xsOf_jn (fs gs : List QP) (a y : Rat) : xsOf (jnL fs gs a y) = ((xsOf fs).filter fun x => decide (x < a)) ++ a :: ((xsOf gs).filter fun x => decide (a < x)) := by
  rw [← xsOf_jF, ← xsOf_jG]
  unfold xsOf jnL
  rw [List.map_append, List.map_cons]
theorem jn_inc {fs gs : List QP} (hF : GMap fs) (hG : GMap gs) (a y : Rat) : Inc (xsOf (jnL fs gs a y)) := by
  rw [xsOf_jn]
  unfold Inc
  rw [List.pairwise_append, List.pairwise_cons]
  refine ⟨(xsOf_inc hF).filter _, ⟨fun z hz => ?_, (xsOf_inc hG).filter _⟩, fun z hz t ht => ?_⟩
  · exact of_decide_eq_true (List.mem_filter.1 hz).2
  · have h1 : z < a := of_decide_eq_true (List.mem_filter.1 hz).2
    rcases List.mem_cons.1 ht with rfl | ht
    · exact h1
    · have h2 : a < t := of_decide_eq_true (List.mem_filter.1 ht).2
      grind
theorem jn_srt {fs gs : List QP} (hF : GMap fs) (hG : GMap gs) (a y : Rat) : srt (jnP fs gs a) = xsOf (jnL fs gs a y) := by
  refine (srt_uniq (jn_inc hF hG a y) fun x => ?_).symm
  rw [xsOf_jn]
  unfold jnP
  simp only [List.mem_append, List.mem_cons]
  constructor
  · rintro (h | h | h)
    · exact .inl (.inr h)
    · exact .inl (.inl h)
    · exact .inr h
  · rintro ((h | h) | h)
    · exact .inr (.inl h)
    · exact .inl h
    · exact .inr (.inr h)
theorem vK_pts {l : List QP} {vm : Rat → Option Rat} (h : ∀ p ∈ l, vm p.1 = some p.2) : ∀ k, k ≤ l.length → vK (xsOf l) vm k = some (l.take k)
  | 0, _ => rfl
  | k + 1, hk => by
    have hkl : k < l.length := by omega
    have h1 := vK_pts h k (by omega)
    have h2 : vm (qAt l k).1 = some (qAt l k).2 := h _ (by rw [qAt_elem hkl]; exact List.getElem_mem hkl)
    simp only [vK, h1, Option.bind_some]
    rw [xsOf_get hkl, h2, List.take_add_one, List.getElem?_eq_getElem hkl, ← qAt_elem hkl]
    rfl
theorem jn_vK {fs gs : List QP} (hF : GMap fs) (hG : GMap gs) {a y : Rat} (hy : vAt fs a = some y) : vK (srt (jnP fs gs a)) (vjn fs gs a) (srt (jnP fs gs a)).length = some (jnL fs gs a y) := by
  have hp : ∀ p ∈ jnL fs gs a y, vjn fs gs a p.1 = some p.2 := by
    intro p hp
    have hat : ∀ {qs : List QP}, GMap qs → p ∈ qs → vAt qs p.1 = some p.2 := fun {qs} hq hm => by
      obtain ⟨i, hi, e⟩ := List.mem_iff_getElem.1 hm
      have := vAt_point hq hi
      rwa [qAt_elem hi, e] at this
    unfold jnL at hp
    unfold vjn
    rcases List.mem_append.1 hp with h | h
    · have h1 : p.1 < a := of_decide_eq_true (List.mem_filter.1 h).2
      rw [if_neg (by grind)]
      exact hat hF (List.mem_filter.1 h).1
    · rcases List.mem_cons.1 h with rfl | h
      · rw [if_neg Rat.lt_irrefl]; exact hy
      · have h1 : a < p.1 := of_decide_eq_true (List.mem_filter.1 h).2
        rw [if_pos h1]
        exact hat hG (List.mem_filter.1 h).1
  rw [jn_srt hF hG a y, xsOf_len, vK_pts hp _ (Nat.le_refl _), List.take_length]
theorem jn_mm {fs gs : List QP} (hF : GMap fs) (hG : GMap gs) {a y : Rat} (hy : vAt fs a = some y) : mmO (srt (jnP fs gs a)) (vjn fs gs a) = ifO (jnL fs gs a y) := by
  rw [mmO_if, jn_vK hF hG hy]
  rfl
theorem jn_len {fs gs : List QP} (hF : GMap fs) (hG : GMap gs) (a : Rat) : 1 ≤ (jnP fs gs a).length ∧ (jnP fs gs a).length ≤ 25 := by
  have h1 := List.length_filter_le (fun x => decide (x < a)) (xsOf fs)
  have h2 := List.length_filter_le (fun x => decide (a < x)) (xsOf gs)
  rw [xsOf_len] at h1 h2
  have h3 := hF.hi
  have h4 := hG.hi
  unfold jnP
  rw [List.length_append, List.length_cons]
  omega
theorem jn_pl {fs gs : List QP} (hF : GMap fs) (hG : GMap gs) {a : Rat} (ha : Un a) : Pl (srt (jnP fs gs a)) := by
  refine srt_pl (fun x hx => ?_) ?_ ?_
  · unfold jnP at hx
    rcases List.mem_append.1 hx with h | h
    · rcases List.mem_cons.1 h with rfl | h
      · exact ha
      · exact xsOf_un hF x (List.mem_filter.1 h).1
    · exact xsOf_un hG x (List.mem_filter.1 h).1
  · unfold jnP
    by_cases h : (0 : Rat) < a
    · exact List.mem_append.2 (.inl (List.mem_cons.2 (.inr (List.mem_filter.2 ⟨xsOf_zero hF, decide_eq_true h⟩))))
    · have h0 : a = 0 := Rat.le_antisymm (Rat.not_lt.1 h) ha.lo
      exact List.mem_append.2 (.inl (List.mem_cons.2 (.inl h0.symm)))
  · unfold jnP
    by_cases h : a < 1
    · exact List.mem_append.2 (.inr (List.mem_filter.2 ⟨xsOf_one hG, decide_eq_true h⟩))
    · have h1 : a = 1 := Rat.le_antisymm ha.hi (Rat.not_lt.1 h)
      exact List.mem_append.2 (.inl (List.mem_cons.2 (.inl h1.symm)))

set_option maxRecDepth 100000 in
set_option maxHeartbeats 1600000 in
theorem valueJn_any (gf mf cf bf gg mg cg bg : Nat) (fs gs : List QP) (a x : Rat) (w : World) (hf : w.ownsRow bf 43 4 (.slice (some ⟨gf, 0, none⟩) (mf + 1) cf) (mf + 1) (ptcs (fs.map qp))) (hg : w.ownsRow bg 43 4 (.slice (some ⟨gg, 0, none⟩) (mg + 1) cg) (mg + 1) (ptcs (gs.map qp))) (hF : GMap fs) (hG : GMap gs) (ha : Un a) (hx : Un x) :
    Calls Try.prog 85 #[.iface 67 (.agg #[.slice (some ⟨gf, 0, none⟩) (mf + 1) cf, .slice (some ⟨gg, 0, none⟩) (mg + 1) cg, .int .i64 a.num, .int .i64 a.den]), .agg #[.int .i64 (x.num), .int .i64 (x.den)]] w fun e w' => e = .returned (.tuple #[.agg #[.int .i64 (oN (vjn fs gs a x)), .int .i64 (oD (vjn fs gs a x))], .bool (vjn fs gs a x).isSome]) ∧ Below w.heap.size w w' := by
  have hor := fun W => orderOf_q x a hx.fit ha.fit W
  have h1 := fun W hW => valueAt_o gf mf cf bf fs (some x) W hW hF (fun y e => by injection e with e; subst e; exact hx)
  have h2 := fun W hW => valueAt_o gg mg cg bg gs (some x) W hW hG (fun y e => by injection e with e; subst e; exact hx)
  simp only [oN_some, oD_some, Option.bind_some] at h1 h2
  have HF := hide hf; have HG := hide hg; clear hf hg
  have t0 := not_junction_composition
  have t1 := not_junction_halfSum
  have t2 := not_junction_cut
  have t3 := not_junction_refinement
  have t9 := is_junction
  unfold vjn
  by_cases hc : a < x
  · have hcd : decide (0 < cq x a) = true := decide_eq_true (cq_gt.2 hc)
    rw [if_pos hc]
    generalize vAt gs x = r at *
    generalize cq x a = cz at *
    have HO := hide hor; have H2 := hide h2
    clear hor h1 h2 hc ha hx
    generalize x.num = xn at *
    generalize (x.den : Int) = xd at *
    generalize a.num = an at *
    generalize (a.den : Int) = ad at *
    go_enter Try.func85, Try.ntmps85
    go_wp2_with (first
      | (go_at_call 38; (with_reducible refine ((unhide HO) _).mono ?_); rintro e w1 ⟨rfl, hbw1⟩; obtain ⟨hcw1, hfw1⟩ := bcell hbw1; have hzw1 := hbw1.size; (try simp at hzw1); (try ((have kw1w0 := (bnew hbw1) (w.heap.size) ?pf); (case pf => (first | omega | (simp; done) | (simp; omega))); obtain ⟨kcw1w0, kfw1w0, klw1w0⟩ := kw1w0)); (try ((have kw1w1 := (bnew hbw1) (w.heap.size + 1) ?pf); (case pf => (first | omega | (simp; done) | (simp; omega))); obtain ⟨kcw1w1, kfw1w1, klw1w1⟩ := kw1w1)); (try ((have kw1w2 := (bnew hbw1) (w.heap.size + 1 + 1) ?pf); (case pf => (first | omega | (simp; done) | (simp; omega))); obtain ⟨kcw1w2, kfw1w2, klw1w2⟩ := kw1w2)); (try ((have kw1w3 := (bnew hbw1) (w.heap.size + 1 + 1 + 1) ?pf); (case pf => (first | omega | (simp; done) | (simp; omega))); obtain ⟨kcw1w3, kfw1w3, klw1w3⟩ := kw1w3)))
      | (go_at_call 42; (with_reducible refine ((unhide H2) _ (own_below (unhide HG) ?pb)).mono ?_); (case pb => exact (by repeat (first | with_reducible exact Below.refl _ _ | with_reducible assumption | (with_reducible refine Below.trans ?_ (Below.mono (by assumption) (by first | omega | (simp <;> omega)))) | with_reducible apply Below.drew | with_reducible apply below_drewN | (with_reducible refine Below.alloc ?_ (by first | omega | (simp <;> omega)) _) | (with_reducible refine Below.setCell ?_ (by first | omega | (simp <;> omega)) _)))); rintro e w2 ⟨rfl, hbw2⟩; have hsw2 := hbw2.size; (try simp at hsw2); (skip; (try ((have kw2w0 := (bnew hbw2) (w.heap.size) ?pf); (case pf => (first | omega | (simp; done) | (simp; omega))); obtain ⟨kcw2w0, kfw2w0, klw2w0⟩ := kw2w0)); (try ((have kw2w1 := (bnew hbw2) (w.heap.size + 1) ?pf); (case pf => (first | omega | (simp; done) | (simp; omega))); obtain ⟨kcw2w1, kfw2w1, klw2w1⟩ := kw2w1)); (try ((have kw2w2 := (bnew hbw2) (w.heap.size + 1 + 1) ?pf); (case pf => (first | omega | (simp; done) | (simp; omega))); obtain ⟨kcw2w2, kfw2w2, klw2w2⟩ := kw2w2)); (try ((have kw2w3 := (bnew hbw2) (w.heap.size + 1 + 1 + 1) ?pf); (case pf => (first | omega | (simp; done) | (simp; omega))); obtain ⟨kcw2w3, kfw2w3, klw2w3⟩ := kw2w3)))))
    exact bodyPost_ret (v := .tuple #[.agg #[.int .i64 (oN r), .int .i64 (oD r)], .bool r.isSome]) (by simp [results, Try.results85, go_sem, *]) rfl ⟨rfl, (by repeat (first | with_reducible exact Below.refl _ _ | with_reducible assumption | (with_reducible refine Below.trans ?_ (Below.mono (by assumption) (by first | omega | (simp <;> omega)))) | with_reducible apply Below.drew | with_reducible apply below_drewN | (with_reducible refine Below.alloc ?_ (by first | omega | (simp <;> omega)) _) | (with_reducible refine Below.setCell ?_ (by first | omega | (simp <;> omega)) _)))⟩
  · have hcd : decide (0 < cq x a) = false := decide_eq_false (fun h => hc (cq_gt.1 h))
    rw [if_neg hc]
    generalize vAt fs x = r at *
    generalize cq x a = cz at *
    have HO := hide hor; have H1 := hide h1
    clear hor h1 h2 hc ha hx
    generalize x.num = xn at *
    generalize (x.den : Int) = xd at *
    generalize a.num = an at *
    generalize (a.den : Int) = ad at *
    go_enter Try.func85, Try.ntmps85
    go_wp2_with (first
      | (go_at_call 38; (with_reducible refine ((unhide HO) _).mono ?_); rintro e w1 ⟨rfl, hbw1⟩; obtain ⟨hcw1, hfw1⟩ := bcell hbw1; have hzw1 := hbw1.size; (try simp at hzw1); (try ((have kw1w0 := (bnew hbw1) (w.heap.size) ?pf); (case pf => (first | omega | (simp; done) | (simp; omega))); obtain ⟨kcw1w0, kfw1w0, klw1w0⟩ := kw1w0)); (try ((have kw1w1 := (bnew hbw1) (w.heap.size + 1) ?pf); (case pf => (first | omega | (simp; done) | (simp; omega))); obtain ⟨kcw1w1, kfw1w1, klw1w1⟩ := kw1w1)); (try ((have kw1w2 := (bnew hbw1) (w.heap.size + 1 + 1) ?pf); (case pf => (first | omega | (simp; done) | (simp; omega))); obtain ⟨kcw1w2, kfw1w2, klw1w2⟩ := kw1w2)); (try ((have kw1w3 := (bnew hbw1) (w.heap.size + 1 + 1 + 1) ?pf); (case pf => (first | omega | (simp; done) | (simp; omega))); obtain ⟨kcw1w3, kfw1w3, klw1w3⟩ := kw1w3)))
      | (go_at_call 42; (with_reducible refine ((unhide H1) _ (own_below (unhide HF) ?pb)).mono ?_); (case pb => exact (by repeat (first | with_reducible exact Below.refl _ _ | with_reducible assumption | (with_reducible refine Below.trans ?_ (Below.mono (by assumption) (by first | omega | (simp <;> omega)))) | with_reducible apply Below.drew | with_reducible apply below_drewN | (with_reducible refine Below.alloc ?_ (by first | omega | (simp <;> omega)) _) | (with_reducible refine Below.setCell ?_ (by first | omega | (simp <;> omega)) _)))); rintro e w2 ⟨rfl, hbw2⟩; have hsw2 := hbw2.size; (try simp at hsw2); (skip; (try ((have kw2w0 := (bnew hbw2) (w.heap.size) ?pf); (case pf => (first | omega | (simp; done) | (simp; omega))); obtain ⟨kcw2w0, kfw2w0, klw2w0⟩ := kw2w0)); (try ((have kw2w1 := (bnew hbw2) (w.heap.size + 1) ?pf); (case pf => (first | omega | (simp; done) | (simp; omega))); obtain ⟨kcw2w1, kfw2w1, klw2w1⟩ := kw2w1)); (try ((have kw2w2 := (bnew hbw2) (w.heap.size + 1 + 1) ?pf); (case pf => (first | omega | (simp; done) | (simp; omega))); obtain ⟨kcw2w2, kfw2w2, klw2w2⟩ := kw2w2)); (try ((have kw2w3 := (bnew hbw2) (w.heap.size + 1 + 1 + 1) ?pf); (case pf => (first | omega | (simp; done) | (simp; omega))); obtain ⟨kcw2w3, kfw2w3, klw2w3⟩ := kw2w3)))))
    exact bodyPost_ret (v := .tuple #[.agg #[.int .i64 (oN r), .int .i64 (oD r)], .bool r.isSome]) (by simp [results, Try.results85, go_sem, *]) rfl ⟨rfl, (by repeat (first | with_reducible exact Below.refl _ _ | with_reducible assumption | (with_reducible refine Below.trans ?_ (Below.mono (by assumption) (by first | omega | (simp <;> omega)))) | with_reducible apply Below.drew | with_reducible apply below_drewN | (with_reducible refine Below.alloc ?_ (by first | omega | (simp <;> omega)) _) | (with_reducible refine Below.setCell ?_ (by first | omega | (simp <;> omega)) _)))⟩
end Go.Proofs.Ytgkbogcmmedmbaa

/-
  Chapter 2: PointsBefore: what program and model return, at any arguments.
-/
import Derived.Test.YtjggjegjhcpjhaaGreatPm
namespace Go.Proofs.YtjggjegjhcpjhaaGreat
open Go.RowKit Rm

theorem keep_val {r s : Rat} (h : keep r = some s) : s = r := by
  unfold keep at h
  split at h
  · injection h with h; exact h.symm
  · cases h
theorem back_val {p q : QP} {y x : Rat} (h : backR p q y = some x) : x = p.1 + (y - p.2) / slopeR p q := by
  unfold backR oadd at h
  simp only [Option.bind_some] at h
  cases hd : odiv (osub (some y) (some p.2)) (some (slopeR p q)) with
  | none => rw [hd] at h; cases h
  | some d =>
    rw [hd] at h
    have h1 := keep_val h
    unfold odiv at hd
    cases hs : osub (some y) (some p.2) with
    | none => rw [hs] at hd; cases hd
    | some s =>
      rw [hs] at hd
      have h3 : s = y - p.2 := keep_val hs
      simp only [Option.bind_some] at hd
      split at hd
      · cases hd
      · have h2 := keep_val hd
        rw [h1, h2, h3]
/-- The fractions before a value, if all parts fit. -/
def pbO (ps : List Pt) (a b : Int) : Option (List Rat) :=
  match mapB ps, uB a b with
  | true, true => pwK (fun p => cq p.2 (Rat.divInt a b)) (fun p q => backR p q (Rat.divInt a b)) (dec ps) ps.length
  | _, _ => none
def pbL (ps : List Pt) (a b : Int) : List Fr := ((pbO ps a b).getD []).map qf
def pbZ (ps : List Pt) (a b : Int) : Bool := (pbO ps a b).isSome
theorem pbO_no {ps : List Pt} {a b : Int} (h : mapB ps = false ∨ uB a b = false) : pbO ps a b = none := by
  unfold pbO
  rcases h with h | h
  · simp only [h]
  · cases mapB ps <;> simp only [h]
theorem pbO_yes {qs : List QP} (hg : GMap qs) {y : Rat} (hu : uB y.num y.den = true) : pbO (qs.map qp) y.num y.den = pwK (fun p => cq p.2 y) (fun p q => backR p q y) qs qs.length := by
  unfold pbO
  simp only [hg.mapB, hu, dec_qp, Rat.num_divInt_den, List.length_map]
theorem pbL_len (ps : List Pt) (a b : Int) : (pbL ps a b).length ≤ 1048576 := by
  unfold pbL pbO
  rw [List.length_map]
  cases hm : mapB ps with
  | false => simp
  | true =>
    cases hu : uB a b with
    | false => simp
    | true =>
      have h2 : ps.length ≤ 12 := by
        rcases Decidable.em (2 ≤ ps.length ∧ ps.length ≤ 12) with h1 | h1
        · exact h1.2
        · rw [mapB_len h1] at hm; cases hm
      cases hp : pwK (fun p => cq p.2 (Rat.divInt a b)) (fun p q => backR p q (Rat.divInt a b)) (dec ps) ps.length with
      | none => simp
      | some l =>
        have := pwK_len ps.length l hp
        simp only [Option.getD_some]
        omega
theorem gives_no {B : Nat} {W : World} {e : Ending} (h : e = .returned (.tuple #[.slice none 0 0, .bool false])) : GivesR B [] false e W := ⟨none, 0, h, World.ownsRow_nil _ _ _ _⟩

set_option maxRecDepth 100000 in
set_option maxHeartbeats 800000 in
theorem iPointsBefore_any (A : Option Addr) (n c base : Nat) (ps : List Pt) (a b : Int) (w : World) (ha : w.ownsRow base 63 4 (.slice A n c) n (ptcs ps)) (hn : n ≤ 1048576) :
    Calls Tryz.prog 194 #[.slice A n c, .agg #[.int .i64 (a), .int .i64 (b)]] w fun e w' => GivesR w.heap.size (pbL ps a b) (pbZ ps a b) e w' ∧ Below w.heap.size w w' := by
  have hmap := fun W hW => isMap_any A n c base ps W hW hn
  have hun := fun W => isUnit_any a b W
  rcases hm : mapB ps with _ | _
  · rw [show pbL ps a b = [] by unfold pbL; rw [pbO_no (.inl hm)]; rfl, show pbZ ps a b = false by unfold pbZ; rw [pbO_no (.inl hm)]; rfl]
    rw [hm] at hmap
    have HM := hide hmap; have HA := hide ha; clear hmap ha hm hun
    go_enter Tryz.func194, Tryz.ntmps194
    go_wp2_with (go_at_call 43; (refine ((unhide HM) _ (own_below (unhide HA) ?pb)).mono ?_); (case pb => exact (by repeat (first | with_reducible exact Below.refl _ _ | with_reducible assumption | (with_reducible refine Below.trans ?_ (Below.mono (by assumption) (by first | omega | (simp <;> omega)))) | with_reducible apply Below.drew | with_reducible apply below_drewN | (with_reducible refine Below.alloc ?_ (by first | omega | (simp <;> omega)) _) | (with_reducible refine Below.setCell ?_ (by first | omega | (simp <;> omega)) _)))); rintro e w1 ⟨rfl, hbw1⟩; (skip; (try ((have kw1w0 := (bnew hbw1) (w.heap.size) ?pf); (case pf => (first | omega | (simp; done) | (simp; omega))); obtain ⟨kcw1w0, kfw1w0, klw1w0⟩ := kw1w0))))
    go_ret2
    exact ⟨gives_no rfl, (by repeat (first | with_reducible exact Below.refl _ _ | with_reducible assumption | (with_reducible refine Below.trans ?_ (Below.mono (by assumption) (by first | omega | (simp <;> omega)))) | with_reducible apply Below.drew | with_reducible apply below_drewN | (with_reducible refine Below.alloc ?_ (by first | omega | (simp <;> omega)) _) | (with_reducible refine Below.setCell ?_ (by first | omega | (simp <;> omega)) _)))⟩
  · rw [hm] at hmap
    rcases hu : uB a b with _ | _
    · rw [show pbL ps a b = [] by unfold pbL; rw [pbO_no (.inr hu)]; rfl, show pbZ ps a b = false by unfold pbZ; rw [pbO_no (.inr hu)]; rfl]
      rw [hu] at hun
      have HM := hide hmap; have HA := hide ha; have HU := hide hun; clear hmap ha hm hun hu
      go_enter Tryz.func194, Tryz.ntmps194
      go_wp2_with (first | (go_at_call 73; (with_reducible refine ((unhide HU) _).mono ?_); rintro e w2 ⟨rfl, hbw2⟩; obtain ⟨hcw2, hfw2⟩ := bcell hbw2; have hzw2 := hbw2.size; (try simp at hzw2); (try ((have kw2w0 := (bnew hbw2) (w.heap.size) ?pf); (case pf => (first | omega | (simp; done) | (simp; omega))); obtain ⟨kcw2w0, kfw2w0, klw2w0⟩ := kw2w0))) | (go_at_call 43; (refine ((unhide HM) _ (own_below (unhide HA) ?pb)).mono ?_); (case pb => exact (by repeat (first | with_reducible exact Below.refl _ _ | with_reducible assumption | (with_reducible refine Below.trans ?_ (Below.mono (by assumption) (by first | omega | (simp <;> omega)))) | with_reducible apply Below.drew | with_reducible apply below_drewN | (with_reducible refine Below.alloc ?_ (by first | omega | (simp <;> omega)) _) | (with_reducible refine Below.setCell ?_ (by first | omega | (simp <;> omega)) _)))); rintro e w1 ⟨rfl, hbw1⟩; have hz1 := hbw1.size; (try simp at hz1); (skip; (try ((have kw1w0 := (bnew hbw1) (w.heap.size) ?pf); (case pf => (first | omega | (simp; done) | (simp; omega))); obtain ⟨kcw1w0, kfw1w0, klw1w0⟩ := kw1w0)))))
      go_ret2
      exact ⟨gives_no rfl, (by repeat (first | with_reducible exact Below.refl _ _ | with_reducible assumption | (with_reducible refine Below.trans ?_ (Below.mono (by assumption) (by first | omega | (simp <;> omega)))) | with_reducible apply Below.drew | with_reducible apply below_drewN | (with_reducible refine Below.alloc ?_ (by first | omega | (simp <;> omega)) _) | (with_reducible refine Below.setCell ?_ (by first | omega | (simp <;> omega)) _)))⟩
    · obtain ⟨g, m, qs, rfl, rfl, rfl, hg, hlen⟩ := own_form ha hm
      obtain ⟨y, rfl, rfl, hyf, hy0, hy1⟩ := uB_rat hu
      have hpw : ∀ W : World, W.ownsRow base 63 4 (.slice (some ⟨g, 0, none⟩) (m + 1) c) (m + 1) (ptcs (qs.map qp)) →
          Calls Tryz.prog 195 #[.slice (some ⟨g, 0, none⟩) (m + 1) c, .agg #[.int .i64 (y.num), .int .i64 (y.den)]] W fun e w' => GivesR W.heap.size (pbL (qs.map qp) y.num y.den) (pbZ (qs.map qp) y.num y.den) e w' ∧ Below W.heap.size W w' := by
        intro W hW
        refine (fractionsBefore_any g 0 m c qs y W (PCells.own hW) hlen (GMap.seg hg) hyf).mono ?_
        rintro e w' ⟨h1, h2, h3⟩
        have hO := pbO_yes hg hu
        rw [hlen] at hO
        cases hp : pwK (fun p => cq p.2 y) (fun p q => backR p q y) qs (m + 1) with
        | none =>
          rw [show pbL (qs.map qp) y.num y.den = [] by unfold pbL; rw [hO, hp]; rfl, show pbZ (qs.map qp) y.num y.den = false by unfold pbZ; rw [hO, hp]; rfl]
          exact ⟨gives_no (h2 hp), h3⟩
        | some l =>
          rw [show pbL (qs.map qp) y.num y.den = l.map qf by unfold pbL; rw [hO, hp]; rfl, show pbZ (qs.map qp) y.num y.den = true by unfold pbZ; rw [hO, hp]; rfl]
          obtain ⟨v, rfl, ho⟩ := h1 l hp
          obtain ⟨B, d, rfl⟩ := own_slice ho
          exact ⟨⟨B, d, by rw [List.length_map], by rw [List.length_map]; exact ho⟩, h3⟩
      generalize pbL (qs.map qp) y.num y.den = xs at *
      generalize pbZ (qs.map qp) y.num y.den = z at *
      rw [hu] at hun
      have HM := hide hmap; have HA := hide ha; have HU := hide hun; have HW := hide hpw
      clear hmap ha hm hun hu hpw hg hlen hyf hy0 hy1
      generalize y.num = yn at *
      generalize (y.den : Int) = yd at *
      go_enter Tryz.func194, Tryz.ntmps194
      go_wp2_with (first | (go_at_call 73; (with_reducible refine ((unhide HU) _).mono ?_); rintro e w2 ⟨rfl, hbw2⟩; obtain ⟨hcw2, hfw2⟩ := bcell hbw2; have hzw2 := hbw2.size; (try simp at hzw2); (try ((have kw2w0 := (bnew hbw2) (w.heap.size) ?pf); (case pf => (first | omega | (simp; done) | (simp; omega))); obtain ⟨kcw2w0, kfw2w0, klw2w0⟩ := kw2w0))) | (go_at_call 43; (refine ((unhide HM) _ (own_below (unhide HA) ?pb)).mono ?_); (case pb => exact (by repeat (first | with_reducible exact Below.refl _ _ | with_reducible assumption | (with_reducible refine Below.trans ?_ (Below.mono (by assumption) (by first | omega | (simp <;> omega)))) | with_reducible apply Below.drew | with_reducible apply below_drewN | (with_reducible refine Below.alloc ?_ (by first | omega | (simp <;> omega)) _) | (with_reducible refine Below.setCell ?_ (by first | omega | (simp <;> omega)) _)))); rintro e w1 ⟨rfl, hbw1⟩; have hz1 := hbw1.size; (try simp at hz1); (skip; (try ((have kw1w0 := (bnew hbw1) (w.heap.size) ?pf); (case pf => (first | omega | (simp; done) | (simp; omega))); obtain ⟨kcw1w0, kfw1w0, klw1w0⟩ := kw1w0)))) | (go_at_call 195; refine ((unhide HW) _ (own_below (unhide HA) ?pb)).mono ?_; (case pb => exact (by repeat (first | with_reducible exact Below.refl _ _ | with_reducible assumption | (with_reducible refine Below.trans ?_ (Below.mono (by assumption) (by first | omega | (simp <;> omega)))) | with_reducible apply Below.drew | with_reducible apply below_drewN | (with_reducible refine Below.alloc ?_ (by first | omega | (simp <;> omega)) _) | (with_reducible refine Below.setCell ?_ (by first | omega | (simp <;> omega)) _)))); rintro e w3 ⟨⟨B3, d3, rfl, ho3⟩, hbw3⟩; have HO3 := hide ho3; clear ho3))
      have hb2 : Below w.heap.size w w2 := (by repeat (first | with_reducible exact Below.refl _ _ | with_reducible assumption | (with_reducible refine Below.trans ?_ (Below.mono (by assumption) (by first | omega | (simp <;> omega)))) | with_reducible apply Below.drew | with_reducible apply below_drewN | (with_reducible refine Below.alloc ?_ (by first | omega | (simp <;> omega)) _) | (with_reducible refine Below.setCell ?_ (by first | omega | (simp <;> omega)) _)))
      go_ret2
      exact ⟨⟨B3, d3, rfl, (unhide HO3).mono hb2.size⟩, hb2.trans (hbw3.mono hb2.size)⟩

end Go.Proofs.YtjggjegjhcpjhaaGreat

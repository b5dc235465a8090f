/-
  Chapter 5: IsBelow of program and model.
-/
import Derived.Test.YtgkbogcmmedmbaaEi
import Derived.Test.YtgkbogcmmedmbaaEs
namespace Go.Proofs.Ytgkbogcmmedmbaa
open Go.RowKit Rm

theorem pair_cells {w : World} {base n c k : Nat} {A : Option Addr} {qs : List QP} (h : w.ownsRow base 60 4 (.slice A n c) n (ptcs (qs.map qp))) (hk : k < n) :
    ∃ g, A = some ⟨g, 0, none⟩ ∧ g < w.heap.size ∧ base ≤ g ∧ w.cell? ⟨g, k * 4, none⟩ = some (.int .i64 (qAt qs k).1.num) ∧ w.cell? ⟨g, k * 4 + 1, none⟩ = some (.int .i64 (qAt qs k).1.den) ∧ w.cell? ⟨g, k * 4 + 2, none⟩ = some (.int .i64 (qAt qs k).2.num) ∧ w.cell? ⟨g, k * 4 + 3, none⟩ = some (.int .i64 (qAt qs k).2.den) := by
  obtain ⟨g, cap, hv, _, hlt⟩ := h.form (by omega)
  have hA : A = some ⟨g, 0, none⟩ ∧ c = cap := by injection hv with h1 _ h2; exact ⟨h1, h2⟩
  obtain ⟨rfl, rfl⟩ := hA
  have hl : (qs.map qp).length = n := by have := h.1; rw [ptcs_len] at this; omega
  obtain ⟨k0, k1, k2, k3⟩ := ptcs_at (ps := qs.map qp) (by omega) ((pAt_map qs k).trans (qp_parts _))
  exact ⟨g, rfl, hlt, (h.lt g rfl).1, (h.cellAt (k * 4) (by omega)).trans k0, (h.cellAt (k * 4 + 1) (by omega)).trans k1, (h.cellAt (k * 4 + 2) (by omega)).trans k2, (h.cellAt (k * 4 + 3) (by omega)).trans k3⟩
/-- Is no value of the first greater? -/
def ibB (ls : List QP) : Bool := ls.all fun p => decide (¬ p.2 < p.1)
theorem ibB_at {ls : List QP} {k : Nat} (hk : k < ls.length) (h : (qAt ls k).2 < (qAt ls k).1) : ibB ls = false := by
  cases hc : ibB ls with
  | false => rfl
  | true =>
    have := List.all_eq_true.1 hc _ (List.getElem_mem hk)
    rw [← qAt_elem hk, decide_eq_true_eq] at this
    exact absurd h this
theorem ibB_all {ls : List QP} (h : ∀ k, k < ls.length → ¬ (qAt ls k).2 < (qAt ls k).1) : ibB ls = true := by
  refine List.all_eq_true.2 fun p hp => ?_
  obtain ⟨k, hk, e⟩ := List.mem_iff_getElem.1 hp
  have := h k hk
  rw [qAt_elem hk, e] at this
  exact decide_eq_true this
def ibO (ps qs : List Pt) : Option Bool :=
  if mapB ps && mapB qs then (if cvB (dec ps) (dec qs) (bothX (dec ps) (dec qs)) then some (ibB (vpL (dec ps) (dec qs) (bothX (dec ps) (dec qs)))) else none) else none
theorem ibO_no {ps qs : List Pt} (h : mapB ps = false ∨ mapB qs = false) : ibO ps qs = none := by
  unfold ibO
  rw [if_neg]
  rcases h with h | h <;> simp [h]
theorem ibO_yes {fs gs : List QP} (hF : GMap fs) (hG : GMap gs) : ibO (fs.map qp) (gs.map qp) = if cvB fs gs (bothX fs gs) then some (ibB (vpL fs gs (bothX fs gs))) else none := by
  unfold ibO
  rw [hF.mapB, hG.mapB, dec_qp, dec_qp]
  rfl
theorem vpL_at {fs gs : List QP} {xs : List Rat} {k : Nat} (h : k < xs.length) : qAt (vpL fs gs xs) k = (vf fs (xs.getD k 0), vf gs (xs.getD k 0)) := by unfold vpL qAt; simp [List.getD_eq_getElem?_getD, h]
theorem vpL_len (fs gs : List QP) (xs : List Rat) : (vpL fs gs xs).length = xs.length := List.length_map ..
theorem vf_fit {fs gs : List QP} {xs : List Rat} (hF : GMap fs) (hG : GMap gs) (hu : ∀ x ∈ xs, Un x) (hc : cvB fs gs xs = true) {k : Nat} (hk : k < xs.length) : Un (vf fs (xs.getD k 0)) ∧ Un (vf gs (xs.getD k 0)) := by
  have hxm : xs.getD k 0 ∈ xs := mem_iff_getD.2 ⟨k, hk, rfl⟩
  obtain ⟨h1, h2⟩ := cvB_all hc hxm
  exact ⟨vAt_un' hF (hu _ hxm) _ h1, vAt_un' hG (hu _ hxm) _ h2⟩

set_option maxRecDepth 100000 in
theorem isBelow1_any (a b : Rat) (ha : fits a = true) (hb : fits b = true) (w : World) : Calls Try.prog 44 #[.agg #[.int .i64 (a.num), .int .i64 (a.den), .int .i64 (b.num), .int .i64 (b.den)]] w fun e w' => e = .returned (.bool (decide (0 < cq a b))) ∧ Below w.heap.size w w' := by
  have h := fun W => orderOf_q a b ha hb W
  generalize cq a b = z at *
  have H := hide h; clear h
  go_enter Try.func44, Try.ntmps44
  go_wp2_with ((go_at_call 38; (with_reducible refine ((unhide H) _).mono ?_); rintro e w1 ⟨rfl, hbw1⟩; obtain ⟨hcw1, hfw1⟩ := bcell hbw1; have hzw1 := hbw1.size; (try simp at hzw1); (try ((have kw1w0 := (bnew hbw1) (w.heap.size) ?pf); (case pf => (first | omega | (simp; done) | (simp; omega))); obtain ⟨kcw1w0, kfw1w0, klw1w0⟩ := kw1w0))))
  go_ret
  exact ⟨by simp, (by repeat (first | with_reducible exact Below.refl _ _ | with_reducible assumption | (with_reducible refine Below.trans ?_ (Below.mono (by assumption) (by first | omega | (simp <;> omega)))) | with_reducible apply Below.drew | with_reducible apply below_drewN | (with_reducible refine Below.alloc ?_ (by first | omega | (simp <;> omega)) _) | (with_reducible refine Below.setCell ?_ (by first | omega | (simp <;> omega)) _)))⟩
set_option maxRecDepth 100000 in
set_option maxHeartbeats 1600000 in
theorem indexBelow_any (A : Option Addr) (n c base : Nat) (ls : List QP) (w : World) (hx : w.ownsRow base 60 4 (.slice A n c) n (ptcs (ls.map qp))) (hn : n ≤ 1000) (hf : ∀ k, k < n → fits (qAt ls k).1 = true ∧ fits (qAt ls k).2 = true) :
    Calls Try.prog 68 #[.slice A n c, .func (.func 44) #[] #[]] w fun e w' => ∃ i : Int, e = .returned (.int .i64 i) ∧ (0 ≤ i ↔ ibB ls = false) ∧ Below w.heap.size w w' := by
  have hlen : ls.length = n := by have := hx.1; rw [ptcs_len, List.length_map] at this; omega
  have HX := hide hx; have HL := Lib.hid hlen; have HF := hide hf; clear hx hlen hf
  go_enter Try.func68, Try.ntmps68
  go_wp2
  go_loopw [8] (fun i wr => ∃ k : Nat, i = .int .i64 k ∧ k ≤ n ∧ Hid (∀ t, t < k → ¬ (qAt ls t).2 < (qAt ls t).1) ∧ Below w.heap.size w wr) (fun i _ => n - (intOf i).toNat)
  case atStart => exact ⟨0, rfl, Nat.zero_le _, hide (fun t ht => absurd ht (by omega)), Below.refl _ _⟩
  case round =>
    obtain ⟨k, rfl, hk, hup, hbwr⟩ := hrel
    have hsr := hbwr.size
    by_cases hlt : k < n
    · obtain ⟨g, rfl, hg, _, f0, f1, f2, f3⟩ := pair_cells (own_below (unhide HX) hbwr) hlt
      obtain ⟨hfa, hfb⟩ := (unhide HF) k hlt
      have hu := fun W => isBelow1_any (qAt ls k).1 (qAt ls k).2 hfa hfb W
      have HB := hide hbwr; clear hbwr hfa hfb
      by_cases hz : (qAt ls k).2 < (qAt ls k).1
      · rw [decide_eq_true (cq_gt.2 hz)] at hu
        have HN := Lib.hid (ibB_at (ls := ls) (k := k) (by rw [HL.out]; exact hlt) hz)
        have HU := hide hu
        clear hu hz hup
        generalize (qAt ls k).1.num = a1 at *
        generalize ((qAt ls k).1.den : Int) = a2 at *
        generalize (qAt ls k).2.num = a3 at *
        generalize ((qAt ls k).2.den : Int) = a4 at *
        go_wp2_with (go_at_call 44; (with_reducible refine ((unhide HU) _).mono ?_); rintro e w1 ⟨rfl, hbw1⟩)
        have hb := unhide HB
        go_ret
        exact ⟨(k : Int), rfl, ⟨fun _ => HN.out, fun _ => by omega⟩, (by repeat (first | with_reducible exact Below.refl _ _ | with_reducible assumption | (with_reducible refine Below.trans ?_ (Below.mono (by assumption) (by first | omega | (simp <;> omega)))) | with_reducible apply Below.drew | with_reducible apply below_drewN | (with_reducible refine Below.alloc ?_ (by first | omega | (simp <;> omega)) _) | (with_reducible refine Below.setCell ?_ (by first | omega | (simp <;> omega)) _)))⟩
      · rw [decide_eq_false (fun e => hz (cq_gt.1 e))] at hu
        have HUP := hide (show ∀ t, t < k + 1 → ¬ (qAt ls t).2 < (qAt ls t).1 from fun t ht => by
          by_cases htk : t = k
          · rw [htk]; exact hz
          · exact (unhide hup) t (by omega))
        have HU := hide hu
        clear hu hz hup
        generalize (qAt ls k).1.num = a1 at *
        generalize ((qAt ls k).1.den : Int) = a2 at *
        generalize (qAt ls k).2.num = a3 at *
        generalize ((qAt ls k).2.den : Int) = a4 at *
        go_wp2_with (go_at_call 44; (with_reducible refine ((unhide HU) _).mono ?_); rintro e w1 ⟨rfl, hbw1⟩)
        have hb := unhide HB
        have hz : Below w.heap.size w w1 := (by repeat (first | with_reducible exact Below.refl _ _ | with_reducible assumption | (with_reducible refine Below.trans ?_ (Below.mono (by assumption) (by first | omega | (simp <;> omega)))) | with_reducible apply Below.drew | with_reducible apply below_drewN | (with_reducible refine Below.alloc ?_ (by first | omega | (simp <;> omega)) _) | (with_reducible refine Below.setCell ?_ (by first | omega | (simp <;> omega)) _)))
        have HZ := hide hz
        clear hz hb hbw1
        go_roundw
        case rel => exact ⟨k + 1, by go_num, by omega, HUP, unhide HZ⟩
        case measure => simp [intOf]; omega
    · have hke : k = n := by omega
      have hal : ibB ls = true := ibB_all fun t ht => (unhide hup) t (by rw [hke, ← HL.out]; exact ht)
      have HN := Lib.hid hal
      have HB := hide hbwr
      clear hke hal hbwr hup
      go_wp2
      go_ret
      exact ⟨-1, rfl, ⟨fun h => (by omega), fun h => (by rw [HN.out] at h; cases h)⟩, unhide HB⟩
set_option maxRecDepth 100000 in
theorem containsBelow_any (A : Option Addr) (n c base : Nat) (ls : List QP) (w : World) (hx : w.ownsRow base 60 4 (.slice A n c) n (ptcs (ls.map qp))) (hn : n ≤ 1000) (hf : ∀ k, k < n → fits (qAt ls k).1 = true ∧ fits (qAt ls k).2 = true) :
    Calls Try.prog 45 #[.slice A n c, .func (.func 44) #[] #[]] w fun e w' => e = .returned (.bool (!ibB ls)) ∧ Below w.heap.size w w' := by
  have hi := indexBelow_any A n c base ls w hx hn hf
  have HI := hide hi; clear hi hx hf
  go_enter Try.func45, Try.ntmps45
  go_wp2_with fail
  refine (unhide HI).mono ?_
  rintro e w1 ⟨i, rfl, hi, hb⟩
  cases hu : ibB ls with
  | false =>
    have h0 := hi.2 hu
    have HU := Lib.hid hu
    clear hi hu
    go_wp2_with fail
    go_ret
    exact ⟨by rw [HU.out]; simp, hb⟩
  | true =>
    have h0 : i < 0 := by
      rcases Int.lt_or_le i 0 with h | h
      · exact h
      · rw [hi.1 h] at hu; cases hu
    have HU := Lib.hid hu
    clear hi hu
    go_wp2_with fail
    go_ret
    exact ⟨by rw [HU.out]; simp; omega, hb⟩

theorem valuesOfBoth_no (A : Option Addr) (n c b1 : Nat) (ps : List Pt) (B : Option Addr) (m d b2 : Nat) (qs : List Pt) (w : World) (ha : w.ownsRow b1 43 4 (.slice A n c) n (ptcs ps)) (hn : n ≤ 1048576) (hb : w.ownsRow b2 43 4 (.slice B m d) m (ptcs qs)) (hm : m ≤ 1048576) (h : mapB ps = false ∨ mapB qs = false) :
    Calls Try.prog 35 #[.slice A n c, .slice B m d] w fun e w' => e = .returned (.tuple #[.slice none 0 0, .bool false]) ∧ Below w.heap.size w w' := by
  have hm1 := fun W hW => isMap_any A n c b1 ps W hW hn
  have hm2 := fun W hW => isMap_any B m d b2 qs W hW hm
  have HA := hide ha; have HB := hide hb; clear ha hb
  cases h1 : mapB ps with
  | false =>
    rw [h1] at hm1
    have HM1 := hide hm1; clear hm1 hm2 h1 h
    go_enter Try.func35, Try.ntmps35
    go_wp2_with (go_at_call 26; (with_reducible refine ((unhide HM1) _ (own_below (unhide HA) ?pb)).mono ?_); (case pb => exact (by repeat (first | with_reducible exact Below.refl _ _ | with_reducible assumption | (with_reducible refine Below.trans ?_ (Below.mono (by assumption) (by first | omega | (simp <;> omega)))) | with_reducible apply Below.drew | with_reducible apply below_drewN | (with_reducible refine Below.alloc ?_ (by first | omega | (simp <;> omega)) _) | (with_reducible refine Below.setCell ?_ (by first | omega | (simp <;> omega)) _)))); rintro e wa ⟨rfl, hbwa⟩; have hsa := hbwa.size)
    go_ret2
    exact ⟨rfl, (by repeat (first | with_reducible exact Below.refl _ _ | with_reducible assumption | (with_reducible refine Below.trans ?_ (Below.mono (by assumption) (by first | omega | (simp <;> omega)))) | with_reducible apply Below.drew | with_reducible apply below_drewN | (with_reducible refine Below.alloc ?_ (by first | omega | (simp <;> omega)) _) | (with_reducible refine Below.setCell ?_ (by first | omega | (simp <;> omega)) _)))⟩
  | true =>
    have h2 : mapB qs = false := by rcases h with h | h; rw [h1] at h; cases h; exact h
    rw [h1] at hm1
    rw [h2] at hm2
    have HM1 := hide hm1; have HM2 := hide hm2; clear hm1 hm2 h1 h2 h
    go_enter Try.func35, Try.ntmps35
    go_wp2_with (first
      | (go_at_call 26; (with_reducible refine ((unhide HM1) _ (own_below (unhide HA) ?pb)).mono ?_); (case pb => exact (by repeat (first | with_reducible exact Below.refl _ _ | with_reducible assumption | (with_reducible refine Below.trans ?_ (Below.mono (by assumption) (by first | omega | (simp <;> omega)))) | with_reducible apply Below.drew | with_reducible apply below_drewN | (with_reducible refine Below.alloc ?_ (by first | omega | (simp <;> omega)) _) | (with_reducible refine Below.setCell ?_ (by first | omega | (simp <;> omega)) _)))); rintro e wa ⟨rfl, hbwa⟩; have hsa := hbwa.size)
      | (go_at_call 26; (with_reducible refine ((unhide HM2) _ (own_below (unhide HB) ?pb)).mono ?_); (case pb => exact (by repeat (first | with_reducible exact Below.refl _ _ | with_reducible assumption | (with_reducible refine Below.trans ?_ (Below.mono (by assumption) (by first | omega | (simp <;> omega)))) | with_reducible apply Below.drew | with_reducible apply below_drewN | (with_reducible refine Below.alloc ?_ (by first | omega | (simp <;> omega)) _) | (with_reducible refine Below.setCell ?_ (by first | omega | (simp <;> omega)) _)))); rintro e wb ⟨rfl, hbwb⟩; have hsb := hbwb.size))
    go_ret2
    exact ⟨rfl, (by repeat (first | with_reducible exact Below.refl _ _ | with_reducible assumption | (with_reducible refine Below.trans ?_ (Below.mono (by assumption) (by first | omega | (simp <;> omega)))) | with_reducible apply Below.drew | with_reducible apply below_drewN | (with_reducible refine Below.alloc ?_ (by first | omega | (simp <;> omega)) _) | (with_reducible refine Below.setCell ?_ (by first | omega | (simp <;> omega)) _)))⟩
set_option maxRecDepth 100000 in
set_option maxHeartbeats 1600000 in
theorem iIsBelow_any (A : Option Addr) (n c b1 : Nat) (ps : List Pt) (B : Option Addr) (m d b2 : Nat) (qs : List Pt) (w : World) (ha : w.ownsRow b1 43 4 (.slice A n c) n (ptcs ps)) (hn : n ≤ 1048576) (hb : w.ownsRow b2 43 4 (.slice B m d) m (ptcs qs)) (hm : m ≤ 1048576) :
    Calls Try.prog 21 #[.slice A n c, .slice B m d] w fun e w' => e = .returned (.tuple #[.bool ((ibO ps qs).getD false), .bool (ibO ps qs).isSome]) ∧ Below w.heap.size w w' := by
  cases hz : (mapB ps && mapB qs) with
  | false =>
    have hno : mapB ps = false ∨ mapB qs = false := by
      cases h1 : mapB ps with
      | false => exact .inl rfl
      | true => rw [h1, Bool.true_and] at hz; exact .inr hz
    have hv := valuesOfBoth_no A n c b1 ps B m d b2 qs w ha hn hb hm hno
    rw [ibO_no hno]
    have HV := hide hv; clear hv ha hb hno hz
    go_enter Try.func21, Try.ntmps21
    go_wp2_with (go_at_call 35; (with_reducible refine (unhide HV).mono ?_); rintro e w1 ⟨rfl, hbw1⟩)
    go_ret2
    exact ⟨rfl, (by repeat (first | with_reducible exact Below.refl _ _ | with_reducible assumption | (with_reducible refine Below.trans ?_ (Below.mono (by assumption) (by first | omega | (simp <;> omega)))) | with_reducible apply Below.drew | with_reducible apply below_drewN | (with_reducible refine Below.alloc ?_ (by first | omega | (simp <;> omega)) _) | (with_reducible refine Below.setCell ?_ (by first | omega | (simp <;> omega)) _)))⟩
  | true =>
    rw [Bool.and_eq_true] at hz
    obtain ⟨g, m1, fs, rfl, rfl, rfl, hgx, hlx⟩ := own_form ha hz.1
    obtain ⟨g', m2, gs, rfl, rfl, rfl, hgy, hly⟩ := own_form hb hz.2
    rw [ibO_yes hgx hgy]
    have hv := valuesOfBoth_any g m1 c b1 g' m2 d b2 fs gs w ha hb hgx hgy
    obtain ⟨hpl, hbl⟩ := bothX_pl hgx hgy
    have hfit := fun hc k hk => vf_fit (xs := bothX fs gs) hgx hgy hpl.un hc (k := k) hk
    have HV := hide hv; have HFT := hide hfit
    clear hv hfit ha hb hz hgx hgy hlx hly hpl
    generalize bothX fs gs = xs at *
    cases hc : cvB fs gs xs with
    | false =>
      have HC := Lib.hid hc; clear hc
      rw [if_neg (by simp)]
      go_enter Try.func21, Try.ntmps21
      go_wp2_with (go_at_call 35; (with_reducible refine (unhide HV).mono ?_); rintro e w1 ⟨⟨_, h2⟩, hbw1⟩; obtain rfl := h2 HC.out; clear h2)
      go_ret2
      exact ⟨rfl, (by repeat (first | with_reducible exact Below.refl _ _ | with_reducible assumption | (with_reducible refine Below.trans ?_ (Below.mono (by assumption) (by first | omega | (simp <;> omega)))) | with_reducible apply Below.drew | with_reducible apply below_drewN | (with_reducible refine Below.alloc ?_ (by first | omega | (simp <;> omega)) _) | (with_reducible refine Below.setCell ?_ (by first | omega | (simp <;> omega)) _)))⟩
    | true =>
      rw [if_pos rfl]
      have hcb := fun (A1 : Option Addr) (d1 base : Nat) (W : World) hW => containsBelow_any A1 xs.length d1 base (vpL fs gs xs) W hW (by omega) (fun k hk => by rw [vpL_at hk]; have := (unhide HFT) hc k hk; exact ⟨this.1.fit, this.2.fit⟩)
      have HC := Lib.hid hc; have HCB := hide hcb; clear hc hcb
      generalize ibB (vpL fs gs xs) = z at *
      simp only [Option.getD_some, Option.isSome_some]
      go_enter Try.func21, Try.ntmps21
      go_wp2_with (first
        | (go_at_call 35; (with_reducible refine (unhide HV).mono ?_); rintro e w1 ⟨⟨h1, _⟩, hbw1⟩; obtain ⟨A1, d1, rfl, ho1⟩ := h1 HC.out; clear h1; have hs1 := hbw1.size; have HO1 := hide ho1; clear ho1)
        | (go_at_call 45; (with_reducible refine ((unhide HCB) A1 d1 _ _ (unhide HO1)).mono ?_); rintro e w2 ⟨rfl, hbw2⟩))
      go_ret2
      exact ⟨by simp, (by repeat (first | with_reducible exact Below.refl _ _ | with_reducible assumption | (with_reducible refine Below.trans ?_ (Below.mono (by assumption) (by first | omega | (simp <;> omega)))) | with_reducible apply Below.drew | with_reducible apply below_drewN | (with_reducible refine Below.alloc ?_ (by first | omega | (simp <;> omega)) _) | (with_reducible refine Below.setCell ?_ (by first | omega | (simp <;> omega)) _)))⟩

set_option maxRecDepth 100000 in
set_option maxHeartbeats 1600000 in
theorem sIsBelow_any (A : Option Addr) (n c b1 : Nat) (ps : List Pt) (B : Option Addr) (m d b2 : Nat) (qs : List Pt) (w : World) (ha : w.ownsRow b1 43 4 (.slice A n c) n (ptcs ps)) (hn : n ≤ 1048576) (hb : w.ownsRow b2 43 4 (.slice B m d) m (ptcs qs)) (hm : m ≤ 1048576) :
    Calls Try.prog 20 #[.slice A n c, .slice B m d] w fun e w' => e = .returned (.tuple #[.bool ((ibO ps qs).getD false), .bool (ibO ps qs).isSome]) ∧ Below w.heap.size w w' := by
  have ht := fun W hW hV => coTwo_any A B n m c d b1 b2 ps qs W hW hV hn hm
  cases hz : (mapB ps && mapB qs) with
  | false =>
    rw [hz] at ht
    have e : ibO ps qs = none := by unfold ibO; rw [hz]; rfl
    rw [e]
    have HA := hide ha; have HB := hide hb; have HT := hide ht; clear ha hb ht hz e
    go_enter Try.func20, Try.ntmps20
    go_wp2_with (go_at_call 22; (with_reducible refine ((unhide HT) _ (own_below (unhide HA) ?p1) (own_below (unhide HB) ?p2)).mono ?_); (case p1 => exact (by repeat (first | with_reducible exact Below.refl _ _ | with_reducible assumption | (with_reducible refine Below.trans ?_ (Below.mono (by assumption) (by first | omega | (simp <;> omega)))) | with_reducible apply Below.drew | with_reducible apply below_drewN | (with_reducible refine Below.alloc ?_ (by first | omega | (simp <;> omega)) _) | (with_reducible refine Below.setCell ?_ (by first | omega | (simp <;> omega)) _)))); (case p2 => exact (by repeat (first | with_reducible exact Below.refl _ _ | with_reducible assumption | (with_reducible refine Below.trans ?_ (Below.mono (by assumption) (by first | omega | (simp <;> omega)))) | with_reducible apply Below.drew | with_reducible apply below_drewN | (with_reducible refine Below.alloc ?_ (by first | omega | (simp <;> omega)) _) | (with_reducible refine Below.setCell ?_ (by first | omega | (simp <;> omega)) _)))); rintro e w0 ⟨rfl, hbw0⟩; have hs0 := hbw0.size)
    go_ret2
    exact ⟨rfl, (by repeat (first | with_reducible exact Below.refl _ _ | with_reducible assumption | (with_reducible refine Below.trans ?_ (Below.mono (by assumption) (by first | omega | (simp <;> omega)))) | with_reducible apply Below.drew | with_reducible apply below_drewN | (with_reducible refine Below.alloc ?_ (by first | omega | (simp <;> omega)) _) | (with_reducible refine Below.setCell ?_ (by first | omega | (simp <;> omega)) _)))⟩
  | true =>
    rw [hz] at ht
    rw [Bool.and_eq_true] at hz
    obtain ⟨g, m1, fs, rfl, rfl, rfl, hgx, hlx⟩ := own_form ha hz.1
    obtain ⟨g', m2, gs, rfl, rfl, rfl, hgy, hly⟩ := own_form hb hz.2
    rw [ibO_yes hgx hgy]
    have hv := fun W hW hV => coValues_any g m1 c b1 g' m2 d b2 fs gs W hW hV hgx hgy
    obtain ⟨hpl, hbl⟩ := bothX_pl hgx hgy
    have hxl := hpl.len
    have hfit := fun hc k hk => vf_fit (xs := bothX fs gs) hgx hgy hpl.un hc (k := k) hk
    have HV := hide hv; have HFT := hide hfit; have HA := hide ha; have HB := hide hb; have HT := hide ht
    clear hv hfit ha hb ht hz hgx hgy hlx hly hpl
    generalize bothX fs gs = xs at *
    cases hc : cvB fs gs xs with
    | false =>
      have HC := Lib.hid hc; clear hc
      rw [if_neg (by simp)]
      go_enter Try.func20, Try.ntmps20
      go_wp2_with (first
        | (go_at_call 22; (with_reducible refine ((unhide HT) _ (own_below (unhide HA) ?p1) (own_below (unhide HB) ?p2)).mono ?_); (case p1 => exact (by repeat (first | with_reducible exact Below.refl _ _ | with_reducible assumption | (with_reducible refine Below.trans ?_ (Below.mono (by assumption) (by first | omega | (simp <;> omega)))) | with_reducible apply Below.drew | with_reducible apply below_drewN | (with_reducible refine Below.alloc ?_ (by first | omega | (simp <;> omega)) _) | (with_reducible refine Below.setCell ?_ (by first | omega | (simp <;> omega)) _)))); (case p2 => exact (by repeat (first | with_reducible exact Below.refl _ _ | with_reducible assumption | (with_reducible refine Below.trans ?_ (Below.mono (by assumption) (by first | omega | (simp <;> omega)))) | with_reducible apply Below.drew | with_reducible apply below_drewN | (with_reducible refine Below.alloc ?_ (by first | omega | (simp <;> omega)) _) | (with_reducible refine Below.setCell ?_ (by first | omega | (simp <;> omega)) _)))); rintro e w0 ⟨rfl, hbw0⟩; have hs0 := hbw0.size)
        | (go_at_call 30; (with_reducible refine ((unhide HV) _ (own_below (unhide HA) ?pb) (own_below (unhide HB) ?pc)).mono ?_); (case pb => exact (by repeat (first | with_reducible exact Below.refl _ _ | with_reducible assumption | (with_reducible refine Below.trans ?_ (Below.mono (by assumption) (by first | omega | (simp <;> omega)))) | with_reducible apply Below.drew | with_reducible apply below_drewN | (with_reducible refine Below.alloc ?_ (by first | omega | (simp <;> omega)) _) | (with_reducible refine Below.setCell ?_ (by first | omega | (simp <;> omega)) _)))); (case pc => exact (by repeat (first | with_reducible exact Below.refl _ _ | with_reducible assumption | (with_reducible refine Below.trans ?_ (Below.mono (by assumption) (by first | omega | (simp <;> omega)))) | with_reducible apply Below.drew | with_reducible apply below_drewN | (with_reducible refine Below.alloc ?_ (by first | omega | (simp <;> omega)) _) | (with_reducible refine Below.setCell ?_ (by first | omega | (simp <;> omega)) _)))); rintro e w1 ⟨⟨_, h2⟩, hbw1⟩; obtain rfl := h2 HC.out; clear h2))
      go_ret2
      exact ⟨rfl, (by repeat (first | with_reducible exact Below.refl _ _ | with_reducible assumption | (with_reducible refine Below.trans ?_ (Below.mono (by assumption) (by first | omega | (simp <;> omega)))) | with_reducible apply Below.drew | with_reducible apply below_drewN | (with_reducible refine Below.alloc ?_ (by first | omega | (simp <;> omega)) _) | (with_reducible refine Below.setCell ?_ (by first | omega | (simp <;> omega)) _)))⟩
    | true =>
      rw [if_pos rfl]
      have hfc := (unhide HFT) hc
      have HFC := hide hfc
      have HC := Lib.hid hc; clear hc hfc HFT
      simp only [Option.getD_some, Option.isSome_some]
      go_enter Try.func20, Try.ntmps20
      go_wp2_with (first
        | (go_at_call 22; (with_reducible refine ((unhide HT) _ (own_below (unhide HA) ?p1) (own_below (unhide HB) ?p2)).mono ?_); (case p1 => exact (by repeat (first | with_reducible exact Below.refl _ _ | with_reducible assumption | (with_reducible refine Below.trans ?_ (Below.mono (by assumption) (by first | omega | (simp <;> omega)))) | with_reducible apply Below.drew | with_reducible apply below_drewN | (with_reducible refine Below.alloc ?_ (by first | omega | (simp <;> omega)) _) | (with_reducible refine Below.setCell ?_ (by first | omega | (simp <;> omega)) _)))); (case p2 => exact (by repeat (first | with_reducible exact Below.refl _ _ | with_reducible assumption | (with_reducible refine Below.trans ?_ (Below.mono (by assumption) (by first | omega | (simp <;> omega)))) | with_reducible apply Below.drew | with_reducible apply below_drewN | (with_reducible refine Below.alloc ?_ (by first | omega | (simp <;> omega)) _) | (with_reducible refine Below.setCell ?_ (by first | omega | (simp <;> omega)) _)))); rintro e w0 ⟨rfl, hbw0⟩; have hs0 := hbw0.size)
        | (go_at_call 30; (with_reducible refine ((unhide HV) _ (own_below (unhide HA) ?pb) (own_below (unhide HB) ?pc)).mono ?_); (case pb => exact (by repeat (first | with_reducible exact Below.refl _ _ | with_reducible assumption | (with_reducible refine Below.trans ?_ (Below.mono (by assumption) (by first | omega | (simp <;> omega)))) | with_reducible apply Below.drew | with_reducible apply below_drewN | (with_reducible refine Below.alloc ?_ (by first | omega | (simp <;> omega)) _) | (with_reducible refine Below.setCell ?_ (by first | omega | (simp <;> omega)) _)))); (case pc => exact (by repeat (first | with_reducible exact Below.refl _ _ | with_reducible assumption | (with_reducible refine Below.trans ?_ (Below.mono (by assumption) (by first | omega | (simp <;> omega)))) | with_reducible apply Below.drew | with_reducible apply below_drewN | (with_reducible refine Below.alloc ?_ (by first | omega | (simp <;> omega)) _) | (with_reducible refine Below.setCell ?_ (by first | omega | (simp <;> omega)) _)))); rintro e w1 ⟨⟨h1, _⟩, hbw1⟩; obtain ⟨A1, d1, A2, d2, rfl, ho1, ho2⟩ := h1 HC.out; clear h1; obtain ⟨ga, rfl, hga0, hga1⟩ := own_some ho1 (by omega); obtain ⟨gb, rfl, hgb0, hgb1⟩ := own_some ho2 (by omega); have hs1 := hbw1.size; have HO1 := hide ho1; have HO2 := hide ho2; clear ho1 ho2))
      have hw1 : Below w.heap.size w w1 := (by repeat (first | with_reducible exact Below.refl _ _ | with_reducible assumption | (with_reducible refine Below.trans ?_ (Below.mono (by assumption) (by first | omega | (simp <;> omega)))) | with_reducible apply Below.drew | with_reducible apply below_drewN | (with_reducible refine Below.alloc ?_ (by first | omega | (simp <;> omega)) _) | (with_reducible refine Below.setCell ?_ (by first | omega | (simp <;> omega)) _)))
      have HW1 := hide hw1
      have hsz1 := hw1.size
      have HFA := hide (fcells_own (unhide HO1)); have HFB := hide (fcells_own (unhide HO2))
      clear hw1 hbw0 hbw1 HO1 HO2 HV HT HA HB
      go_loopw [25] (fun i wr => ∃ k : Nat, i = .int .i64 k ∧ k ≤ xs.length ∧ Hid (∀ t, t < k → ¬ vf gs (xs.getD t 0) < vf fs (xs.getD t 0)) ∧ Below w1.heap.size w1 wr) (fun i _ => xs.length - (intOf i).toNat)
      case atStart => exact ⟨0, rfl, Nat.zero_le _, hide (fun t ht => absurd ht (by omega)), Below.refl _ _⟩
      case round =>
        obtain ⟨k, rfl, hk, hup, hbwr⟩ := hrel
        have hsr := hbwr.size
        by_cases hlt : k < xs.length
        · have hAA := (unhide HFA).below hbwr
          have hBB := (unhide HFB).below hbwr
          have a0 := hAA.at0 k hlt
          have a1 := hAA.at1 k hlt
          have hgal := hAA.lt
          have b0 := hBB.at0 k hlt
          have b1 := hBB.at1 k hlt
          have hgbl := hBB.lt
          obtain ⟨hfa, hfb⟩ := (unhide HFC) k hlt
          have hmap : ∀ (f : Rat → Rat), (xs.map f).getD k 0 = f (xs.getD k 0) := fun f => by simp [List.getD_eq_getElem?_getD, hlt]
          rw [qAtR _ k (by rw [List.length_map]; exact hlt), hmap] at a0 a1 b0 b1
          simp only at a0 a1 b0 b1
          have hcm := fun W => raCmp_q (vf fs (xs.getD k 0)) (vf gs (xs.getD k 0)) hfa.fit hfb.fit W
          have HB := hide hbwr
          clear hAA hBB hbwr hmap hfa hfb
          by_cases hz : vf gs (xs.getD k 0) < vf fs (xs.getD k 0)
          · have HN := Lib.hid (show ibB (vpL fs gs xs) = false from ibB_at (k := k) (by rw [vpL_len]; exact hlt) (by rw [vpL_at hlt]; exact hz))
            have hz2 := cq_gt.2 hz
            have hzd : decide (0 < cq (vf fs (xs.getD k 0)) (vf gs (xs.getD k 0))) = true := decide_eq_true hz2
            have HC1 := hide hcm
            clear hz hup hcm hz2
            generalize cq (vf fs (xs.getD k 0)) (vf gs (xs.getD k 0)) = cz at *
            generalize (vf fs (xs.getD k 0)).num = an at *
            generalize ((vf fs (xs.getD k 0)).den : Int) = ad at *
            generalize (vf gs (xs.getD k 0)).num = bn at *
            generalize ((vf gs (xs.getD k 0)).den : Int) = bd at *
            go_upto_region 9 with fail
            go_cut [37] (fun s37 wx => s37 = .bool true ∧ Below wr.heap.size wr wx)
            case first =>
              go_region_held3 (fun w' => w'.cell? ⟨ga, k * 2, none⟩ = some (.int .i64 an) ∧ w'.cell? ⟨ga, k * 2 + 1, none⟩ = some (.int .i64 ad) ∧ w'.cell? ⟨gb, k * 2, none⟩ = some (.int .i64 bn) ∧ w'.cell? ⟨gb, k * 2 + 1, none⟩ = some (.int .i64 bd)) (simp [go_sem, *])
                ((go_at_call 34; (with_reducible refine ((unhide HC1) _).mono ?_); rintro e w5 ⟨rfl, hbw5⟩; obtain ⟨hcw5, hfw5⟩ := bcell hbw5; have hzw5 := hbw5.size; (try simp at hzw5); (try ((have kw5gaX0 := (bnew hbw5) (ga) ?pf); (case pf => (first | omega | (simp; done) | (simp; omega))); obtain ⟨kcw5gaX0, kfw5gaX0, klw5gaX0⟩ := kw5gaX0)); (try ((have kw5gbX0 := (bnew hbw5) (gb) ?pf); (case pf => (first | omega | (simp; done) | (simp; omega))); obtain ⟨kcw5gbX0, kfw5gbX0, klw5gbX0⟩ := kw5gbX0))))
              all_goals
                go_wp2_with fail
                go_meet
                exact ⟨by simp [*], (by repeat (first | with_reducible exact Below.refl _ _ | with_reducible assumption | (with_reducible refine Below.trans ?_ (Below.mono (by assumption) (by first | omega | (simp <;> omega)))) | with_reducible apply Below.drew | with_reducible apply below_drewN | (with_reducible refine Below.alloc ?_ (by first | omega | (simp <;> omega)) _) | (with_reducible refine Below.setCell ?_ (by first | omega | (simp <;> omega)) _)))⟩
            case rest =>
            obtain ⟨rfl, hbwc⟩ := hcut
            have hszc := hbwc.size
            go_wp2_with fail
            have hb0 := unhide HW1; have hb := unhide HB
            go_ret2
            exact ⟨by rw [HN.out] <;> rfl, (by repeat (first | with_reducible exact Below.refl _ _ | with_reducible assumption | (with_reducible refine Below.trans ?_ (Below.mono (by assumption) (by first | omega | (simp <;> omega)))) | with_reducible apply Below.drew | with_reducible apply below_drewN | (with_reducible refine Below.alloc ?_ (by first | omega | (simp <;> omega)) _) | (with_reducible refine Below.setCell ?_ (by first | omega | (simp <;> omega)) _)))⟩
          · have HUP := hide (show ∀ t, t < k + 1 → ¬ vf gs (xs.getD t 0) < vf fs (xs.getD t 0) from fun t ht => by
              by_cases htk : t = k
              · rw [htk]; exact hz
              · exact (unhide hup) t (by omega))
            have hzd : decide (0 < cq (vf fs (xs.getD k 0)) (vf gs (xs.getD k 0))) = false := decide_eq_false (fun e => hz (cq_gt.1 e))
            have HC1 := hide hcm
            clear hz hup hcm
            generalize cq (vf fs (xs.getD k 0)) (vf gs (xs.getD k 0)) = cz at *
            generalize (vf fs (xs.getD k 0)).num = an at *
            generalize ((vf fs (xs.getD k 0)).den : Int) = ad at *
            generalize (vf gs (xs.getD k 0)).num = bn at *
            generalize ((vf gs (xs.getD k 0)).den : Int) = bd at *
            go_upto_region 9 with fail
            go_cut [37] (fun s37 wx => s37 = .bool false ∧ Below wr.heap.size wr wx)
            case first =>
              go_region_held3 (fun w' => w'.cell? ⟨ga, k * 2, none⟩ = some (.int .i64 an) ∧ w'.cell? ⟨ga, k * 2 + 1, none⟩ = some (.int .i64 ad) ∧ w'.cell? ⟨gb, k * 2, none⟩ = some (.int .i64 bn) ∧ w'.cell? ⟨gb, k * 2 + 1, none⟩ = some (.int .i64 bd)) (simp [go_sem, *])
                ((go_at_call 34; (with_reducible refine ((unhide HC1) _).mono ?_); rintro e w5 ⟨rfl, hbw5⟩; obtain ⟨hcw5, hfw5⟩ := bcell hbw5; have hzw5 := hbw5.size; (try simp at hzw5); (try ((have kw5gaX0 := (bnew hbw5) (ga) ?pf); (case pf => (first | omega | (simp; done) | (simp; omega))); obtain ⟨kcw5gaX0, kfw5gaX0, klw5gaX0⟩ := kw5gaX0)); (try ((have kw5gbX0 := (bnew hbw5) (gb) ?pf); (case pf => (first | omega | (simp; done) | (simp; omega))); obtain ⟨kcw5gbX0, kfw5gbX0, klw5gbX0⟩ := kw5gbX0))))
              all_goals
                go_wp2_with fail
                go_meet
                exact ⟨by simp [*], (by repeat (first | with_reducible exact Below.refl _ _ | with_reducible assumption | (with_reducible refine Below.trans ?_ (Below.mono (by assumption) (by first | omega | (simp <;> omega)))) | with_reducible apply Below.drew | with_reducible apply below_drewN | (with_reducible refine Below.alloc ?_ (by first | omega | (simp <;> omega)) _) | (with_reducible refine Below.setCell ?_ (by first | omega | (simp <;> omega)) _)))⟩
            case rest =>
            obtain ⟨rfl, hbwc⟩ := hcut
            have hszc := hbwc.size
            have hb := unhide HB
            have hbz : Below w1.heap.size w1 wc := hb.trans (hbwc.mono hsr)
            have HBZ := hide hbz
            clear hbz hb hbwc a0 a1 b0 b1
            go_wp2_with fail
            go_roundw
            case rel => exact ⟨k + 1, by go_num, by omega, HUP, unhide HBZ⟩
            case measure => simp [intOf]; omega
        · have hke : k = xs.length := by omega
          have hal : ibB (vpL fs gs xs) = true := ibB_all fun t ht => by
            rw [vpL_len] at ht
            rw [vpL_at ht]
            exact (unhide hup) t (by omega)
          have HN := Lib.hid hal
          have HB := hide hbwr
          clear hke hal hbwr hup
          go_wp2
          have hb0 := unhide HW1; have hb := unhide HB
          go_ret2
          exact ⟨by rw [HN.out] <;> rfl, (by repeat (first | with_reducible exact Below.refl _ _ | with_reducible assumption | (with_reducible refine Below.trans ?_ (Below.mono (by assumption) (by first | omega | (simp <;> omega)))) | with_reducible apply Below.drew | with_reducible apply below_drewN | (with_reducible refine Below.alloc ?_ (by first | omega | (simp <;> omega)) _) | (with_reducible refine Below.setCell ?_ (by first | omega | (simp <;> omega)) _)))⟩
end Go.Proofs.Ytgkbogcmmedmbaa

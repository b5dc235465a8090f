/-
  Chapter 5: lists of places: put in order, of two maps, with those before values.
-/
import Derived.Test.YtjggjegjhcpjhaaGreatCc
import Derived.Test.YtjggjegjhcpjhaaGreatCt
import Derived.Test.YtjggjegjhcpjhaaGreatPa
import Derived.Maps.AppendAt
namespace Go.Proofs.YtjggjegjhcpjhaaGreat
open Go.RowKit Rm

section
variable {P : Program} {w : World}
theorem wpl_append2 {ops : Array Oper} {rest : List Oper} {o : Oper} {a : Act} {Q : Exit → Act → World → Prop} (hgd : o.guard = none) (s x : Operand) (t : TypeId)
    (ho : o.op = .call { callee := .builtin .append, args := #[s, x], argTypes := #[t, t] })
    (base : Nat) (e : TypeId) (i : TypeInfo) (z : Value) (size bytes : Nat) (ht : P.underlying t = some (.slice e)) (hi : P.info? e = some i) (hz : i.zero = some z)
    (hsize : i.size = size) (hby : i.bytes = bytes) (hzs : z.cells.size = size) (hsz : 0 < size)
    (v : Value) (n : Nat) (xs : List Value) (hs : a.eval s = v) (hown : w.ownsRow base e size v n xs)
    (xv : Value) (m : Nat) (news : List Value) (hx : a.eval x = xv) (hlie : Lies w xv m news) (hl : news.length = m * size) (h1 : ∀ u ∈ news, u.oneCell' = true)
    (h63 : n + m ≤ maxLen) (hbytes : (n + m) * bytes ≤ 140737488355328) (hbase : base ≤ w.heap.size) (N : Nat) (hN : n + m = N)
    (h : ∀ (A : Option Addr) (c : Nat) (w' : World), w'.ownsRow base e size (.slice A N c) N (xs ++ news) → w.grownBy w' v.ownBlock → ((Value.slice A N c).ownBlock = v.ownBlock ∨ (Value.slice A N c).ownBlock = some w.heap.size) → wpList P ops Q rest (a.put o.dst (.slice A N c)) w') : wpList P ops Q (o :: rest) a w := by
  subst hN
  refine wpList_plain hgd fun _ hK => ?_
  have hrun : ∃ v' w', (Builtin.append_ #[t, t] o.type #[v, xv]).run P w = .ok v' w' ∧ w'.ownsRow base e size v' (n + m) (xs ++ news) ∧ w.grownBy w' v.ownBlock ∧ (v'.ownBlock = v.ownBlock ∨ v'.ownBlock = some w.heap.size) := by
    rcases hlie with ⟨rfl, rfl, rfl⟩ | ⟨ad, c, rfl, hnews⟩
    · exact ⟨v, w, run_append_owned_none w base t o.type e i size ht hi v n xs hown, by simpa using hown, World.grownBy.refl _ _, .inl rfl⟩
    · obtain ⟨v', w', hr, h2, h3, _, h5⟩ := run_append_own_at (P := P) w base t o.type e i z size bytes ht hi hz hsize hby hzs hsz v n xs hown ad m c news hl hnews h1 h63 hbytes hbase
      exact ⟨v', w', hr, h2, h3, h5⟩
  obtain ⟨v', w', hr, h2, h3, h5⟩ := hrun
  obtain ⟨A, c, rfl⟩ := own_slice h2
  unfold Oper.wp execOp
  simp only [ho, resolve, invoke, builtin, Sem.run_bind, Sem.run_pure, Result.andThen_ok, List.map_toArray, List.map_cons, List.map_nil, hs, hx, hr]
  exact hK _ _ (h A c w' h2 h3 h5)
end
theorem FCells.kept {w w' : World} {g j : Nat} {l : List Fr} {row : Option Nat} (h : FCells w g j l) (hg : w.grownBy w' row) (hne : some g ≠ row) : FCells w' g j l :=
  ⟨Nat.lt_of_lt_of_le h.lt hg.size, fun i hi => (World.cell?_of_block (a := ⟨g, i * 2, none⟩) (hg.block g h.lt hne)).trans (h.at0 i hi), fun i hi => (World.cell?_of_block (a := ⟨g, i * 2 + 1, none⟩) (hg.block g h.lt hne)).trans (h.at1 i hi)⟩
theorem grown_trans {a b c : World} {r s : Option Nat} (h : a.grownBy b r) (k : b.grownBy c s) (hs : ∀ i, s = some i → r = some i ∨ a.heap.size ≤ i) : a.grownBy c r :=
  ⟨k.os.trans h.os, k.tape.trans h.tape, k.output.trans h.output, Nat.le_trans h.size k.size, fun i hi hne => (k.block i (Nat.lt_of_lt_of_le hi h.size) (fun e => by
    rcases hs i e.symm with h1 | h1
    · exact hne h1.symm
    · omega)).trans (h.block i hi hne)⟩
theorem below_grown {a b : World} (h : Below a.heap.size a b) (r : Option Nat) : a.grownBy b r := ⟨h.os, h.tape, h.output, h.size, fun i hi _ => h.block i hi⟩
theorem grown_below {a b : World} {r : Option Nat} {B : Nat} (h : a.grownBy b r) (hB : B ≤ a.heap.size) (hr : ∀ k, r = some k → B ≤ k) : Below B a b := (Below.refl B a).grown h hB hr

set_option maxRecDepth 100000 in
theorem increasing_any (g n c base : Nat) (l : List Rat) (w : World) (ha : w.ownsRow base 37 2 (.slice (some ⟨g, 0, none⟩) n c) n (frcs (l.map qf))) (hf : ∀ z ∈ l, fits z = true) (hn1 : 1 ≤ n) (hn : n ≤ 1000) :
    Calls Tryz.prog 122 #[.slice (some ⟨g, 0, none⟩) n c] w fun e w' => ∃ d : Nat, e = .returned (.slice (some ⟨g, 0, none⟩) (srt l).length d) ∧ FCells w' g (srt l).length ((srt l).map qf) ∧ w.grownBy w' (some g) := by
  have hs := sortRat_any g n c base l w ha hf (by omega)
  have HS := hide hs
  have hlen := own_lenR ha
  have HL := Lib.hid hlen
  clear hs ha hf hlen
  go_enter Tryz.func122, Tryz.ntmps122
  go_wp2_with fail
  refine (unhide HS).mono ?_
  rintro e w1 ⟨rfl, ⟨l', hp, hs, ho⟩, hg1⟩
  have hl' : l'.length = n := by rw [hp.length_eq]; exact HL.out
  have he := cp_srt hs hp
  rw [hl'] at he
  have hc := compact_any g n c base l' w1 ho hn1 hn
  rw [he] at hc
  have HC := hide hc
  have HG := hide hg1
  clear hc hg1 hs hp ho he hl'
  go_wp2_with fail
  refine (unhide HC).mono ?_
  rintro e w2 ⟨d, rfl, hF, hg2⟩
  have HF := hide hF
  have HG2 := hide (grown_trans (unhide HG) hg2 (fun i h => .inl h))
  clear hF hg2
  go_wp2_with fail
  go_ret
  exact ⟨d, rfl, unhide HF, unhide HG2⟩

set_option maxRecDepth 100000 in
set_option maxHeartbeats 800000 in
theorem placesOfBoth_map (g n c base g' n' c' base' : Nat) (fs gs : List QP) (w : World) (ha : w.ownsRow base 63 4 (.slice (some ⟨g, 0, none⟩) n c) n (ptcs (fs.map qp))) (hb : w.ownsRow base' 63 4 (.slice (some ⟨g', 0, none⟩) n' c') n' (ptcs (gs.map qp))) (hn : n ≤ 100) (hn' : n' ≤ 100) :
    Calls Tryz.prog 204 #[.slice (some ⟨g, 0, none⟩) n c, .slice (some ⟨g', 0, none⟩) n' c'] w fun e w' => ∃ (A : Option Addr) (d : Nat), e = .returned (.slice A (n + n') d) ∧ w'.ownsRow w.heap.size 37 2 (.slice A (n + n') d) (n + n') (frcs ((xsOf fs ++ xsOf gs).map qf)) ∧ Below w.heap.size w w' := by
  obtain ⟨i0, hi0, hz0, hz1, hz2⟩ := info_parts iRat
  have HA := hide ha; have HB := hide hb; clear ha hb
  go_enter Tryz.func204, Tryz.ntmps204
  go_wp2_with fail
  refine (placesOf_map g n c base fs w (unhide HA) (by omega)).mono ?_
  rintro e w1 ⟨A1, d1, rfl, ho1, hb1⟩
  have hs1 := hb1.size
  have HO1 := hide ho1
  have HB1 := hide hb1
  clear ho1 hb1
  go_wp2_with fail
  refine (placesOf_map g' n' c' base' gs w1 (own_below (unhide HB) (unhide HB1)) (by omega)).mono ?_
  rintro e w2 ⟨A2, d2, rfl, ho2, hb2⟩
  have hs2 := hb2.size
  have HO2 := hide ho2
  have HO1' := hide (own_below (unhide HO1) hb2)
  have HB2 := hide ((unhide HB1).trans (hb2.mono hs1))
  have hl2 := ho2.1
  clear ho2 hb2
  go_wp2_with (at_builtin; refine wpl_append2 rfl _ _ _ rfl w.heap.size 37 i0 _ 2 16 Tryz.underlying83 hi0 hz0 hz1 hz2 rfl (by omega) (.slice A1 n d1) n _ rfl (unhide HO1') _ n' _ rfl (lies_own (unhide HO2)) hl2 (frcs_one rfl) (Nat.le_trans (by omega) maxLen_ge) (by omega) (by omega) (n + n') rfl ?_; intro A4 c4 w4 hown4 hgrow4 hat4)
  have hw4 := (unhide HB2).grown hgrow4 (by omega) (fun k e => ((unhide HO1').lt k e).1)
  rw [frcs_app] at hown4
  have HO4 := hide hown4; have HW4 := hide hw4
  clear hown4 hgrow4 hat4 hw4
  go_wp2_with fail
  go_ret
  exact ⟨A4, c4, rfl, unhide HO4, unhide HW4⟩

/-- The places before a value. -/
def bqO (qs : List QP) (y : Rat) : Option (List Rat) := pwK (fun p => cq p.2 y) (fun p q => backR p q y) qs qs.length
theorem bqO_len {qs : List QP} (hg : GMap qs) (y : Rat) (b : List Rat) (h : bqO qs y = some b) : b.length ≤ 12 := by
  have := pwK_len _ _ h
  have := hg.hi
  omega
theorem pwK_un {qs : List QP} (hg : GMap qs) {y : Rat} : ∀ (k : Nat) (l : List Rat), k ≤ qs.length → pwK (fun p => cq p.2 y) (fun p q => backR p q y) qs k = some l → ∀ z ∈ l, Un z
  | 0, l, _, h => by simp only [pwK, Option.some.injEq] at h; subst h; simp
  | k + 1, l, hk, h => by
    cases hp : pwK (fun p => cq p.2 y) (fun p q => backR p q y) qs k with
    | none => simp only [pwK, hp] at h; cases h
    | some m =>
      have ih := pwK_un hg k m (by omega) hp
      by_cases h0 : cq (qAt qs k).2 y = 0
      · rw [pwK_zero hp h0] at h
        injection h with h; subst h
        intro z hz
        rcases List.mem_append.1 hz with h1 | h1
        · exact ih z h1
        · rw [List.mem_singleton.1 h1]; exact (hg.un (by omega)).1
      · by_cases h1 : k + 1 < qs.length ∧ cq (qAt qs k).2 y * cq (qAt qs (k + 1)).2 y < 0
        · rw [pwK_in hp h0 h1.1 h1.2] at h
          cases hb : backR (qAt qs k) (qAt qs (k + 1)) y with
          | none => rw [hb] at h; cases h
          | some x =>
            rw [hb] at h
            simp only [Option.map_some, Option.some.injEq] at h; subst h
            intro z hz
            rcases List.mem_append.1 hz with h2 | h2
            · exact ih z h2
            · rw [List.mem_singleton.1 h2]
              have hv := back_val hb
              have hin := backQ_in (hg.inc k h1.1) h1.2
              rw [← hv] at hin
              have ha := (hg.un (show k < qs.length by omega)).1
              have hc := (hg.un h1.1).1
              refine ⟨?_, by have := ha.lo; grind, by have := hc.hi; grind⟩
              have := isR_oadd (some (qAt qs k).1) (odiv (osub (some y) (some (qAt qs k).2)) (some (slopeR (qAt qs k) (qAt qs (k + 1)))))
              exact this x hb
        · rw [pwK_skip hp h0 (fun h2 h3 => h1 ⟨h2, h3⟩)] at h
          injection h with h; subst h; exact ih
theorem bqO_un {qs : List QP} (hg : GMap qs) (y : Rat) (b : List Rat) (h : bqO qs y = some b) : ∀ z ∈ b, Un z := pwK_un hg _ _ (Nat.le_refl _) h
theorem uB_of {x : Rat} (h : Un x) : uB x.num x.den = true := by
  have h0 := Rat.num_nonneg.2 h.lo
  have h1 := h.hi
  rw [Rat.le_iff] at h1
  simp at h1
  unfold uB
  rw [good_rat, h.fit]
  simp only [Bool.true_and, Bool.and_eq_true, decide_eq_true_eq]
  omega
/-- PointsBefore at a fraction from 0 to 1. -/
theorem before_un (g m c base : Nat) (qs : List QP) (y : Rat) (w : World) (ha : w.ownsRow base 63 4 (.slice (some ⟨g, 0, none⟩) (m + 1) c) (m + 1) (ptcs (qs.map qp))) (hg : GMap qs) (hy : Un y) :
    Calls Tryz.prog 194 #[.slice (some ⟨g, 0, none⟩) (m + 1) c, .agg #[.int .i64 (y.num), .int .i64 (y.den)]] w fun e w' =>
      (∀ b, bqO qs y = some b → ∃ (A : Option Addr) (d : Nat), e = .returned (.tuple #[.slice A b.length d, .bool true]) ∧ w'.ownsRow w.heap.size 37 2 (.slice A b.length d) b.length (frcs (b.map qf))) ∧
      (bqO qs y = none → ∃ (A : Option Addr) (d : Nat), e = .returned (.tuple #[.slice A 0 d, .bool false])) ∧ Below w.heap.size w w' := by
  have hlen : qs.length = m + 1 := by have := own_len ha; rw [List.length_map] at this; exact this
  have hhi := hg.hi
  refine (iPointsBefore_any (some ⟨g, 0, none⟩) (m + 1) c base (qs.map qp) y.num y.den w ha (by omega)).mono ?_
  rintro e w' ⟨⟨A, d, rfl, ho⟩, hb⟩
  have hO := pbO_yes hg (uB_of hy)
  change _ = bqO qs y at hO
  refine ⟨fun b hbq => ?_, fun hbq => ?_, hb⟩
  · have e1 : pbL (qs.map qp) y.num y.den = b.map qf := by unfold pbL; rw [hO, hbq]; rfl
    have e2 : pbZ (qs.map qp) y.num y.den = true := by unfold pbZ; rw [hO, hbq]; rfl
    rw [e1, List.length_map] at ho
    rw [e1, e2, List.length_map]
    exact ⟨A, d, rfl, ho⟩
  · have e1 : pbL (qs.map qp) y.num y.den = [] := by unfold pbL; rw [hO, hbq]; rfl
    have e2 : pbZ (qs.map qp) y.num y.den = false := by unfold pbZ; rw [hO, hbq]; rfl
    rw [e1, e2]
    exact ⟨A, d, rfl⟩

set_option maxRecDepth 100000 in
set_option maxHeartbeats 1600000 in
/-- A list and the fractions that a map leads to given values. -/
theorem withPlaces_any (gf m cf basef : Nat) (qs : List QP) (hg : GMap qs) (A : Option Addr) (n c B : Nat) (l0 : List Rat) (gv nv cv : Nat) (ys : List Rat) (w : World)
    (hf : w.ownsRow basef 63 4 (.slice (some ⟨gf, 0, none⟩) (m + 1) cf) (m + 1) (ptcs (qs.map qp))) (hl : w.ownsRow B 37 2 (.slice A n c) n (frcs (l0.map qf))) (hB : B ≤ w.heap.size)
    (hv : FCells w gv nv (ys.map qf)) (hnv : nv = ys.length) (hnv2 : nv ≤ 50) (hn : n ≤ 100) (hne : ∀ k, (Value.slice A n c).ownBlock = some k → k ≠ gv ∧ k ≠ gf) (hu : ∀ y ∈ ys, Un y) :
    Calls Tryz.prog 192 #[.slice A n c, .slice (some ⟨gf, 0, none⟩) (m + 1) cf, .slice (some ⟨gv, 0, none⟩) nv cv] w fun e w' =>
      (∀ b, bK (bqO qs) ys nv = some b → ∃ (A' : Option Addr) (d : Nat), e = .returned (.tuple #[.slice A' (n + b.length) d, .bool true]) ∧ w'.ownsRow B 37 2 (.slice A' (n + b.length) d) (n + b.length) (frcs ((l0 ++ b).map qf))) ∧
      (bK (bqO qs) ys nv = none → e = .returned (.tuple #[.slice none 0 0, .bool false])) ∧ w.grownBy w' (Value.slice A n c).ownBlock := by
  obtain ⟨i0, hi0, hz0, hz1, hz2⟩ := info_parts iRat
  have HF := hide hf; have HL := hide hl; have HV := hide hv; have HNE := hide hne; have HU := hide hu
  have hgvl := hv.lt
  have hgfl := (hf.lt gf rfl).2
  have HNV := Lib.hid hnv
  clear hf hl hv hne hu hnv
  go_enter Tryz.func192, Tryz.ntmps192
  go_wp2
  go_loopw [0, 14] (fun v i wr => ∃ (k n' : Nat) (A' : Option Addr) (c' : Nat) (b : List Rat), i = .int .i64 k ∧ v = .slice A' n' c' ∧ k ≤ nv ∧ Hid (bK (bqO qs) ys k = some b) ∧ Hid (n' = n + b.length) ∧ n' ≤ n + k * 12 ∧ wr.ownsRow B 37 2 (.slice A' n' c') n' (frcs ((l0 ++ b).map qf)) ∧ Hid (∀ j, (Value.slice A' n' c').ownBlock = some j → (Value.slice A n c).ownBlock = some j ∨ w.heap.size ≤ j) ∧ w.grownBy wr (Value.slice A n c).ownBlock) (fun _ i _ => nv - (intOf i).toNat)
  case atStart => exact ⟨0, n, A, c, [], rfl, rfl, by omega, hide rfl, hide rfl, by omega, by rw [List.append_nil]; exact unhide HL, hide (fun j h => .inl h), World.grownBy.refl _ _⟩
  case round =>
    obtain ⟨k, n', A', c', b, rfl, rfl, hk, HBK, HN', hn12, hown, HOB, hgr⟩ := hrel
    have hsr := hgr.size
    by_cases hlt : k < nv
    · have hyk : ys.getD k 0 ∈ ys := mem_iff_getD.2 ⟨k, by rw [← HNV.out]; exact hlt, rfl⟩
      have hun := (unhide HU) _ hyk
      have hV := (unhide HV).kept hgr (fun e => ((unhide HNE) gv e.symm).1 rfl)
      have f0 := hV.at0 k hlt
      have f1 := hV.at1 k hlt
      rw [qAtR ys k (by rw [← HNV.out]; exact hlt)] at f0 f1
      simp only at f0 f1
      have hF := own_kept (unhide HF) hgr (fun j h e => by
        have h1 : j = gf := (Option.some.inj h).symm
        exact ((unhide HNE) gf (by rw [← e, h1])).2 rfl)
      have hpb := fun W hW => before_un gf m cf basef qs (ys.getD k 0) W hW hg hun
      have hstep : bK (bqO qs) ys (k + 1) = (bqO qs (ys.getD k 0)).map (b ++ ·) := by simp only [bK]; rw [(unhide HBK)]; rfl
      have hbl := bqO_len hg (ys.getD k 0)
      have HPB := hide hpb; have HFR := hide hF; have HST := hide hstep; have HBL := hide hbl; have HO := hide hown; have HG := hide hgr
      clear hpb hF hstep hbl hV hun hyk hown hgr
      cases hbq : bqO qs (ys.getD k 0) with
      | none =>
        have HN := Lib.hid hbq
        clear hbq
        have hno : bK (bqO qs) ys nv = none := bK_none (k := k + 1) (by rw [(unhide HST), HN.out]; rfl) (nv - (k + 1)) (by omega)
        have HNO := Lib.hid hno
        clear hno
        generalize (ys.getD k 0).num = yn at *
        generalize ((ys.getD k 0).den : Int) = yd at *
        go_wp2_with (go_at_call 194; (with_reducible refine ((unhide HPB) _ (own_below (unhide HFR) ?pb)).mono ?_); (case pb => exact (by repeat (first | with_reducible exact Below.refl _ _ | with_reducible assumption | (with_reducible refine Below.trans ?_ (Below.mono (by assumption) (by first | omega | (simp <;> omega)))) | with_reducible apply Below.drew | with_reducible apply below_drewN | (with_reducible refine Below.alloc ?_ (by first | omega | (simp <;> omega)) _) | (with_reducible refine Below.setCell ?_ (by first | omega | (simp <;> omega)) _)))); rintro e w3 ⟨_, h2, hb3⟩; obtain ⟨A3, d3, rfl⟩ := h2 HN.out; clear h2)
        have hgz := grown_trans (unhide HG) (below_grown (show Below wr.heap.size wr w3 from (by repeat (first | with_reducible exact Below.refl _ _ | with_reducible assumption | (with_reducible refine Below.trans ?_ (Below.mono (by assumption) (by first | omega | (simp <;> omega)))) | with_reducible apply Below.drew | with_reducible apply below_drewN | (with_reducible refine Below.alloc ?_ (by first | omega | (simp <;> omega)) _) | (with_reducible refine Below.setCell ?_ (by first | omega | (simp <;> omega)) _)))) none) (fun i h => by cases h)
        have HGZ := hide hgz
        clear hgz hb3
        go_ret2
        exact ⟨fun b h => (by rw [HNO.out] at h; cases h), fun _ => rfl, unhide HGZ⟩
      | some b1 =>
        have HN := Lib.hid hbq
        have hb12 := (unhide HBL) b1 hbq
        clear hbq
        generalize (ys.getD k 0).num = yn at *
        generalize ((ys.getD k 0).den : Int) = yd at *
        go_wp2_with (first
          | (go_at_call 194; (with_reducible refine ((unhide HPB) _ (own_below (unhide HFR) ?pb)).mono ?_); (case pb => exact (by repeat (first | with_reducible exact Below.refl _ _ | with_reducible assumption | (with_reducible refine Below.trans ?_ (Below.mono (by assumption) (by first | omega | (simp <;> omega)))) | with_reducible apply Below.drew | with_reducible apply below_drewN | (with_reducible refine Below.alloc ?_ (by first | omega | (simp <;> omega)) _) | (with_reducible refine Below.setCell ?_ (by first | omega | (simp <;> omega)) _)))); rintro e w3 ⟨h2, _, hb3⟩; obtain ⟨A3, d3, rfl, ho3⟩ := h2 b1 HN.out; clear h2; have hs3 := hb3.size; (try simp at hs3); have HO3 := hide ho3; have hl3 := ho3.1; clear ho3)
          | (at_builtin; refine wpl_append2 rfl _ _ _ rfl B 37 i0 _ 2 16 Tryz.underlying83 hi0 hz0 hz1 hz2 rfl (by omega) (.slice A' n' c') n' _ rfl (own_below (unhide HO) (show Below wr.heap.size wr _ from (by repeat (first | with_reducible exact Below.refl _ _ | with_reducible assumption | (with_reducible refine Below.trans ?_ (Below.mono (by assumption) (by first | omega | (simp <;> omega)))) | with_reducible apply Below.drew | with_reducible apply below_drewN | (with_reducible refine Below.alloc ?_ (by first | omega | (simp <;> omega)) _) | (with_reducible refine Below.setCell ?_ (by first | omega | (simp <;> omega)) _))))) _ b1.length _ rfl (lies_own (unhide HO3)) hl3 (frcs_one rfl) (Nat.le_trans (by omega) maxLen_ge) (by omega) (by omega) (n' + b1.length) rfl ?_; intro A4 c4 w4 hown4 hgrow4 hat4))
        have hw3 : Below wr.heap.size wr w3 := (by repeat (first | with_reducible exact Below.refl _ _ | with_reducible assumption | (with_reducible refine Below.trans ?_ (Below.mono (by assumption) (by first | omega | (simp <;> omega)))) | with_reducible apply Below.drew | with_reducible apply below_drewN | (with_reducible refine Below.alloc ?_ (by first | omega | (simp <;> omega)) _) | (with_reducible refine Below.setCell ?_ (by first | omega | (simp <;> omega)) _)))
        have hs3' := hw3.size
        rw [frcs_app, List.append_assoc] at hown4
        have hob := unhide HOB
        have hg4 := grown_trans (grown_trans (unhide HG) (below_grown hw3 none) (fun i h => by cases h)) hgrow4 hob
        have hob4 : ∀ j, (Value.slice A4 (n' + b1.length) c4).ownBlock = some j → (Value.slice A n c).ownBlock = some j ∨ w.heap.size ≤ j := fun j hj => by
          rcases hat4 with h | h
          · exact hob j (h.symm.trans hj)
          · right
            have := Option.some.inj (h.symm.trans hj)
            omega
        have HO4 := hide hown4; have HG4 := hide hg4; have HB4 := hide hob4
        have HN4 := hide (show n' + b1.length = n + (b ++ b1).length by rw [List.length_append]; have := HN'.out; omega)
        have HK4 := hide (show bK (bqO qs) ys (k + 1) = some (b ++ b1) by rw [(unhide HST), HN.out]; rfl)
        clear hown4 hgrow4 hat4 hob hg4 hob4 hw3 hb3
        go_wp2_with fail
        go_roundw
        case rel => exact ⟨k + 1, n' + b1.length, A4, c4, b ++ b1, by go_num, rfl, by omega, HK4, HN4, by omega, unhide HO4, HB4, unhide HG4⟩
        case measure => simp [intOf]; omega
    · obtain rfl : k = nv := by omega
      have HO := hide hown; have HG := hide hgr
      clear hown hgr
      go_wp2
      go_ret2
      refine ⟨fun b2 h => ?_, fun h => ?_, unhide HG⟩
      · rw [(unhide HBK)] at h
        injection h with h
        subst h
        have hn' := HN'.out
        subst hn'
        exact ⟨A', c', rfl, unhide HO⟩
      · rw [(unhide HBK)] at h; cases h
end Go.Proofs.YtjggjegjhcpjhaaGreat

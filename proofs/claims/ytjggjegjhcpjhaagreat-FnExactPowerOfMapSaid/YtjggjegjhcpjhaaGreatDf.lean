/-
  Chapter 5: the points that an operation makes.
-/
import Derived.Test.YtjggjegjhcpjhaaGreatCs
import Derived.Test.YtjggjegjhcpjhaaGreatDd
namespace Go.Proofs.YtjggjegjhcpjhaaGreat
open Go.RowKit Rm

theorem pK_len {xs : List Rat} {vm : Rat → Option Rat} {k : Nat} {l : List QP} (h : pK xs vm k = some l) : l.length = k := by
  rw [pK_vK] at h
  cases hv : vK xs vm k with
  | none => rw [hv] at h; cases h
  | some m =>
    rw [hv] at h
    simp only [Option.bind_some] at h
    split at h
    · injection h with h; subst h; exact (vK_some hv).1
    · cases h
theorem ptq_sn (l : List QP) (a b : Rat) : ptcs (l.map qp) ++ [.int .i64 a.num, .int .i64 a.den, .int .i64 b.num, .int .i64 b.den] = ptcs ((l ++ [(a, b)]).map qp) := by
  rw [List.map_append, ← ptcs_snoc]; rfl
/-- Points made at places, if there are all. -/
def PtO (B : Nat) (qo : Option (List QP)) (e : Ending) (w' : World) : Prop :=
  (∀ l, qo = some l → ∃ (A : Option Addr) (d : Nat), e = .returned (.tuple #[.slice A l.length d, .bool true]) ∧ w'.ownsRow B 63 4 (.slice A l.length d) l.length (ptcs (l.map qp))) ∧
  (qo = none → e = .returned (.tuple #[.slice none 0 0, .bool false]))
def pmO (po : Option (List Rat)) (vm : Rat → Option Rat) : Option (List QP) := po.bind fun l => pK (srt l) vm (srt l).length
theorem lies4 {W : World} {Y c : Nat} {a b x y : Value} (h0 : W.cell? ⟨Y, 0, none⟩ = some a) (h1 : W.cell? ⟨Y, 1, none⟩ = some b) (h2 : W.cell? ⟨Y, 2, none⟩ = some x) (h3 : W.cell? ⟨Y, 3, none⟩ = some y) : Lies W (.slice (some ⟨Y, 0, none⟩) 1 c) 1 [a, b, x, y] := by
  refine .inr ⟨_, _, rfl, fun j u hu => ?_⟩
  rw [add_at]
  match j, hu with
  | 0, hu => simp only [List.getElem?_cons_zero, Option.some.injEq] at hu; subst hu; exact h0
  | 1, hu => simp only [List.getElem?_cons_succ, List.getElem?_cons_zero, Option.some.injEq] at hu; subst hu; exact h1
  | 2, hu => simp only [List.getElem?_cons_succ, List.getElem?_cons_zero, Option.some.injEq] at hu; subst hu; exact h2
  | 3, hu => simp only [List.getElem?_cons_succ, List.getElem?_cons_zero, Option.some.injEq] at hu; subst hu; exact h3
  | j + 4, hu => simp at hu

set_option maxRecDepth 100000 in
set_option maxHeartbeats 3200000 in
theorem points_composition (v : Value) (po : Option (List Rat)) (vm : Rat → Option Rat) (w : World) (hp : ∀ l, po = some l → (∀ x ∈ l, Un x) ∧ 1 ≤ l.length ∧ l.length ≤ 1000)
    (HP : Hid (∀ W : World, Below w.heap.size w W → Calls Tryz.prog 191 #[v] W fun e w' => PlO W.heap.size po e w' ∧ Below W.heap.size W w'))
    (HV : Hid (∀ x, Un x → ∀ W : World, Below w.heap.size w W → Calls Tryz.prog 123 #[.iface 70 v, .agg #[.int .i64 (x.num), .int .i64 (x.den)]] W fun e w' => e = .returned (.tuple #[.agg #[.int .i64 (oN (vm x)), .int .i64 (oD (vm x))], .bool (vm x).isSome]) ∧ Below W.heap.size W w')) :
    Calls Tryz.prog 90 #[.iface 70 v] w fun e w' => PtO w.heap.size (pmO po vm) e w' ∧ Below w.heap.size w w' := by
  obtain ⟨i0, hi0, hz0, hz1, hz2⟩ := info_parts iPoint
  have hat := at_composition
  cases po with
  | none =>
    clear hp HV
    go_enter Tryz.func90, Tryz.ntmps90
    go_wp2_with (go_at_call 191; (with_reducible refine ((unhide HP) _ ?pb).mono ?_); (case pb => exact (by repeat (first | with_reducible exact Below.refl _ _ | with_reducible assumption | (with_reducible refine Below.trans ?_ (Below.mono (by assumption) (by first | omega | (simp <;> omega)))) | with_reducible apply Below.drew | with_reducible apply below_drewN | (with_reducible refine Below.alloc ?_ (by first | omega | (simp <;> omega)) _) | (with_reducible refine Below.setCell ?_ (by first | omega | (simp <;> omega)) _)))); rintro e w1 ⟨⟨_, h2⟩, hb1⟩; obtain rfl := h2 rfl; clear h2)
    have hz : Below w.heap.size w w1 := (by repeat (first | with_reducible exact Below.refl _ _ | with_reducible assumption | (with_reducible refine Below.trans ?_ (Below.mono (by assumption) (by first | omega | (simp <;> omega)))) | with_reducible apply Below.drew | with_reducible apply below_drewN | (with_reducible refine Below.alloc ?_ (by first | omega | (simp <;> omega)) _) | (with_reducible refine Below.setCell ?_ (by first | omega | (simp <;> omega)) _)))
    go_ret2
    exact ⟨⟨fun l h => (by cases h), fun _ => rfl⟩, hz⟩
  | some l =>
    obtain ⟨hun, hl1, hl2⟩ := hp l rfl
    have hsl := srt_len l
    have hsu : ∀ x ∈ srt l, Un x := fun x hx => hun x (srt_mem.1 hx)
    change Calls _ _ _ _ fun e w' => PtO w.heap.size (pK (srt l) vm (srt l).length) e w' ∧ _
    obtain ⟨xs, hxs⟩ : ∃ xs, xs = srt l := ⟨_, rfl⟩
    have hinc : ∀ (g d base : Nat) (W : World) (ho : W.ownsRow base 37 2 (.slice (some ⟨g, 0, none⟩) l.length d) l.length (frcs (l.map qf))), Calls Tryz.prog 122 #[.slice (some ⟨g, 0, none⟩) l.length d] W fun e w' => ∃ d : Nat, e = .returned (.slice (some ⟨g, 0, none⟩) xs.length d) ∧ FCells w' g xs.length (xs.map qf) ∧ W.grownBy w' (some g) := by
      intro g d base W ho
      rw [hxs]
      exact increasing_any g l.length d base l W ho (fun z hz => (hun z hz).fit) hl1 hl2
    rw [← hxs] at hsl hsu
    rw [← hxs]
    have HINC := hide hinc
    have HU := hide hsu
    clear hp hsu hun hinc hxs
    go_enter Tryz.func90, Tryz.ntmps90
    go_wp2_with (first
      | (go_at_call 191; (with_reducible refine ((unhide HP) _ ?pb).mono ?_); (case pb => exact (by repeat (first | with_reducible exact Below.refl _ _ | with_reducible assumption | (with_reducible refine Below.trans ?_ (Below.mono (by assumption) (by first | omega | (simp <;> omega)))) | with_reducible apply Below.drew | with_reducible apply below_drewN | (with_reducible refine Below.alloc ?_ (by first | omega | (simp <;> omega)) _) | (with_reducible refine Below.setCell ?_ (by first | omega | (simp <;> omega)) _)))); rintro e w1 ⟨⟨h1, _⟩, hbw1⟩; obtain ⟨A1, d1, rfl, ho1⟩ := h1 l rfl; clear h1; obtain ⟨g, rfl, hgB, hgl⟩ := own_some ho1 (by omega); have hsw1 := hbw1.size; have HO1 := hide ho1; clear ho1)
      | (go_at_call 122; (with_reducible refine ((unhide HINC) g d1 _ _ (own_below (unhide HO1) ?pb)).mono ?_); (case pb => exact (by repeat (first | with_reducible exact Below.refl _ _ | with_reducible assumption | (with_reducible refine Below.trans ?_ (Below.mono (by assumption) (by first | omega | (simp <;> omega)))) | with_reducible apply Below.drew | with_reducible apply below_drewN | (with_reducible refine Below.alloc ?_ (by first | omega | (simp <;> omega)) _) | (with_reducible refine Below.setCell ?_ (by first | omega | (simp <;> omega)) _)))); rintro e w2 ⟨d2, rfl, hF2, hg2⟩; have hsw2 := hg2.size))
    have hw2 : Below w.heap.size w w2 := (show Below w.heap.size w w1 from (by repeat (first | with_reducible exact Below.refl _ _ | with_reducible assumption | (with_reducible refine Below.trans ?_ (Below.mono (by assumption) (by first | omega | (simp <;> omega)))) | with_reducible apply Below.drew | with_reducible apply below_drewN | (with_reducible refine Below.alloc ?_ (by first | omega | (simp <;> omega)) _) | (with_reducible refine Below.setCell ?_ (by first | omega | (simp <;> omega)) _)))).grown hg2 hsw1 (fun k e => by have := Option.some.inj e; omega)
    have hgl2 := hF2.lt
    have HF2 := hide hF2; have HW2 := hide hw2
    have hsz2 := hw2.size
    clear hF2 hg2 hw2 hbw1 HP HINC HO1
    go_loopw [6, 21] (fun v i wr => ∃ (k : Nat) (u : Value) (ps : List QP), i = .int .i64 k ∧ u = v ∧ k ≤ xs.length ∧ Hid (pK xs vm k = some ps) ∧ wr.ownsRow w2.heap.size 63 4 u k (ptcs (ps.map qp)) ∧ Below w2.heap.size w2 wr) (fun _ i _ => xs.length - (intOf i).toNat)
    case atStart => exact ⟨0, _, [], rfl, rfl, by omega, hide rfl, World.ownsRow_nil _ _ _ _, Below.refl _ _⟩
    case round =>
      obtain ⟨k, u, ps, rfl, rfl, hk, HPK, hown, hbwr⟩ := hrel
      have hszr := hbwr.size
      by_cases hlt : k < xs.length
      · have hC := (unhide HF2).below hbwr
        have f0 := hC.at0 k hlt
        have f1 := hC.at1 k hlt
        have hgr := hC.lt
        rw [qAtR xs k hlt] at f0 f1
        simp only at f0 f1
        have hun := (unhide HU) _ (mem_iff_getD.2 ⟨k, hlt, rfl⟩)
        have hvx := (unhide HV) _ hun
        have hcx := fun W => isUnit_any_co (xs.getD k 0).num (xs.getD k 0).den W
        have hst : pK xs vm (k + 1) = (vm (xs.getD k 0)).bind fun y => if coD (xs.getD k 0) && coD y then some (ps ++ [(xs.getD k 0, y)]) else none := by simp only [pK]; rw [(unhide HPK)]; rfl
        have HST := Lib.hid hst
        have hvB : ∀ j, u.ownBlock = some j → w2.heap.size ≤ j := fun j e => (hown.lt j e).1
        have HO := hide hown; have HB := hide hbwr; have HVB := hide hvB
        have hbw : Below w.heap.size w wr := (unhide HW2).trans (hbwr.mono hsz2)
        clear hst hC hown hbwr hun hvB
        cases hv : vm (xs.getD k 0) with
        | none =>
          rw [hv] at hvx
          have HVX := hide hvx
          have HN := Lib.hid hv
          clear hvx hv hcx
          have HNO := Lib.hid (show pK xs vm xs.length = none from pK_none (k := k + 1) (by rw [HST.out, HN.out]; rfl) (xs.length - (k + 1)) (by omega))
          generalize (xs.getD k 0).num = xn at *
          generalize ((xs.getD k 0).den : Int) = xd at *
          go_wp2_with (first
            | (go_at_call 123; (with_reducible refine ((unhide HVX) _ ?pb).mono ?_); (case pb => exact (by repeat (first | with_reducible exact Below.refl _ _ | with_reducible assumption | (with_reducible refine Below.trans ?_ (Below.mono (by assumption) (by first | omega | (simp <;> omega)))) | with_reducible apply Below.drew | with_reducible apply below_drewN | (with_reducible refine Below.alloc ?_ (by first | omega | (simp <;> omega)) _) | (with_reducible refine Below.setCell ?_ (by first | omega | (simp <;> omega)) _)))); rintro e w3 ⟨rfl, hbw3⟩; have hsw3 := hbw3.size; (try simp at hsw3); (skip; (try ((have kw3wr0 := (bnew hbw3) (wr.heap.size) ?pf); (case pf => (first | omega | (simp; done) | (simp; omega))); obtain ⟨kcw3wr0, kfw3wr0, klw3wr0⟩ := kw3wr0)))))
          go_ret2
          exact ⟨⟨fun l h => (by rw [HNO.out] at h; cases h), fun _ => rfl⟩, (by repeat (first | with_reducible exact Below.refl _ _ | with_reducible assumption | (with_reducible refine Below.trans ?_ (Below.mono (by assumption) (by first | omega | (simp <;> omega)))) | with_reducible apply Below.drew | with_reducible apply below_drewN | (with_reducible refine Below.alloc ?_ (by first | omega | (simp <;> omega)) _) | (with_reducible refine Below.setCell ?_ (by first | omega | (simp <;> omega)) _)))⟩
        | some y =>
          rw [hv] at hvx
          have hcy := fun W => isUnit_any_co y.num y.den W
          have HVX := hide hvx
          have HN := Lib.hid hv
          clear hvx hv
          have ex : coB ((xs.getD k 0).num, ((xs.getD k 0).den : Int)) = coD (xs.getD k 0) := rfl
          have ey : coB (y.num, (y.den : Int)) = coD y := rfl
          rw [ex] at hcx
          rw [ey] at hcy
          clear ex ey
          cases h1 : coD (xs.getD k 0) with
          | false =>
            rw [h1] at hcx
            have HCX := hide hcx
            have HD := Lib.hid h1
            clear hcx hcy h1
            have HNO := Lib.hid (show pK xs vm xs.length = none from pK_none (k := k + 1) (by rw [HST.out, HN.out]; simp only [Option.bind_some, HD.out]; rfl) (xs.length - (k + 1)) (by omega))
            simp only [oN_some, oD_some, Option.isSome_some] at HVX
            generalize (xs.getD k 0).num = xn at *
            generalize ((xs.getD k 0).den : Int) = xd at *
            go_wp2_with (first
              | (go_at_call 123; (with_reducible refine ((unhide HVX) _ ?pb).mono ?_); (case pb => exact (by repeat (first | with_reducible exact Below.refl _ _ | with_reducible assumption | (with_reducible refine Below.trans ?_ (Below.mono (by assumption) (by first | omega | (simp <;> omega)))) | with_reducible apply Below.drew | with_reducible apply below_drewN | (with_reducible refine Below.alloc ?_ (by first | omega | (simp <;> omega)) _) | (with_reducible refine Below.setCell ?_ (by first | omega | (simp <;> omega)) _)))); rintro e w3 ⟨rfl, hbw3⟩; have hsw3 := hbw3.size; (try simp at hsw3); (skip; (try ((have kw3wr0 := (bnew hbw3) (wr.heap.size) ?pf); (case pf => (first | omega | (simp; done) | (simp; omega))); obtain ⟨kcw3wr0, kfw3wr0, klw3wr0⟩ := kw3wr0))))
              | (go_at_call 88; (with_reducible refine ((unhide HCX) _).mono ?_); rintro e w4 ⟨rfl, hbw4⟩; have hsw4 := hbw4.size; (try simp at hsw4); (skip; (try ((have kw4wr0 := (bnew hbw4) (wr.heap.size) ?pf); (case pf => (first | omega | (simp; done) | (simp; omega))); obtain ⟨kcw4wr0, kfw4wr0, klw4wr0⟩ := kw4wr0)); (try ((have kw4w30 := (bnew hbw4) (w3.heap.size) ?pf); (case pf => (first | omega | (simp; done) | (simp; omega))); obtain ⟨kcw4w30, kfw4w30, klw4w30⟩ := kw4w30)))))
            go_ret2
            exact ⟨⟨fun l h => (by rw [HNO.out] at h; cases h), fun _ => rfl⟩, (by repeat (first | with_reducible exact Below.refl _ _ | with_reducible assumption | (with_reducible refine Below.trans ?_ (Below.mono (by assumption) (by first | omega | (simp <;> omega)))) | with_reducible apply Below.drew | with_reducible apply below_drewN | (with_reducible refine Below.alloc ?_ (by first | omega | (simp <;> omega)) _) | (with_reducible refine Below.setCell ?_ (by first | omega | (simp <;> omega)) _)))⟩
          | true =>
            rw [h1] at hcx
            have HCX := hide hcx
            have HD := Lib.hid h1
            clear hcx h1
            cases h2 : coD y with
            | false =>
              rw [h2] at hcy
              have HCY := hide hcy
              have HE := Lib.hid h2
              clear hcy h2
              have HNO := Lib.hid (show pK xs vm xs.length = none from pK_none (k := k + 1) (by rw [HST.out, HN.out]; simp only [Option.bind_some, HD.out, HE.out]; rfl) (xs.length - (k + 1)) (by omega))
              simp only [oN_some, oD_some, Option.isSome_some] at HVX
              generalize (xs.getD k 0).num = xn at *
              generalize ((xs.getD k 0).den : Int) = xd at *
              go_wp2_with (first
                | (go_at_call 123; (with_reducible refine ((unhide HVX) _ ?pb).mono ?_); (case pb => exact (by repeat (first | with_reducible exact Below.refl _ _ | with_reducible assumption | (with_reducible refine Below.trans ?_ (Below.mono (by assumption) (by first | omega | (simp <;> omega)))) | with_reducible apply Below.drew | with_reducible apply below_drewN | (with_reducible refine Below.alloc ?_ (by first | omega | (simp <;> omega)) _) | (with_reducible refine Below.setCell ?_ (by first | omega | (simp <;> omega)) _)))); rintro e w3 ⟨rfl, hbw3⟩; have hsw3 := hbw3.size; (try simp at hsw3); (skip; (try ((have kw3wr0 := (bnew hbw3) (wr.heap.size) ?pf); (case pf => (first | omega | (simp; done) | (simp; omega))); obtain ⟨kcw3wr0, kfw3wr0, klw3wr0⟩ := kw3wr0))))
                | (go_at_call 88; (with_reducible refine ((unhide HCX) _).mono ?_); rintro e w4 ⟨rfl, hbw4⟩; have hsw4 := hbw4.size; (try simp at hsw4); (skip; (try ((have kw4wr0 := (bnew hbw4) (wr.heap.size) ?pf); (case pf => (first | omega | (simp; done) | (simp; omega))); obtain ⟨kcw4wr0, kfw4wr0, klw4wr0⟩ := kw4wr0)); (try ((have kw4w30 := (bnew hbw4) (w3.heap.size) ?pf); (case pf => (first | omega | (simp; done) | (simp; omega))); obtain ⟨kcw4w30, kfw4w30, klw4w30⟩ := kw4w30))))
                | (go_at_call 88; (with_reducible refine ((unhide HCY) _).mono ?_); rintro e w5 ⟨rfl, hbw5⟩; have hsw5 := hbw5.size; (try simp at hsw5); (skip; (try ((have kw5wr0 := (bnew hbw5) (wr.heap.size) ?pf); (case pf => (first | omega | (simp; done) | (simp; omega))); obtain ⟨kcw5wr0, kfw5wr0, klw5wr0⟩ := kw5wr0)); (try ((have kw5w30 := (bnew hbw5) (w3.heap.size) ?pf); (case pf => (first | omega | (simp; done) | (simp; omega))); obtain ⟨kcw5w30, kfw5w30, klw5w30⟩ := kw5w30)))))
              go_ret2
              exact ⟨⟨fun l h => (by rw [HNO.out] at h; cases h), fun _ => rfl⟩, (by repeat (first | with_reducible exact Below.refl _ _ | with_reducible assumption | (with_reducible refine Below.trans ?_ (Below.mono (by assumption) (by first | omega | (simp <;> omega)))) | with_reducible apply Below.drew | with_reducible apply below_drewN | (with_reducible refine Below.alloc ?_ (by first | omega | (simp <;> omega)) _) | (with_reducible refine Below.setCell ?_ (by first | omega | (simp <;> omega)) _)))⟩
            | true =>
              rw [h2] at hcy
              have HCY := hide hcy
              have HK1 := hide (show pK xs vm (k + 1) = some (ps ++ [(xs.getD k 0, y)]) by rw [HST.out, HN.out]; simp only [Option.bind_some, HD.out, h2]; rfl)
              have HPT := Lib.hid (ptq_sn ps (xs.getD k 0) y)
              clear hcy h2 HST
              obtain ⟨X, hX⟩ : ∃ X, X = xs.getD k 0 := ⟨_, rfl⟩
              rw [← hX] at f0 f1 HVX HCX HK1 HPT
              clear HN HD hX
              obtain ⟨xn, hxn⟩ : ∃ r, r = X.num := ⟨_, rfl⟩
              obtain ⟨xd, hxd⟩ : ∃ r, r = (X.den : Int) := ⟨_, rfl⟩
              obtain ⟨yn, hyn⟩ : ∃ r, r = y.num := ⟨_, rfl⟩
              obtain ⟨yd, hyd⟩ : ∃ r, r = (y.den : Int) := ⟨_, rfl⟩
              rw [← hxn] at f0 HVX HCX HPT
              rw [← hxd] at f1 HVX HCX HPT
              rw [← hyn, ← hyd] at HCY HPT
              simp only [oN_some, oD_some, Option.isSome_some] at HVX
              rw [← hyn, ← hyd] at HVX
              clear hxn hxd hyn hyd
              go_wp2_with (first
                | (go_at_call 123; (with_reducible refine ((unhide HVX) _ ?pb).mono ?_); (case pb => exact (by repeat (first | with_reducible exact Below.refl _ _ | with_reducible assumption | (with_reducible refine Below.trans ?_ (Below.mono (by assumption) (by first | omega | (simp <;> omega)))) | with_reducible apply Below.drew | with_reducible apply below_drewN | (with_reducible refine Below.alloc ?_ (by first | omega | (simp <;> omega)) _) | (with_reducible refine Below.setCell ?_ (by first | omega | (simp <;> omega)) _)))); rintro e w3 ⟨rfl, hbw3⟩; have hsw3 := hbw3.size; (try simp at hsw3); (skip; (try ((have kw3wr0 := (bnew hbw3) (wr.heap.size) ?pf); (case pf => (first | omega | (simp; done) | (simp; omega))); obtain ⟨kcw3wr0, kfw3wr0, klw3wr0⟩ := kw3wr0))))
                | (go_at_call 88; (with_reducible refine ((unhide HCX) _).mono ?_); rintro e w4 ⟨rfl, hbw4⟩; have hsw4 := hbw4.size; (try simp at hsw4); (skip; (try ((have kw4wr0 := (bnew hbw4) (wr.heap.size) ?pf); (case pf => (first | omega | (simp; done) | (simp; omega))); obtain ⟨kcw4wr0, kfw4wr0, klw4wr0⟩ := kw4wr0)); (try ((have kw4w30 := (bnew hbw4) (w3.heap.size) ?pf); (case pf => (first | omega | (simp; done) | (simp; omega))); obtain ⟨kcw4w30, kfw4w30, klw4w30⟩ := kw4w30))))
                | (go_at_call 88; (with_reducible refine ((unhide HCY) _).mono ?_); rintro e w5 ⟨rfl, hbw5⟩; have hsw5 := hbw5.size; (try simp at hsw5); (skip; (try ((have kw5wr0 := (bnew hbw5) (wr.heap.size) ?pf); (case pf => (first | omega | (simp; done) | (simp; omega))); obtain ⟨kcw5wr0, kfw5wr0, klw5wr0⟩ := kw5wr0)); (try ((have kw5w30 := (bnew hbw5) (w3.heap.size) ?pf); (case pf => (first | omega | (simp; done) | (simp; omega))); obtain ⟨kcw5w30, kfw5w30, klw5w30⟩ := kw5w30))))
                | (at_builtin; refine wpl_append rfl _ _ _ rfl w2.heap.size 63 i0 _ 4 32 Tryz.underlying24 hi0 hz0 hz1 hz2 rfl (by omega) u k _ rfl (own_below (unhide HO) (show Below wr.heap.size wr _ from (by repeat (first | with_reducible exact Below.refl _ _ | with_reducible assumption | (with_reducible refine Below.trans ?_ (Below.mono (by assumption) (by first | omega | (simp <;> omega)))) | with_reducible apply Below.drew | with_reducible apply below_drewN | (with_reducible refine Below.alloc ?_ (by first | omega | (simp <;> omega)) _) | (with_reducible refine Below.setCell ?_ (by first | omega | (simp <;> omega)) _))))) _ 1 [.int .i64 xn, .int .i64 xd, .int .i64 yn, .int .i64 yd] rfl (lies4 (by simp [go_sem, *]) (by simp [go_sem, *]) (by simp [go_sem, *]) (by simp [go_sem, *])) rfl (by simp [Value.oneCell']) (Nat.le_trans (by omega) maxLen_ge) (by omega) (by first | omega | (simp <;> omega)) (k + 1) rfl ?_; intro A6 c6 w6 hown6 hgrow6))
              have hb := unhide HB
              have hbz : Below w2.heap.size w2 w6 := Below.grown (show Below w2.heap.size w2 _ from (by repeat (first | with_reducible exact Below.refl _ _ | with_reducible assumption | (with_reducible refine Below.trans ?_ (Below.mono (by assumption) (by first | omega | (simp <;> omega)))) | with_reducible apply Below.drew | with_reducible apply below_drewN | (with_reducible refine Below.alloc ?_ (by first | omega | (simp <;> omega)) _) | (with_reducible refine Below.setCell ?_ (by first | omega | (simp <;> omega)) _)))) hgrow6 (by first | omega | (simp <;> omega)) (unhide HVB)
              rw [HPT.out] at hown6
              have HO6 := hide hown6
              have HBZ := hide hbz
              clear hown6 hgrow6 hb hbz
              go_wp2_with fail
              go_roundw
              case rel => exact ⟨k + 1, _, _, by go_num, rfl, by omega, HK1, unhide HO6, unhide HBZ⟩
              case measure => simp [intOf]; omega
      · obtain rfl : k = xs.length := by omega
        obtain ⟨A6, d6, rfl⟩ := own_slice hown
        have hpl := pK_len (unhide HPK)
        have HO := hide (hown.mono hsz2)
        have HB := hide ((unhide HW2).trans (hbwr.mono hsz2))
        have HL := Lib.hid hpl
        clear hown hbwr hpl
        go_wp2
        go_ret2
        refine ⟨⟨fun l h => ?_, fun h => ?_⟩, unhide HB⟩
        · rw [(unhide HPK)] at h
          injection h with h
          subst h
          exact ⟨A6, d6, by rw [HL.out] <;> rfl, by rw [HL.out]; exact unhide HO⟩
        · rw [(unhide HPK)] at h; cases h
set_option maxRecDepth 100000 in
set_option maxHeartbeats 3200000 in
theorem points_halfSum (v : Value) (po : Option (List Rat)) (vm : Rat → Option Rat) (w : World) (hp : ∀ l, po = some l → (∀ x ∈ l, Un x) ∧ 1 ≤ l.length ∧ l.length ≤ 1000)
    (HP : Hid (∀ W : World, Below w.heap.size w W → Calls Tryz.prog 203 #[v] W fun e w' => PlO W.heap.size po e w' ∧ Below W.heap.size W w'))
    (HV : Hid (∀ x, Un x → ∀ W : World, Below w.heap.size w W → Calls Tryz.prog 123 #[.iface 154 v, .agg #[.int .i64 (x.num), .int .i64 (x.den)]] W fun e w' => e = .returned (.tuple #[.agg #[.int .i64 (oN (vm x)), .int .i64 (oD (vm x))], .bool (vm x).isSome]) ∧ Below W.heap.size W w')) :
    Calls Tryz.prog 90 #[.iface 154 v] w fun e w' => PtO w.heap.size (pmO po vm) e w' ∧ Below w.heap.size w w' := by
  obtain ⟨i0, hi0, hz0, hz1, hz2⟩ := info_parts iPoint
  have hat := at_halfSum
  cases po with
  | none =>
    clear hp HV
    go_enter Tryz.func90, Tryz.ntmps90
    go_wp2_with (go_at_call 203; (with_reducible refine ((unhide HP) _ ?pb).mono ?_); (case pb => exact (by repeat (first | with_reducible exact Below.refl _ _ | with_reducible assumption | (with_reducible refine Below.trans ?_ (Below.mono (by assumption) (by first | omega | (simp <;> omega)))) | with_reducible apply Below.drew | with_reducible apply below_drewN | (with_reducible refine Below.alloc ?_ (by first | omega | (simp <;> omega)) _) | (with_reducible refine Below.setCell ?_ (by first | omega | (simp <;> omega)) _)))); rintro e w1 ⟨⟨_, h2⟩, hb1⟩; obtain rfl := h2 rfl; clear h2)
    have hz : Below w.heap.size w w1 := (by repeat (first | with_reducible exact Below.refl _ _ | with_reducible assumption | (with_reducible refine Below.trans ?_ (Below.mono (by assumption) (by first | omega | (simp <;> omega)))) | with_reducible apply Below.drew | with_reducible apply below_drewN | (with_reducible refine Below.alloc ?_ (by first | omega | (simp <;> omega)) _) | (with_reducible refine Below.setCell ?_ (by first | omega | (simp <;> omega)) _)))
    go_ret2
    exact ⟨⟨fun l h => (by cases h), fun _ => rfl⟩, hz⟩
  | some l =>
    obtain ⟨hun, hl1, hl2⟩ := hp l rfl
    have hsl := srt_len l
    have hsu : ∀ x ∈ srt l, Un x := fun x hx => hun x (srt_mem.1 hx)
    change Calls _ _ _ _ fun e w' => PtO w.heap.size (pK (srt l) vm (srt l).length) e w' ∧ _
    obtain ⟨xs, hxs⟩ : ∃ xs, xs = srt l := ⟨_, rfl⟩
    have hinc : ∀ (g d base : Nat) (W : World) (ho : W.ownsRow base 37 2 (.slice (some ⟨g, 0, none⟩) l.length d) l.length (frcs (l.map qf))), Calls Tryz.prog 122 #[.slice (some ⟨g, 0, none⟩) l.length d] W fun e w' => ∃ d : Nat, e = .returned (.slice (some ⟨g, 0, none⟩) xs.length d) ∧ FCells w' g xs.length (xs.map qf) ∧ W.grownBy w' (some g) := by
      intro g d base W ho
      rw [hxs]
      exact increasing_any g l.length d base l W ho (fun z hz => (hun z hz).fit) hl1 hl2
    rw [← hxs] at hsl hsu
    rw [← hxs]
    have HINC := hide hinc
    have HU := hide hsu
    clear hp hsu hun hinc hxs
    go_enter Tryz.func90, Tryz.ntmps90
    go_wp2_with (first
      | (go_at_call 203; (with_reducible refine ((unhide HP) _ ?pb).mono ?_); (case pb => exact (by repeat (first | with_reducible exact Below.refl _ _ | with_reducible assumption | (with_reducible refine Below.trans ?_ (Below.mono (by assumption) (by first | omega | (simp <;> omega)))) | with_reducible apply Below.drew | with_reducible apply below_drewN | (with_reducible refine Below.alloc ?_ (by first | omega | (simp <;> omega)) _) | (with_reducible refine Below.setCell ?_ (by first | omega | (simp <;> omega)) _)))); rintro e w1 ⟨⟨h1, _⟩, hbw1⟩; obtain ⟨A1, d1, rfl, ho1⟩ := h1 l rfl; clear h1; obtain ⟨g, rfl, hgB, hgl⟩ := own_some ho1 (by omega); have hsw1 := hbw1.size; have HO1 := hide ho1; clear ho1)
      | (go_at_call 122; (with_reducible refine ((unhide HINC) g d1 _ _ (own_below (unhide HO1) ?pb)).mono ?_); (case pb => exact (by repeat (first | with_reducible exact Below.refl _ _ | with_reducible assumption | (with_reducible refine Below.trans ?_ (Below.mono (by assumption) (by first | omega | (simp <;> omega)))) | with_reducible apply Below.drew | with_reducible apply below_drewN | (with_reducible refine Below.alloc ?_ (by first | omega | (simp <;> omega)) _) | (with_reducible refine Below.setCell ?_ (by first | omega | (simp <;> omega)) _)))); rintro e w2 ⟨d2, rfl, hF2, hg2⟩; have hsw2 := hg2.size))
    have hw2 : Below w.heap.size w w2 := (show Below w.heap.size w w1 from (by repeat (first | with_reducible exact Below.refl _ _ | with_reducible assumption | (with_reducible refine Below.trans ?_ (Below.mono (by assumption) (by first | omega | (simp <;> omega)))) | with_reducible apply Below.drew | with_reducible apply below_drewN | (with_reducible refine Below.alloc ?_ (by first | omega | (simp <;> omega)) _) | (with_reducible refine Below.setCell ?_ (by first | omega | (simp <;> omega)) _)))).grown hg2 hsw1 (fun k e => by have := Option.some.inj e; omega)
    have hgl2 := hF2.lt
    have HF2 := hide hF2; have HW2 := hide hw2
    have hsz2 := hw2.size
    clear hF2 hg2 hw2 hbw1 HP HINC HO1
    go_loopw [6, 21] (fun v i wr => ∃ (k : Nat) (u : Value) (ps : List QP), i = .int .i64 k ∧ u = v ∧ k ≤ xs.length ∧ Hid (pK xs vm k = some ps) ∧ wr.ownsRow w2.heap.size 63 4 u k (ptcs (ps.map qp)) ∧ Below w2.heap.size w2 wr) (fun _ i _ => xs.length - (intOf i).toNat)
    case atStart => exact ⟨0, _, [], rfl, rfl, by omega, hide rfl, World.ownsRow_nil _ _ _ _, Below.refl _ _⟩
    case round =>
      obtain ⟨k, u, ps, rfl, rfl, hk, HPK, hown, hbwr⟩ := hrel
      have hszr := hbwr.size
      by_cases hlt : k < xs.length
      · have hC := (unhide HF2).below hbwr
        have f0 := hC.at0 k hlt
        have f1 := hC.at1 k hlt
        have hgr := hC.lt
        rw [qAtR xs k hlt] at f0 f1
        simp only at f0 f1
        have hun := (unhide HU) _ (mem_iff_getD.2 ⟨k, hlt, rfl⟩)
        have hvx := (unhide HV) _ hun
        have hcx := fun W => isUnit_any_co (xs.getD k 0).num (xs.getD k 0).den W
        have hst : pK xs vm (k + 1) = (vm (xs.getD k 0)).bind fun y => if coD (xs.getD k 0) && coD y then some (ps ++ [(xs.getD k 0, y)]) else none := by simp only [pK]; rw [(unhide HPK)]; rfl
        have HST := Lib.hid hst
        have hvB : ∀ j, u.ownBlock = some j → w2.heap.size ≤ j := fun j e => (hown.lt j e).1
        have HO := hide hown; have HB := hide hbwr; have HVB := hide hvB
        have hbw : Below w.heap.size w wr := (unhide HW2).trans (hbwr.mono hsz2)
        clear hst hC hown hbwr hun hvB
        cases hv : vm (xs.getD k 0) with
        | none =>
          rw [hv] at hvx
          have HVX := hide hvx
          have HN := Lib.hid hv
          clear hvx hv hcx
          have HNO := Lib.hid (show pK xs vm xs.length = none from pK_none (k := k + 1) (by rw [HST.out, HN.out]; rfl) (xs.length - (k + 1)) (by omega))
          generalize (xs.getD k 0).num = xn at *
          generalize ((xs.getD k 0).den : Int) = xd at *
          go_wp2_with (first
            | (go_at_call 123; (with_reducible refine ((unhide HVX) _ ?pb).mono ?_); (case pb => exact (by repeat (first | with_reducible exact Below.refl _ _ | with_reducible assumption | (with_reducible refine Below.trans ?_ (Below.mono (by assumption) (by first | omega | (simp <;> omega)))) | with_reducible apply Below.drew | with_reducible apply below_drewN | (with_reducible refine Below.alloc ?_ (by first | omega | (simp <;> omega)) _) | (with_reducible refine Below.setCell ?_ (by first | omega | (simp <;> omega)) _)))); rintro e w3 ⟨rfl, hbw3⟩; have hsw3 := hbw3.size; (try simp at hsw3); (skip; (try ((have kw3wr0 := (bnew hbw3) (wr.heap.size) ?pf); (case pf => (first | omega | (simp; done) | (simp; omega))); obtain ⟨kcw3wr0, kfw3wr0, klw3wr0⟩ := kw3wr0)))))
          go_ret2
          exact ⟨⟨fun l h => (by rw [HNO.out] at h; cases h), fun _ => rfl⟩, (by repeat (first | with_reducible exact Below.refl _ _ | with_reducible assumption | (with_reducible refine Below.trans ?_ (Below.mono (by assumption) (by first | omega | (simp <;> omega)))) | with_reducible apply Below.drew | with_reducible apply below_drewN | (with_reducible refine Below.alloc ?_ (by first | omega | (simp <;> omega)) _) | (with_reducible refine Below.setCell ?_ (by first | omega | (simp <;> omega)) _)))⟩
        | some y =>
          rw [hv] at hvx
          have hcy := fun W => isUnit_any_co y.num y.den W
          have HVX := hide hvx
          have HN := Lib.hid hv
          clear hvx hv
          have ex : coB ((xs.getD k 0).num, ((xs.getD k 0).den : Int)) = coD (xs.getD k 0) := rfl
          have ey : coB (y.num, (y.den : Int)) = coD y := rfl
          rw [ex] at hcx
          rw [ey] at hcy
          clear ex ey
          cases h1 : coD (xs.getD k 0) with
          | false =>
            rw [h1] at hcx
            have HCX := hide hcx
            have HD := Lib.hid h1
            clear hcx hcy h1
            have HNO := Lib.hid (show pK xs vm xs.length = none from pK_none (k := k + 1) (by rw [HST.out, HN.out]; simp only [Option.bind_some, HD.out]; rfl) (xs.length - (k + 1)) (by omega))
            simp only [oN_some, oD_some, Option.isSome_some] at HVX
            generalize (xs.getD k 0).num = xn at *
            generalize ((xs.getD k 0).den : Int) = xd at *
            go_wp2_with (first
              | (go_at_call 123; (with_reducible refine ((unhide HVX) _ ?pb).mono ?_); (case pb => exact (by repeat (first | with_reducible exact Below.refl _ _ | with_reducible assumption | (with_reducible refine Below.trans ?_ (Below.mono (by assumption) (by first | omega | (simp <;> omega)))) | with_reducible apply Below.drew | with_reducible apply below_drewN | (with_reducible refine Below.alloc ?_ (by first | omega | (simp <;> omega)) _) | (with_reducible refine Below.setCell ?_ (by first | omega | (simp <;> omega)) _)))); rintro e w3 ⟨rfl, hbw3⟩; have hsw3 := hbw3.size; (try simp at hsw3); (skip; (try ((have kw3wr0 := (bnew hbw3) (wr.heap.size) ?pf); (case pf => (first | omega | (simp; done) | (simp; omega))); obtain ⟨kcw3wr0, kfw3wr0, klw3wr0⟩ := kw3wr0))))
              | (go_at_call 88; (with_reducible refine ((unhide HCX) _).mono ?_); rintro e w4 ⟨rfl, hbw4⟩; have hsw4 := hbw4.size; (try simp at hsw4); (skip; (try ((have kw4wr0 := (bnew hbw4) (wr.heap.size) ?pf); (case pf => (first | omega | (simp; done) | (simp; omega))); obtain ⟨kcw4wr0, kfw4wr0, klw4wr0⟩ := kw4wr0)); (try ((have kw4w30 := (bnew hbw4) (w3.heap.size) ?pf); (case pf => (first | omega | (simp; done) | (simp; omega))); obtain ⟨kcw4w30, kfw4w30, klw4w30⟩ := kw4w30)))))
            go_ret2
            exact ⟨⟨fun l h => (by rw [HNO.out] at h; cases h), fun _ => rfl⟩, (by repeat (first | with_reducible exact Below.refl _ _ | with_reducible assumption | (with_reducible refine Below.trans ?_ (Below.mono (by assumption) (by first | omega | (simp <;> omega)))) | with_reducible apply Below.drew | with_reducible apply below_drewN | (with_reducible refine Below.alloc ?_ (by first | omega | (simp <;> omega)) _) | (with_reducible refine Below.setCell ?_ (by first | omega | (simp <;> omega)) _)))⟩
          | true =>
            rw [h1] at hcx
            have HCX := hide hcx
            have HD := Lib.hid h1
            clear hcx h1
            cases h2 : coD y with
            | false =>
              rw [h2] at hcy
              have HCY := hide hcy
              have HE := Lib.hid h2
              clear hcy h2
              have HNO := Lib.hid (show pK xs vm xs.length = none from pK_none (k := k + 1) (by rw [HST.out, HN.out]; simp only [Option.bind_some, HD.out, HE.out]; rfl) (xs.length - (k + 1)) (by omega))
              simp only [oN_some, oD_some, Option.isSome_some] at HVX
              generalize (xs.getD k 0).num = xn at *
              generalize ((xs.getD k 0).den : Int) = xd at *
              go_wp2_with (first
                | (go_at_call 123; (with_reducible refine ((unhide HVX) _ ?pb).mono ?_); (case pb => exact (by repeat (first | with_reducible exact Below.refl _ _ | with_reducible assumption | (with_reducible refine Below.trans ?_ (Below.mono (by assumption) (by first | omega | (simp <;> omega)))) | with_reducible apply Below.drew | with_reducible apply below_drewN | (with_reducible refine Below.alloc ?_ (by first | omega | (simp <;> omega)) _) | (with_reducible refine Below.setCell ?_ (by first | omega | (simp <;> omega)) _)))); rintro e w3 ⟨rfl, hbw3⟩; have hsw3 := hbw3.size; (try simp at hsw3); (skip; (try ((have kw3wr0 := (bnew hbw3) (wr.heap.size) ?pf); (case pf => (first | omega | (simp; done) | (simp; omega))); obtain ⟨kcw3wr0, kfw3wr0, klw3wr0⟩ := kw3wr0))))
                | (go_at_call 88; (with_reducible refine ((unhide HCX) _).mono ?_); rintro e w4 ⟨rfl, hbw4⟩; have hsw4 := hbw4.size; (try simp at hsw4); (skip; (try ((have kw4wr0 := (bnew hbw4) (wr.heap.size) ?pf); (case pf => (first | omega | (simp; done) | (simp; omega))); obtain ⟨kcw4wr0, kfw4wr0, klw4wr0⟩ := kw4wr0)); (try ((have kw4w30 := (bnew hbw4) (w3.heap.size) ?pf); (case pf => (first | omega | (simp; done) | (simp; omega))); obtain ⟨kcw4w30, kfw4w30, klw4w30⟩ := kw4w30))))
                | (go_at_call 88; (with_reducible refine ((unhide HCY) _).mono ?_); rintro e w5 ⟨rfl, hbw5⟩; have hsw5 := hbw5.size; (try simp at hsw5); (skip; (try ((have kw5wr0 := (bnew hbw5) (wr.heap.size) ?pf); (case pf => (first | omega | (simp; done) | (simp; omega))); obtain ⟨kcw5wr0, kfw5wr0, klw5wr0⟩ := kw5wr0)); (try ((have kw5w30 := (bnew hbw5) (w3.heap.size) ?pf); (case pf => (first | omega | (simp; done) | (simp; omega))); obtain ⟨kcw5w30, kfw5w30, klw5w30⟩ := kw5w30)))))
              go_ret2
              exact ⟨⟨fun l h => (by rw [HNO.out] at h; cases h), fun _ => rfl⟩, (by repeat (first | with_reducible exact Below.refl _ _ | with_reducible assumption | (with_reducible refine Below.trans ?_ (Below.mono (by assumption) (by first | omega | (simp <;> omega)))) | with_reducible apply Below.drew | with_reducible apply below_drewN | (with_reducible refine Below.alloc ?_ (by first | omega | (simp <;> omega)) _) | (with_reducible refine Below.setCell ?_ (by first | omega | (simp <;> omega)) _)))⟩
            | true =>
              rw [h2] at hcy
              have HCY := hide hcy
              have HK1 := hide (show pK xs vm (k + 1) = some (ps ++ [(xs.getD k 0, y)]) by rw [HST.out, HN.out]; simp only [Option.bind_some, HD.out, h2]; rfl)
              have HPT := Lib.hid (ptq_sn ps (xs.getD k 0) y)
              clear hcy h2 HST
              obtain ⟨X, hX⟩ : ∃ X, X = xs.getD k 0 := ⟨_, rfl⟩
              rw [← hX] at f0 f1 HVX HCX HK1 HPT
              clear HN HD hX
              obtain ⟨xn, hxn⟩ : ∃ r, r = X.num := ⟨_, rfl⟩
              obtain ⟨xd, hxd⟩ : ∃ r, r = (X.den : Int) := ⟨_, rfl⟩
              obtain ⟨yn, hyn⟩ : ∃ r, r = y.num := ⟨_, rfl⟩
              obtain ⟨yd, hyd⟩ : ∃ r, r = (y.den : Int) := ⟨_, rfl⟩
              rw [← hxn] at f0 HVX HCX HPT
              rw [← hxd] at f1 HVX HCX HPT
              rw [← hyn, ← hyd] at HCY HPT
              simp only [oN_some, oD_some, Option.isSome_some] at HVX
              rw [← hyn, ← hyd] at HVX
              clear hxn hxd hyn hyd
              go_wp2_with (first
                | (go_at_call 123; (with_reducible refine ((unhide HVX) _ ?pb).mono ?_); (case pb => exact (by repeat (first | with_reducible exact Below.refl _ _ | with_reducible assumption | (with_reducible refine Below.trans ?_ (Below.mono (by assumption) (by first | omega | (simp <;> omega)))) | with_reducible apply Below.drew | with_reducible apply below_drewN | (with_reducible refine Below.alloc ?_ (by first | omega | (simp <;> omega)) _) | (with_reducible refine Below.setCell ?_ (by first | omega | (simp <;> omega)) _)))); rintro e w3 ⟨rfl, hbw3⟩; have hsw3 := hbw3.size; (try simp at hsw3); (skip; (try ((have kw3wr0 := (bnew hbw3) (wr.heap.size) ?pf); (case pf => (first | omega | (simp; done) | (simp; omega))); obtain ⟨kcw3wr0, kfw3wr0, klw3wr0⟩ := kw3wr0))))
                | (go_at_call 88; (with_reducible refine ((unhide HCX) _).mono ?_); rintro e w4 ⟨rfl, hbw4⟩; have hsw4 := hbw4.size; (try simp at hsw4); (skip; (try ((have kw4wr0 := (bnew hbw4) (wr.heap.size) ?pf); (case pf => (first | omega | (simp; done) | (simp; omega))); obtain ⟨kcw4wr0, kfw4wr0, klw4wr0⟩ := kw4wr0)); (try ((have kw4w30 := (bnew hbw4) (w3.heap.size) ?pf); (case pf => (first | omega | (simp; done) | (simp; omega))); obtain ⟨kcw4w30, kfw4w30, klw4w30⟩ := kw4w30))))
                | (go_at_call 88; (with_reducible refine ((unhide HCY) _).mono ?_); rintro e w5 ⟨rfl, hbw5⟩; have hsw5 := hbw5.size; (try simp at hsw5); (skip; (try ((have kw5wr0 := (bnew hbw5) (wr.heap.size) ?pf); (case pf => (first | omega | (simp; done) | (simp; omega))); obtain ⟨kcw5wr0, kfw5wr0, klw5wr0⟩ := kw5wr0)); (try ((have kw5w30 := (bnew hbw5) (w3.heap.size) ?pf); (case pf => (first | omega | (simp; done) | (simp; omega))); obtain ⟨kcw5w30, kfw5w30, klw5w30⟩ := kw5w30))))
                | (at_builtin; refine wpl_append rfl _ _ _ rfl w2.heap.size 63 i0 _ 4 32 Tryz.underlying24 hi0 hz0 hz1 hz2 rfl (by omega) u k _ rfl (own_below (unhide HO) (show Below wr.heap.size wr _ from (by repeat (first | with_reducible exact Below.refl _ _ | with_reducible assumption | (with_reducible refine Below.trans ?_ (Below.mono (by assumption) (by first | omega | (simp <;> omega)))) | with_reducible apply Below.drew | with_reducible apply below_drewN | (with_reducible refine Below.alloc ?_ (by first | omega | (simp <;> omega)) _) | (with_reducible refine Below.setCell ?_ (by first | omega | (simp <;> omega)) _))))) _ 1 [.int .i64 xn, .int .i64 xd, .int .i64 yn, .int .i64 yd] rfl (lies4 (by simp [go_sem, *]) (by simp [go_sem, *]) (by simp [go_sem, *]) (by simp [go_sem, *])) rfl (by simp [Value.oneCell']) (Nat.le_trans (by omega) maxLen_ge) (by omega) (by first | omega | (simp <;> omega)) (k + 1) rfl ?_; intro A6 c6 w6 hown6 hgrow6))
              have hb := unhide HB
              have hbz : Below w2.heap.size w2 w6 := Below.grown (show Below w2.heap.size w2 _ from (by repeat (first | with_reducible exact Below.refl _ _ | with_reducible assumption | (with_reducible refine Below.trans ?_ (Below.mono (by assumption) (by first | omega | (simp <;> omega)))) | with_reducible apply Below.drew | with_reducible apply below_drewN | (with_reducible refine Below.alloc ?_ (by first | omega | (simp <;> omega)) _) | (with_reducible refine Below.setCell ?_ (by first | omega | (simp <;> omega)) _)))) hgrow6 (by first | omega | (simp <;> omega)) (unhide HVB)
              rw [HPT.out] at hown6
              have HO6 := hide hown6
              have HBZ := hide hbz
              clear hown6 hgrow6 hb hbz
              go_wp2_with fail
              go_roundw
              case rel => exact ⟨k + 1, _, _, by go_num, rfl, by omega, HK1, unhide HO6, unhide HBZ⟩
              case measure => simp [intOf]; omega
      · obtain rfl : k = xs.length := by omega
        obtain ⟨A6, d6, rfl⟩ := own_slice hown
        have hpl := pK_len (unhide HPK)
        have HO := hide (hown.mono hsz2)
        have HB := hide ((unhide HW2).trans (hbwr.mono hsz2))
        have HL := Lib.hid hpl
        clear hown hbwr hpl
        go_wp2
        go_ret2
        refine ⟨⟨fun l h => ?_, fun h => ?_⟩, unhide HB⟩
        · rw [(unhide HPK)] at h
          injection h with h
          subst h
          exact ⟨A6, d6, by rw [HL.out] <;> rfl, by rw [HL.out]; exact unhide HO⟩
        · rw [(unhide HPK)] at h; cases h
set_option maxRecDepth 100000 in
set_option maxHeartbeats 3200000 in
theorem points_cut (v : Value) (po : Option (List Rat)) (vm : Rat → Option Rat) (w : World) (hp : ∀ l, po = some l → (∀ x ∈ l, Un x) ∧ 1 ≤ l.length ∧ l.length ≤ 1000)
    (HP : Hid (∀ W : World, Below w.heap.size w W → Calls Tryz.prog 205 #[v] W fun e w' => PlO W.heap.size po e w' ∧ Below W.heap.size W w'))
    (HV : Hid (∀ x, Un x → ∀ W : World, Below w.heap.size w W → Calls Tryz.prog 123 #[.iface 156 v, .agg #[.int .i64 (x.num), .int .i64 (x.den)]] W fun e w' => e = .returned (.tuple #[.agg #[.int .i64 (oN (vm x)), .int .i64 (oD (vm x))], .bool (vm x).isSome]) ∧ Below W.heap.size W w')) :
    Calls Tryz.prog 90 #[.iface 156 v] w fun e w' => PtO w.heap.size (pmO po vm) e w' ∧ Below w.heap.size w w' := by
  obtain ⟨i0, hi0, hz0, hz1, hz2⟩ := info_parts iPoint
  have hat := at_cut
  cases po with
  | none =>
    clear hp HV
    go_enter Tryz.func90, Tryz.ntmps90
    go_wp2_with (go_at_call 205; (with_reducible refine ((unhide HP) _ ?pb).mono ?_); (case pb => exact (by repeat (first | with_reducible exact Below.refl _ _ | with_reducible assumption | (with_reducible refine Below.trans ?_ (Below.mono (by assumption) (by first | omega | (simp <;> omega)))) | with_reducible apply Below.drew | with_reducible apply below_drewN | (with_reducible refine Below.alloc ?_ (by first | omega | (simp <;> omega)) _) | (with_reducible refine Below.setCell ?_ (by first | omega | (simp <;> omega)) _)))); rintro e w1 ⟨⟨_, h2⟩, hb1⟩; obtain rfl := h2 rfl; clear h2)
    have hz : Below w.heap.size w w1 := (by repeat (first | with_reducible exact Below.refl _ _ | with_reducible assumption | (with_reducible refine Below.trans ?_ (Below.mono (by assumption) (by first | omega | (simp <;> omega)))) | with_reducible apply Below.drew | with_reducible apply below_drewN | (with_reducible refine Below.alloc ?_ (by first | omega | (simp <;> omega)) _) | (with_reducible refine Below.setCell ?_ (by first | omega | (simp <;> omega)) _)))
    go_ret2
    exact ⟨⟨fun l h => (by cases h), fun _ => rfl⟩, hz⟩
  | some l =>
    obtain ⟨hun, hl1, hl2⟩ := hp l rfl
    have hsl := srt_len l
    have hsu : ∀ x ∈ srt l, Un x := fun x hx => hun x (srt_mem.1 hx)
    change Calls _ _ _ _ fun e w' => PtO w.heap.size (pK (srt l) vm (srt l).length) e w' ∧ _
    obtain ⟨xs, hxs⟩ : ∃ xs, xs = srt l := ⟨_, rfl⟩
    have hinc : ∀ (g d base : Nat) (W : World) (ho : W.ownsRow base 37 2 (.slice (some ⟨g, 0, none⟩) l.length d) l.length (frcs (l.map qf))), Calls Tryz.prog 122 #[.slice (some ⟨g, 0, none⟩) l.length d] W fun e w' => ∃ d : Nat, e = .returned (.slice (some ⟨g, 0, none⟩) xs.length d) ∧ FCells w' g xs.length (xs.map qf) ∧ W.grownBy w' (some g) := by
      intro g d base W ho
      rw [hxs]
      exact increasing_any g l.length d base l W ho (fun z hz => (hun z hz).fit) hl1 hl2
    rw [← hxs] at hsl hsu
    rw [← hxs]
    have HINC := hide hinc
    have HU := hide hsu
    clear hp hsu hun hinc hxs
    go_enter Tryz.func90, Tryz.ntmps90
    go_wp2_with (first
      | (go_at_call 205; (with_reducible refine ((unhide HP) _ ?pb).mono ?_); (case pb => exact (by repeat (first | with_reducible exact Below.refl _ _ | with_reducible assumption | (with_reducible refine Below.trans ?_ (Below.mono (by assumption) (by first | omega | (simp <;> omega)))) | with_reducible apply Below.drew | with_reducible apply below_drewN | (with_reducible refine Below.alloc ?_ (by first | omega | (simp <;> omega)) _) | (with_reducible refine Below.setCell ?_ (by first | omega | (simp <;> omega)) _)))); rintro e w1 ⟨⟨h1, _⟩, hbw1⟩; obtain ⟨A1, d1, rfl, ho1⟩ := h1 l rfl; clear h1; obtain ⟨g, rfl, hgB, hgl⟩ := own_some ho1 (by omega); have hsw1 := hbw1.size; have HO1 := hide ho1; clear ho1)
      | (go_at_call 122; (with_reducible refine ((unhide HINC) g d1 _ _ (own_below (unhide HO1) ?pb)).mono ?_); (case pb => exact (by repeat (first | with_reducible exact Below.refl _ _ | with_reducible assumption | (with_reducible refine Below.trans ?_ (Below.mono (by assumption) (by first | omega | (simp <;> omega)))) | with_reducible apply Below.drew | with_reducible apply below_drewN | (with_reducible refine Below.alloc ?_ (by first | omega | (simp <;> omega)) _) | (with_reducible refine Below.setCell ?_ (by first | omega | (simp <;> omega)) _)))); rintro e w2 ⟨d2, rfl, hF2, hg2⟩; have hsw2 := hg2.size))
    have hw2 : Below w.heap.size w w2 := (show Below w.heap.size w w1 from (by repeat (first | with_reducible exact Below.refl _ _ | with_reducible assumption | (with_reducible refine Below.trans ?_ (Below.mono (by assumption) (by first | omega | (simp <;> omega)))) | with_reducible apply Below.drew | with_reducible apply below_drewN | (with_reducible refine Below.alloc ?_ (by first | omega | (simp <;> omega)) _) | (with_reducible refine Below.setCell ?_ (by first | omega | (simp <;> omega)) _)))).grown hg2 hsw1 (fun k e => by have := Option.some.inj e; omega)
    have hgl2 := hF2.lt
    have HF2 := hide hF2; have HW2 := hide hw2
    have hsz2 := hw2.size
    clear hF2 hg2 hw2 hbw1 HP HINC HO1
    go_loopw [6, 21] (fun v i wr => ∃ (k : Nat) (u : Value) (ps : List QP), i = .int .i64 k ∧ u = v ∧ k ≤ xs.length ∧ Hid (pK xs vm k = some ps) ∧ wr.ownsRow w2.heap.size 63 4 u k (ptcs (ps.map qp)) ∧ Below w2.heap.size w2 wr) (fun _ i _ => xs.length - (intOf i).toNat)
    case atStart => exact ⟨0, _, [], rfl, rfl, by omega, hide rfl, World.ownsRow_nil _ _ _ _, Below.refl _ _⟩
    case round =>
      obtain ⟨k, u, ps, rfl, rfl, hk, HPK, hown, hbwr⟩ := hrel
      have hszr := hbwr.size
      by_cases hlt : k < xs.length
      · have hC := (unhide HF2).below hbwr
        have f0 := hC.at0 k hlt
        have f1 := hC.at1 k hlt
        have hgr := hC.lt
        rw [qAtR xs k hlt] at f0 f1
        simp only at f0 f1
        have hun := (unhide HU) _ (mem_iff_getD.2 ⟨k, hlt, rfl⟩)
        have hvx := (unhide HV) _ hun
        have hcx := fun W => isUnit_any_co (xs.getD k 0).num (xs.getD k 0).den W
        have hst : pK xs vm (k + 1) = (vm (xs.getD k 0)).bind fun y => if coD (xs.getD k 0) && coD y then some (ps ++ [(xs.getD k 0, y)]) else none := by simp only [pK]; rw [(unhide HPK)]; rfl
        have HST := Lib.hid hst
        have hvB : ∀ j, u.ownBlock = some j → w2.heap.size ≤ j := fun j e => (hown.lt j e).1
        have HO := hide hown; have HB := hide hbwr; have HVB := hide hvB
        have hbw : Below w.heap.size w wr := (unhide HW2).trans (hbwr.mono hsz2)
        clear hst hC hown hbwr hun hvB
        cases hv : vm (xs.getD k 0) with
        | none =>
          rw [hv] at hvx
          have HVX := hide hvx
          have HN := Lib.hid hv
          clear hvx hv hcx
          have HNO := Lib.hid (show pK xs vm xs.length = none from pK_none (k := k + 1) (by rw [HST.out, HN.out]; rfl) (xs.length - (k + 1)) (by omega))
          generalize (xs.getD k 0).num = xn at *
          generalize ((xs.getD k 0).den : Int) = xd at *
          go_wp2_with (first
            | (go_at_call 123; (with_reducible refine ((unhide HVX) _ ?pb).mono ?_); (case pb => exact (by repeat (first | with_reducible exact Below.refl _ _ | with_reducible assumption | (with_reducible refine Below.trans ?_ (Below.mono (by assumption) (by first | omega | (simp <;> omega)))) | with_reducible apply Below.drew | with_reducible apply below_drewN | (with_reducible refine Below.alloc ?_ (by first | omega | (simp <;> omega)) _) | (with_reducible refine Below.setCell ?_ (by first | omega | (simp <;> omega)) _)))); rintro e w3 ⟨rfl, hbw3⟩; have hsw3 := hbw3.size; (try simp at hsw3); (skip; (try ((have kw3wr0 := (bnew hbw3) (wr.heap.size) ?pf); (case pf => (first | omega | (simp; done) | (simp; omega))); obtain ⟨kcw3wr0, kfw3wr0, klw3wr0⟩ := kw3wr0)))))
          go_ret2
          exact ⟨⟨fun l h => (by rw [HNO.out] at h; cases h), fun _ => rfl⟩, (by repeat (first | with_reducible exact Below.refl _ _ | with_reducible assumption | (with_reducible refine Below.trans ?_ (Below.mono (by assumption) (by first | omega | (simp <;> omega)))) | with_reducible apply Below.drew | with_reducible apply below_drewN | (with_reducible refine Below.alloc ?_ (by first | omega | (simp <;> omega)) _) | (with_reducible refine Below.setCell ?_ (by first | omega | (simp <;> omega)) _)))⟩
        | some y =>
          rw [hv] at hvx
          have hcy := fun W => isUnit_any_co y.num y.den W
          have HVX := hide hvx
          have HN := Lib.hid hv
          clear hvx hv
          have ex : coB ((xs.getD k 0).num, ((xs.getD k 0).den : Int)) = coD (xs.getD k 0) := rfl
          have ey : coB (y.num, (y.den : Int)) = coD y := rfl
          rw [ex] at hcx
          rw [ey] at hcy
          clear ex ey
          cases h1 : coD (xs.getD k 0) with
          | false =>
            rw [h1] at hcx
            have HCX := hide hcx
            have HD := Lib.hid h1
            clear hcx hcy h1
            have HNO := Lib.hid (show pK xs vm xs.length = none from pK_none (k := k + 1) (by rw [HST.out, HN.out]; simp only [Option.bind_some, HD.out]; rfl) (xs.length - (k + 1)) (by omega))
            simp only [oN_some, oD_some, Option.isSome_some] at HVX
            generalize (xs.getD k 0).num = xn at *
            generalize ((xs.getD k 0).den : Int) = xd at *
            go_wp2_with (first
              | (go_at_call 123; (with_reducible refine ((unhide HVX) _ ?pb).mono ?_); (case pb => exact (by repeat (first | with_reducible exact Below.refl _ _ | with_reducible assumption | (with_reducible refine Below.trans ?_ (Below.mono (by assumption) (by first | omega | (simp <;> omega)))) | with_reducible apply Below.drew | with_reducible apply below_drewN | (with_reducible refine Below.alloc ?_ (by first | omega | (simp <;> omega)) _) | (with_reducible refine Below.setCell ?_ (by first | omega | (simp <;> omega)) _)))); rintro e w3 ⟨rfl, hbw3⟩; have hsw3 := hbw3.size; (try simp at hsw3); (skip; (try ((have kw3wr0 := (bnew hbw3) (wr.heap.size) ?pf); (case pf => (first | omega | (simp; done) | (simp; omega))); obtain ⟨kcw3wr0, kfw3wr0, klw3wr0⟩ := kw3wr0))))
              | (go_at_call 88; (with_reducible refine ((unhide HCX) _).mono ?_); rintro e w4 ⟨rfl, hbw4⟩; have hsw4 := hbw4.size; (try simp at hsw4); (skip; (try ((have kw4wr0 := (bnew hbw4) (wr.heap.size) ?pf); (case pf => (first | omega | (simp; done) | (simp; omega))); obtain ⟨kcw4wr0, kfw4wr0, klw4wr0⟩ := kw4wr0)); (try ((have kw4w30 := (bnew hbw4) (w3.heap.size) ?pf); (case pf => (first | omega | (simp; done) | (simp; omega))); obtain ⟨kcw4w30, kfw4w30, klw4w30⟩ := kw4w30)))))
            go_ret2
            exact ⟨⟨fun l h => (by rw [HNO.out] at h; cases h), fun _ => rfl⟩, (by repeat (first | with_reducible exact Below.refl _ _ | with_reducible assumption | (with_reducible refine Below.trans ?_ (Below.mono (by assumption) (by first | omega | (simp <;> omega)))) | with_reducible apply Below.drew | with_reducible apply below_drewN | (with_reducible refine Below.alloc ?_ (by first | omega | (simp <;> omega)) _) | (with_reducible refine Below.setCell ?_ (by first | omega | (simp <;> omega)) _)))⟩
          | true =>
            rw [h1] at hcx
            have HCX := hide hcx
            have HD := Lib.hid h1
            clear hcx h1
            cases h2 : coD y with
            | false =>
              rw [h2] at hcy
              have HCY := hide hcy
              have HE := Lib.hid h2
              clear hcy h2
              have HNO := Lib.hid (show pK xs vm xs.length = none from pK_none (k := k + 1) (by rw [HST.out, HN.out]; simp only [Option.bind_some, HD.out, HE.out]; rfl) (xs.length - (k + 1)) (by omega))
              simp only [oN_some, oD_some, Option.isSome_some] at HVX
              generalize (xs.getD k 0).num = xn at *
              generalize ((xs.getD k 0).den : Int) = xd at *
              go_wp2_with (first
                | (go_at_call 123; (with_reducible refine ((unhide HVX) _ ?pb).mono ?_); (case pb => exact (by repeat (first | with_reducible exact Below.refl _ _ | with_reducible assumption | (with_reducible refine Below.trans ?_ (Below.mono (by assumption) (by first | omega | (simp <;> omega)))) | with_reducible apply Below.drew | with_reducible apply below_drewN | (with_reducible refine Below.alloc ?_ (by first | omega | (simp <;> omega)) _) | (with_reducible refine Below.setCell ?_ (by first | omega | (simp <;> omega)) _)))); rintro e w3 ⟨rfl, hbw3⟩; have hsw3 := hbw3.size; (try simp at hsw3); (skip; (try ((have kw3wr0 := (bnew hbw3) (wr.heap.size) ?pf); (case pf => (first | omega | (simp; done) | (simp; omega))); obtain ⟨kcw3wr0, kfw3wr0, klw3wr0⟩ := kw3wr0))))
                | (go_at_call 88; (with_reducible refine ((unhide HCX) _).mono ?_); rintro e w4 ⟨rfl, hbw4⟩; have hsw4 := hbw4.size; (try simp at hsw4); (skip; (try ((have kw4wr0 := (bnew hbw4) (wr.heap.size) ?pf); (case pf => (first | omega | (simp; done) | (simp; omega))); obtain ⟨kcw4wr0, kfw4wr0, klw4wr0⟩ := kw4wr0)); (try ((have kw4w30 := (bnew hbw4) (w3.heap.size) ?pf); (case pf => (first | omega | (simp; done) | (simp; omega))); obtain ⟨kcw4w30, kfw4w30, klw4w30⟩ := kw4w30))))
                | (go_at_call 88; (with_reducible refine ((unhide HCY) _).mono ?_); rintro e w5 ⟨rfl, hbw5⟩; have hsw5 := hbw5.size; (try simp at hsw5); (skip; (try ((have kw5wr0 := (bnew hbw5) (wr.heap.size) ?pf); (case pf => (first | omega | (simp; done) | (simp; omega))); obtain ⟨kcw5wr0, kfw5wr0, klw5wr0⟩ := kw5wr0)); (try ((have kw5w30 := (bnew hbw5) (w3.heap.size) ?pf); (case pf => (first | omega | (simp; done) | (simp; omega))); obtain ⟨kcw5w30, kfw5w30, klw5w30⟩ := kw5w30)))))
              go_ret2
              exact ⟨⟨fun l h => (by rw [HNO.out] at h; cases h), fun _ => rfl⟩, (by repeat (first | with_reducible exact Below.refl _ _ | with_reducible assumption | (with_reducible refine Below.trans ?_ (Below.mono (by assumption) (by first | omega | (simp <;> omega)))) | with_reducible apply Below.drew | with_reducible apply below_drewN | (with_reducible refine Below.alloc ?_ (by first | omega | (simp <;> omega)) _) | (with_reducible refine Below.setCell ?_ (by first | omega | (simp <;> omega)) _)))⟩
            | true =>
              rw [h2] at hcy
              have HCY := hide hcy
              have HK1 := hide (show pK xs vm (k + 1) = some (ps ++ [(xs.getD k 0, y)]) by rw [HST.out, HN.out]; simp only [Option.bind_some, HD.out, h2]; rfl)
              have HPT := Lib.hid (ptq_sn ps (xs.getD k 0) y)
              clear hcy h2 HST
              obtain ⟨X, hX⟩ : ∃ X, X = xs.getD k 0 := ⟨_, rfl⟩
              rw [← hX] at f0 f1 HVX HCX HK1 HPT
              clear HN HD hX
              obtain ⟨xn, hxn⟩ : ∃ r, r = X.num := ⟨_, rfl⟩
              obtain ⟨xd, hxd⟩ : ∃ r, r = (X.den : Int) := ⟨_, rfl⟩
              obtain ⟨yn, hyn⟩ : ∃ r, r = y.num := ⟨_, rfl⟩
              obtain ⟨yd, hyd⟩ : ∃ r, r = (y.den : Int) := ⟨_, rfl⟩
              rw [← hxn] at f0 HVX HCX HPT
              rw [← hxd] at f1 HVX HCX HPT
              rw [← hyn, ← hyd] at HCY HPT
              simp only [oN_some, oD_some, Option.isSome_some] at HVX
              rw [← hyn, ← hyd] at HVX
              clear hxn hxd hyn hyd
              go_wp2_with (first
                | (go_at_call 123; (with_reducible refine ((unhide HVX) _ ?pb).mono ?_); (case pb => exact (by repeat (first | with_reducible exact Below.refl _ _ | with_reducible assumption | (with_reducible refine Below.trans ?_ (Below.mono (by assumption) (by first | omega | (simp <;> omega)))) | with_reducible apply Below.drew | with_reducible apply below_drewN | (with_reducible refine Below.alloc ?_ (by first | omega | (simp <;> omega)) _) | (with_reducible refine Below.setCell ?_ (by first | omega | (simp <;> omega)) _)))); rintro e w3 ⟨rfl, hbw3⟩; have hsw3 := hbw3.size; (try simp at hsw3); (skip; (try ((have kw3wr0 := (bnew hbw3) (wr.heap.size) ?pf); (case pf => (first | omega | (simp; done) | (simp; omega))); obtain ⟨kcw3wr0, kfw3wr0, klw3wr0⟩ := kw3wr0))))
                | (go_at_call 88; (with_reducible refine ((unhide HCX) _).mono ?_); rintro e w4 ⟨rfl, hbw4⟩; have hsw4 := hbw4.size; (try simp at hsw4); (skip; (try ((have kw4wr0 := (bnew hbw4) (wr.heap.size) ?pf); (case pf => (first | omega | (simp; done) | (simp; omega))); obtain ⟨kcw4wr0, kfw4wr0, klw4wr0⟩ := kw4wr0)); (try ((have kw4w30 := (bnew hbw4) (w3.heap.size) ?pf); (case pf => (first | omega | (simp; done) | (simp; omega))); obtain ⟨kcw4w30, kfw4w30, klw4w30⟩ := kw4w30))))
                | (go_at_call 88; (with_reducible refine ((unhide HCY) _).mono ?_); rintro e w5 ⟨rfl, hbw5⟩; have hsw5 := hbw5.size; (try simp at hsw5); (skip; (try ((have kw5wr0 := (bnew hbw5) (wr.heap.size) ?pf); (case pf => (first | omega | (simp; done) | (simp; omega))); obtain ⟨kcw5wr0, kfw5wr0, klw5wr0⟩ := kw5wr0)); (try ((have kw5w30 := (bnew hbw5) (w3.heap.size) ?pf); (case pf => (first | omega | (simp; done) | (simp; omega))); obtain ⟨kcw5w30, kfw5w30, klw5w30⟩ := kw5w30))))
                | (at_builtin; refine wpl_append rfl _ _ _ rfl w2.heap.size 63 i0 _ 4 32 Tryz.underlying24 hi0 hz0 hz1 hz2 rfl (by omega) u k _ rfl (own_below (unhide HO) (show Below wr.heap.size wr _ from (by repeat (first | with_reducible exact Below.refl _ _ | with_reducible assumption | (with_reducible refine Below.trans ?_ (Below.mono (by assumption) (by first | omega | (simp <;> omega)))) | with_reducible apply Below.drew | with_reducible apply below_drewN | (with_reducible refine Below.alloc ?_ (by first | omega | (simp <;> omega)) _) | (with_reducible refine Below.setCell ?_ (by first | omega | (simp <;> omega)) _))))) _ 1 [.int .i64 xn, .int .i64 xd, .int .i64 yn, .int .i64 yd] rfl (lies4 (by simp [go_sem, *]) (by simp [go_sem, *]) (by simp [go_sem, *]) (by simp [go_sem, *])) rfl (by simp [Value.oneCell']) (Nat.le_trans (by omega) maxLen_ge) (by omega) (by first | omega | (simp <;> omega)) (k + 1) rfl ?_; intro A6 c6 w6 hown6 hgrow6))
              have hb := unhide HB
              have hbz : Below w2.heap.size w2 w6 := Below.grown (show Below w2.heap.size w2 _ from (by repeat (first | with_reducible exact Below.refl _ _ | with_reducible assumption | (with_reducible refine Below.trans ?_ (Below.mono (by assumption) (by first | omega | (simp <;> omega)))) | with_reducible apply Below.drew | with_reducible apply below_drewN | (with_reducible refine Below.alloc ?_ (by first | omega | (simp <;> omega)) _) | (with_reducible refine Below.setCell ?_ (by first | omega | (simp <;> omega)) _)))) hgrow6 (by first | omega | (simp <;> omega)) (unhide HVB)
              rw [HPT.out] at hown6
              have HO6 := hide hown6
              have HBZ := hide hbz
              clear hown6 hgrow6 hb hbz
              go_wp2_with fail
              go_roundw
              case rel => exact ⟨k + 1, _, _, by go_num, rfl, by omega, HK1, unhide HO6, unhide HBZ⟩
              case measure => simp [intOf]; omega
      · obtain rfl : k = xs.length := by omega
        obtain ⟨A6, d6, rfl⟩ := own_slice hown
        have hpl := pK_len (unhide HPK)
        have HO := hide (hown.mono hsz2)
        have HB := hide ((unhide HW2).trans (hbwr.mono hsz2))
        have HL := Lib.hid hpl
        clear hown hbwr hpl
        go_wp2
        go_ret2
        refine ⟨⟨fun l h => ?_, fun h => ?_⟩, unhide HB⟩
        · rw [(unhide HPK)] at h
          injection h with h
          subst h
          exact ⟨A6, d6, by rw [HL.out] <;> rfl, by rw [HL.out]; exact unhide HO⟩
        · rw [(unhide HPK)] at h; cases h
set_option maxRecDepth 100000 in
set_option maxHeartbeats 3200000 in
theorem points_refinement (v : Value) (po : Option (List Rat)) (vm : Rat → Option Rat) (w : World) (hp : ∀ l, po = some l → (∀ x ∈ l, Un x) ∧ 1 ≤ l.length ∧ l.length ≤ 1000)
    (HP : Hid (∀ W : World, Below w.heap.size w W → Calls Tryz.prog 206 #[v] W fun e w' => PlO W.heap.size po e w' ∧ Below W.heap.size W w'))
    (HV : Hid (∀ x, Un x → ∀ W : World, Below w.heap.size w W → Calls Tryz.prog 123 #[.iface 159 v, .agg #[.int .i64 (x.num), .int .i64 (x.den)]] W fun e w' => e = .returned (.tuple #[.agg #[.int .i64 (oN (vm x)), .int .i64 (oD (vm x))], .bool (vm x).isSome]) ∧ Below W.heap.size W w')) :
    Calls Tryz.prog 90 #[.iface 159 v] w fun e w' => PtO w.heap.size (pmO po vm) e w' ∧ Below w.heap.size w w' := by
  obtain ⟨i0, hi0, hz0, hz1, hz2⟩ := info_parts iPoint
  have hat := at_refinement
  cases po with
  | none =>
    clear hp HV
    go_enter Tryz.func90, Tryz.ntmps90
    go_wp2_with (go_at_call 206; (with_reducible refine ((unhide HP) _ ?pb).mono ?_); (case pb => exact (by repeat (first | with_reducible exact Below.refl _ _ | with_reducible assumption | (with_reducible refine Below.trans ?_ (Below.mono (by assumption) (by first | omega | (simp <;> omega)))) | with_reducible apply Below.drew | with_reducible apply below_drewN | (with_reducible refine Below.alloc ?_ (by first | omega | (simp <;> omega)) _) | (with_reducible refine Below.setCell ?_ (by first | omega | (simp <;> omega)) _)))); rintro e w1 ⟨⟨_, h2⟩, hb1⟩; obtain rfl := h2 rfl; clear h2)
    have hz : Below w.heap.size w w1 := (by repeat (first | with_reducible exact Below.refl _ _ | with_reducible assumption | (with_reducible refine Below.trans ?_ (Below.mono (by assumption) (by first | omega | (simp <;> omega)))) | with_reducible apply Below.drew | with_reducible apply below_drewN | (with_reducible refine Below.alloc ?_ (by first | omega | (simp <;> omega)) _) | (with_reducible refine Below.setCell ?_ (by first | omega | (simp <;> omega)) _)))
    go_ret2
    exact ⟨⟨fun l h => (by cases h), fun _ => rfl⟩, hz⟩
  | some l =>
    obtain ⟨hun, hl1, hl2⟩ := hp l rfl
    have hsl := srt_len l
    have hsu : ∀ x ∈ srt l, Un x := fun x hx => hun x (srt_mem.1 hx)
    change Calls _ _ _ _ fun e w' => PtO w.heap.size (pK (srt l) vm (srt l).length) e w' ∧ _
    obtain ⟨xs, hxs⟩ : ∃ xs, xs = srt l := ⟨_, rfl⟩
    have hinc : ∀ (g d base : Nat) (W : World) (ho : W.ownsRow base 37 2 (.slice (some ⟨g, 0, none⟩) l.length d) l.length (frcs (l.map qf))), Calls Tryz.prog 122 #[.slice (some ⟨g, 0, none⟩) l.length d] W fun e w' => ∃ d : Nat, e = .returned (.slice (some ⟨g, 0, none⟩) xs.length d) ∧ FCells w' g xs.length (xs.map qf) ∧ W.grownBy w' (some g) := by
      intro g d base W ho
      rw [hxs]
      exact increasing_any g l.length d base l W ho (fun z hz => (hun z hz).fit) hl1 hl2
    rw [← hxs] at hsl hsu
    rw [← hxs]
    have HINC := hide hinc
    have HU := hide hsu
    clear hp hsu hun hinc hxs
    go_enter Tryz.func90, Tryz.ntmps90
    go_wp2_with (first
      | (go_at_call 206; (with_reducible refine ((unhide HP) _ ?pb).mono ?_); (case pb => exact (by repeat (first | with_reducible exact Below.refl _ _ | with_reducible assumption | (with_reducible refine Below.trans ?_ (Below.mono (by assumption) (by first | omega | (simp <;> omega)))) | with_reducible apply Below.drew | with_reducible apply below_drewN | (with_reducible refine Below.alloc ?_ (by first | omega | (simp <;> omega)) _) | (with_reducible refine Below.setCell ?_ (by first | omega | (simp <;> omega)) _)))); rintro e w1 ⟨⟨h1, _⟩, hbw1⟩; obtain ⟨A1, d1, rfl, ho1⟩ := h1 l rfl; clear h1; obtain ⟨g, rfl, hgB, hgl⟩ := own_some ho1 (by omega); have hsw1 := hbw1.size; have HO1 := hide ho1; clear ho1)
      | (go_at_call 122; (with_reducible refine ((unhide HINC) g d1 _ _ (own_below (unhide HO1) ?pb)).mono ?_); (case pb => exact (by repeat (first | with_reducible exact Below.refl _ _ | with_reducible assumption | (with_reducible refine Below.trans ?_ (Below.mono (by assumption) (by first | omega | (simp <;> omega)))) | with_reducible apply Below.drew | with_reducible apply below_drewN | (with_reducible refine Below.alloc ?_ (by first | omega | (simp <;> omega)) _) | (with_reducible refine Below.setCell ?_ (by first | omega | (simp <;> omega)) _)))); rintro e w2 ⟨d2, rfl, hF2, hg2⟩; have hsw2 := hg2.size))
    have hw2 : Below w.heap.size w w2 := (show Below w.heap.size w w1 from (by repeat (first | with_reducible exact Below.refl _ _ | with_reducible assumption | (with_reducible refine Below.trans ?_ (Below.mono (by assumption) (by first | omega | (simp <;> omega)))) | with_reducible apply Below.drew | with_reducible apply below_drewN | (with_reducible refine Below.alloc ?_ (by first | omega | (simp <;> omega)) _) | (with_reducible refine Below.setCell ?_ (by first | omega | (simp <;> omega)) _)))).grown hg2 hsw1 (fun k e => by have := Option.some.inj e; omega)
    have hgl2 := hF2.lt
    have HF2 := hide hF2; have HW2 := hide hw2
    have hsz2 := hw2.size
    clear hF2 hg2 hw2 hbw1 HP HINC HO1
    go_loopw [6, 21] (fun v i wr => ∃ (k : Nat) (u : Value) (ps : List QP), i = .int .i64 k ∧ u = v ∧ k ≤ xs.length ∧ Hid (pK xs vm k = some ps) ∧ wr.ownsRow w2.heap.size 63 4 u k (ptcs (ps.map qp)) ∧ Below w2.heap.size w2 wr) (fun _ i _ => xs.length - (intOf i).toNat)
    case atStart => exact ⟨0, _, [], rfl, rfl, by omega, hide rfl, World.ownsRow_nil _ _ _ _, Below.refl _ _⟩
    case round =>
      obtain ⟨k, u, ps, rfl, rfl, hk, HPK, hown, hbwr⟩ := hrel
      have hszr := hbwr.size
      by_cases hlt : k < xs.length
      · have hC := (unhide HF2).below hbwr
        have f0 := hC.at0 k hlt
        have f1 := hC.at1 k hlt
        have hgr := hC.lt
        rw [qAtR xs k hlt] at f0 f1
        simp only at f0 f1
        have hun := (unhide HU) _ (mem_iff_getD.2 ⟨k, hlt, rfl⟩)
        have hvx := (unhide HV) _ hun
        have hcx := fun W => isUnit_any_co (xs.getD k 0).num (xs.getD k 0).den W
        have hst : pK xs vm (k + 1) = (vm (xs.getD k 0)).bind fun y => if coD (xs.getD k 0) && coD y then some (ps ++ [(xs.getD k 0, y)]) else none := by simp only [pK]; rw [(unhide HPK)]; rfl
        have HST := Lib.hid hst
        have hvB : ∀ j, u.ownBlock = some j → w2.heap.size ≤ j := fun j e => (hown.lt j e).1
        have HO := hide hown; have HB := hide hbwr; have HVB := hide hvB
        have hbw : Below w.heap.size w wr := (unhide HW2).trans (hbwr.mono hsz2)
        clear hst hC hown hbwr hun hvB
        cases hv : vm (xs.getD k 0) with
        | none =>
          rw [hv] at hvx
          have HVX := hide hvx
          have HN := Lib.hid hv
          clear hvx hv hcx
          have HNO := Lib.hid (show pK xs vm xs.length = none from pK_none (k := k + 1) (by rw [HST.out, HN.out]; rfl) (xs.length - (k + 1)) (by omega))
          generalize (xs.getD k 0).num = xn at *
          generalize ((xs.getD k 0).den : Int) = xd at *
          go_wp2_with (first
            | (go_at_call 123; (with_reducible refine ((unhide HVX) _ ?pb).mono ?_); (case pb => exact (by repeat (first | with_reducible exact Below.refl _ _ | with_reducible assumption | (with_reducible refine Below.trans ?_ (Below.mono (by assumption) (by first | omega | (simp <;> omega)))) | with_reducible apply Below.drew | with_reducible apply below_drewN | (with_reducible refine Below.alloc ?_ (by first | omega | (simp <;> omega)) _) | (with_reducible refine Below.setCell ?_ (by first | omega | (simp <;> omega)) _)))); rintro e w3 ⟨rfl, hbw3⟩; have hsw3 := hbw3.size; (try simp at hsw3); (skip; (try ((have kw3wr0 := (bnew hbw3) (wr.heap.size) ?pf); (case pf => (first | omega | (simp; done) | (simp; omega))); obtain ⟨kcw3wr0, kfw3wr0, klw3wr0⟩ := kw3wr0)))))
          go_ret2
          exact ⟨⟨fun l h => (by rw [HNO.out] at h; cases h), fun _ => rfl⟩, (by repeat (first | with_reducible exact Below.refl _ _ | with_reducible assumption | (with_reducible refine Below.trans ?_ (Below.mono (by assumption) (by first | omega | (simp <;> omega)))) | with_reducible apply Below.drew | with_reducible apply below_drewN | (with_reducible refine Below.alloc ?_ (by first | omega | (simp <;> omega)) _) | (with_reducible refine Below.setCell ?_ (by first | omega | (simp <;> omega)) _)))⟩
        | some y =>
          rw [hv] at hvx
          have hcy := fun W => isUnit_any_co y.num y.den W
          have HVX := hide hvx
          have HN := Lib.hid hv
          clear hvx hv
          have ex : coB ((xs.getD k 0).num, ((xs.getD k 0).den : Int)) = coD (xs.getD k 0) := rfl
          have ey : coB (y.num, (y.den : Int)) = coD y := rfl
          rw [ex] at hcx
          rw [ey] at hcy
          clear ex ey
          cases h1 : coD (xs.getD k 0) with
          | false =>
            rw [h1] at hcx
            have HCX := hide hcx
            have HD := Lib.hid h1
            clear hcx hcy h1
            have HNO := Lib.hid (show pK xs vm xs.length = none from pK_none (k := k + 1) (by rw [HST.out, HN.out]; simp only [Option.bind_some, HD.out]; rfl) (xs.length - (k + 1)) (by omega))
            simp only [oN_some, oD_some, Option.isSome_some] at HVX
            generalize (xs.getD k 0).num = xn at *
            generalize ((xs.getD k 0).den : Int) = xd at *
            go_wp2_with (first
              | (go_at_call 123; (with_reducible refine ((unhide HVX) _ ?pb).mono ?_); (case pb => exact (by repeat (first | with_reducible exact Below.refl _ _ | with_reducible assumption | (with_reducible refine Below.trans ?_ (Below.mono (by assumption) (by first | omega | (simp <;> omega)))) | with_reducible apply Below.drew | with_reducible apply below_drewN | (with_reducible refine Below.alloc ?_ (by first | omega | (simp <;> omega)) _) | (with_reducible refine Below.setCell ?_ (by first | omega | (simp <;> omega)) _)))); rintro e w3 ⟨rfl, hbw3⟩; have hsw3 := hbw3.size; (try simp at hsw3); (skip; (try ((have kw3wr0 := (bnew hbw3) (wr.heap.size) ?pf); (case pf => (first | omega | (simp; done) | (simp; omega))); obtain ⟨kcw3wr0, kfw3wr0, klw3wr0⟩ := kw3wr0))))
              | (go_at_call 88; (with_reducible refine ((unhide HCX) _).mono ?_); rintro e w4 ⟨rfl, hbw4⟩; have hsw4 := hbw4.size; (try simp at hsw4); (skip; (try ((have kw4wr0 := (bnew hbw4) (wr.heap.size) ?pf); (case pf => (first | omega | (simp; done) | (simp; omega))); obtain ⟨kcw4wr0, kfw4wr0, klw4wr0⟩ := kw4wr0)); (try ((have kw4w30 := (bnew hbw4) (w3.heap.size) ?pf); (case pf => (first | omega | (simp; done) | (simp; omega))); obtain ⟨kcw4w30, kfw4w30, klw4w30⟩ := kw4w30)))))
            go_ret2
            exact ⟨⟨fun l h => (by rw [HNO.out] at h; cases h), fun _ => rfl⟩, (by repeat (first | with_reducible exact Below.refl _ _ | with_reducible assumption | (with_reducible refine Below.trans ?_ (Below.mono (by assumption) (by first | omega | (simp <;> omega)))) | with_reducible apply Below.drew | with_reducible apply below_drewN | (with_reducible refine Below.alloc ?_ (by first | omega | (simp <;> omega)) _) | (with_reducible refine Below.setCell ?_ (by first | omega | (simp <;> omega)) _)))⟩
          | true =>
            rw [h1] at hcx
            have HCX := hide hcx
            have HD := Lib.hid h1
            clear hcx h1
            cases h2 : coD y with
            | false =>
              rw [h2] at hcy
              have HCY := hide hcy
              have HE := Lib.hid h2
              clear hcy h2
              have HNO := Lib.hid (show pK xs vm xs.length = none from pK_none (k := k + 1) (by rw [HST.out, HN.out]; simp only [Option.bind_some, HD.out, HE.out]; rfl) (xs.length - (k + 1)) (by omega))
              simp only [oN_some, oD_some, Option.isSome_some] at HVX
              generalize (xs.getD k 0).num = xn at *
              generalize ((xs.getD k 0).den : Int) = xd at *
              go_wp2_with (first
                | (go_at_call 123; (with_reducible refine ((unhide HVX) _ ?pb).mono ?_); (case pb => exact (by repeat (first | with_reducible exact Below.refl _ _ | with_reducible assumption | (with_reducible refine Below.trans ?_ (Below.mono (by assumption) (by first | omega | (simp <;> omega)))) | with_reducible apply Below.drew | with_reducible apply below_drewN | (with_reducible refine Below.alloc ?_ (by first | omega | (simp <;> omega)) _) | (with_reducible refine Below.setCell ?_ (by first | omega | (simp <;> omega)) _)))); rintro e w3 ⟨rfl, hbw3⟩; have hsw3 := hbw3.size; (try simp at hsw3); (skip; (try ((have kw3wr0 := (bnew hbw3) (wr.heap.size) ?pf); (case pf => (first | omega | (simp; done) | (simp; omega))); obtain ⟨kcw3wr0, kfw3wr0, klw3wr0⟩ := kw3wr0))))
                | (go_at_call 88; (with_reducible refine ((unhide HCX) _).mono ?_); rintro e w4 ⟨rfl, hbw4⟩; have hsw4 := hbw4.size; (try simp at hsw4); (skip; (try ((have kw4wr0 := (bnew hbw4) (wr.heap.size) ?pf); (case pf => (first | omega | (simp; done) | (simp; omega))); obtain ⟨kcw4wr0, kfw4wr0, klw4wr0⟩ := kw4wr0)); (try ((have kw4w30 := (bnew hbw4) (w3.heap.size) ?pf); (case pf => (first | omega | (simp; done) | (simp; omega))); obtain ⟨kcw4w30, kfw4w30, klw4w30⟩ := kw4w30))))
                | (go_at_call 88; (with_reducible refine ((unhide HCY) _).mono ?_); rintro e w5 ⟨rfl, hbw5⟩; have hsw5 := hbw5.size; (try simp at hsw5); (skip; (try ((have kw5wr0 := (bnew hbw5) (wr.heap.size) ?pf); (case pf => (first | omega | (simp; done) | (simp; omega))); obtain ⟨kcw5wr0, kfw5wr0, klw5wr0⟩ := kw5wr0)); (try ((have kw5w30 := (bnew hbw5) (w3.heap.size) ?pf); (case pf => (first | omega | (simp; done) | (simp; omega))); obtain ⟨kcw5w30, kfw5w30, klw5w30⟩ := kw5w30)))))
              go_ret2
              exact ⟨⟨fun l h => (by rw [HNO.out] at h; cases h), fun _ => rfl⟩, (by repeat (first | with_reducible exact Below.refl _ _ | with_reducible assumption | (with_reducible refine Below.trans ?_ (Below.mono (by assumption) (by first | omega | (simp <;> omega)))) | with_reducible apply Below.drew | with_reducible apply below_drewN | (with_reducible refine Below.alloc ?_ (by first | omega | (simp <;> omega)) _) | (with_reducible refine Below.setCell ?_ (by first | omega | (simp <;> omega)) _)))⟩
            | true =>
              rw [h2] at hcy
              have HCY := hide hcy
              have HK1 := hide (show pK xs vm (k + 1) = some (ps ++ [(xs.getD k 0, y)]) by rw [HST.out, HN.out]; simp only [Option.bind_some, HD.out, h2]; rfl)
              have HPT := Lib.hid (ptq_sn ps (xs.getD k 0) y)
              clear hcy h2 HST
              obtain ⟨X, hX⟩ : ∃ X, X = xs.getD k 0 := ⟨_, rfl⟩
              rw [← hX] at f0 f1 HVX HCX HK1 HPT
              clear HN HD hX
              obtain ⟨xn, hxn⟩ : ∃ r, r = X.num := ⟨_, rfl⟩
              obtain ⟨xd, hxd⟩ : ∃ r, r = (X.den : Int) := ⟨_, rfl⟩
              obtain ⟨yn, hyn⟩ : ∃ r, r = y.num := ⟨_, rfl⟩
              obtain ⟨yd, hyd⟩ : ∃ r, r = (y.den : Int) := ⟨_, rfl⟩
              rw [← hxn] at f0 HVX HCX HPT
              rw [← hxd] at f1 HVX HCX HPT
              rw [← hyn, ← hyd] at HCY HPT
              simp only [oN_some, oD_some, Option.isSome_some] at HVX
              rw [← hyn, ← hyd] at HVX
              clear hxn hxd hyn hyd
              go_wp2_with (first
                | (go_at_call 123; (with_reducible refine ((unhide HVX) _ ?pb).mono ?_); (case pb => exact (by repeat (first | with_reducible exact Below.refl _ _ | with_reducible assumption | (with_reducible refine Below.trans ?_ (Below.mono (by assumption) (by first | omega | (simp <;> omega)))) | with_reducible apply Below.drew | with_reducible apply below_drewN | (with_reducible refine Below.alloc ?_ (by first | omega | (simp <;> omega)) _) | (with_reducible refine Below.setCell ?_ (by first | omega | (simp <;> omega)) _)))); rintro e w3 ⟨rfl, hbw3⟩; have hsw3 := hbw3.size; (try simp at hsw3); (skip; (try ((have kw3wr0 := (bnew hbw3) (wr.heap.size) ?pf); (case pf => (first | omega | (simp; done) | (simp; omega))); obtain ⟨kcw3wr0, kfw3wr0, klw3wr0⟩ := kw3wr0))))
                | (go_at_call 88; (with_reducible refine ((unhide HCX) _).mono ?_); rintro e w4 ⟨rfl, hbw4⟩; have hsw4 := hbw4.size; (try simp at hsw4); (skip; (try ((have kw4wr0 := (bnew hbw4) (wr.heap.size) ?pf); (case pf => (first | omega | (simp; done) | (simp; omega))); obtain ⟨kcw4wr0, kfw4wr0, klw4wr0⟩ := kw4wr0)); (try ((have kw4w30 := (bnew hbw4) (w3.heap.size) ?pf); (case pf => (first | omega | (simp; done) | (simp; omega))); obtain ⟨kcw4w30, kfw4w30, klw4w30⟩ := kw4w30))))
                | (go_at_call 88; (with_reducible refine ((unhide HCY) _).mono ?_); rintro e w5 ⟨rfl, hbw5⟩; have hsw5 := hbw5.size; (try simp at hsw5); (skip; (try ((have kw5wr0 := (bnew hbw5) (wr.heap.size) ?pf); (case pf => (first | omega | (simp; done) | (simp; omega))); obtain ⟨kcw5wr0, kfw5wr0, klw5wr0⟩ := kw5wr0)); (try ((have kw5w30 := (bnew hbw5) (w3.heap.size) ?pf); (case pf => (first | omega | (simp; done) | (simp; omega))); obtain ⟨kcw5w30, kfw5w30, klw5w30⟩ := kw5w30))))
                | (at_builtin; refine wpl_append rfl _ _ _ rfl w2.heap.size 63 i0 _ 4 32 Tryz.underlying24 hi0 hz0 hz1 hz2 rfl (by omega) u k _ rfl (own_below (unhide HO) (show Below wr.heap.size wr _ from (by repeat (first | with_reducible exact Below.refl _ _ | with_reducible assumption | (with_reducible refine Below.trans ?_ (Below.mono (by assumption) (by first | omega | (simp <;> omega)))) | with_reducible apply Below.drew | with_reducible apply below_drewN | (with_reducible refine Below.alloc ?_ (by first | omega | (simp <;> omega)) _) | (with_reducible refine Below.setCell ?_ (by first | omega | (simp <;> omega)) _))))) _ 1 [.int .i64 xn, .int .i64 xd, .int .i64 yn, .int .i64 yd] rfl (lies4 (by simp [go_sem, *]) (by simp [go_sem, *]) (by simp [go_sem, *]) (by simp [go_sem, *])) rfl (by simp [Value.oneCell']) (Nat.le_trans (by omega) maxLen_ge) (by omega) (by first | omega | (simp <;> omega)) (k + 1) rfl ?_; intro A6 c6 w6 hown6 hgrow6))
              have hb := unhide HB
              have hbz : Below w2.heap.size w2 w6 := Below.grown (show Below w2.heap.size w2 _ from (by repeat (first | with_reducible exact Below.refl _ _ | with_reducible assumption | (with_reducible refine Below.trans ?_ (Below.mono (by assumption) (by first | omega | (simp <;> omega)))) | with_reducible apply Below.drew | with_reducible apply below_drewN | (with_reducible refine Below.alloc ?_ (by first | omega | (simp <;> omega)) _) | (with_reducible refine Below.setCell ?_ (by first | omega | (simp <;> omega)) _)))) hgrow6 (by first | omega | (simp <;> omega)) (unhide HVB)
              rw [HPT.out] at hown6
              have HO6 := hide hown6
              have HBZ := hide hbz
              clear hown6 hgrow6 hb hbz
              go_wp2_with fail
              go_roundw
              case rel => exact ⟨k + 1, _, _, by go_num, rfl, by omega, HK1, unhide HO6, unhide HBZ⟩
              case measure => simp [intOf]; omega
      · obtain rfl : k = xs.length := by omega
        obtain ⟨A6, d6, rfl⟩ := own_slice hown
        have hpl := pK_len (unhide HPK)
        have HO := hide (hown.mono hsz2)
        have HB := hide ((unhide HW2).trans (hbwr.mono hsz2))
        have HL := Lib.hid hpl
        clear hown hbwr hpl
        go_wp2
        go_ret2
        refine ⟨⟨fun l h => ?_, fun h => ?_⟩, unhide HB⟩
        · rw [(unhide HPK)] at h
          injection h with h
          subst h
          exact ⟨A6, d6, by rw [HL.out] <;> rfl, by rw [HL.out]; exact unhide HO⟩
        · rw [(unhide HPK)] at h; cases h
set_option maxRecDepth 100000 in
set_option maxHeartbeats 3200000 in
theorem points_junction (v : Value) (po : Option (List Rat)) (vm : Rat → Option Rat) (w : World) (hp : ∀ l, po = some l → (∀ x ∈ l, Un x) ∧ 1 ≤ l.length ∧ l.length ≤ 1000)
    (HP : Hid (∀ W : World, Below w.heap.size w W → Calls Tryz.prog 207 #[v] W fun e w' => PlO W.heap.size po e w' ∧ Below W.heap.size W w'))
    (HV : Hid (∀ x, Un x → ∀ W : World, Below w.heap.size w W → Calls Tryz.prog 123 #[.iface 161 v, .agg #[.int .i64 (x.num), .int .i64 (x.den)]] W fun e w' => e = .returned (.tuple #[.agg #[.int .i64 (oN (vm x)), .int .i64 (oD (vm x))], .bool (vm x).isSome]) ∧ Below W.heap.size W w')) :
    Calls Tryz.prog 90 #[.iface 161 v] w fun e w' => PtO w.heap.size (pmO po vm) e w' ∧ Below w.heap.size w w' := by
  obtain ⟨i0, hi0, hz0, hz1, hz2⟩ := info_parts iPoint
  have hat := at_junction
  cases po with
  | none =>
    clear hp HV
    go_enter Tryz.func90, Tryz.ntmps90
    go_wp2_with (go_at_call 207; (with_reducible refine ((unhide HP) _ ?pb).mono ?_); (case pb => exact (by repeat (first | with_reducible exact Below.refl _ _ | with_reducible assumption | (with_reducible refine Below.trans ?_ (Below.mono (by assumption) (by first | omega | (simp <;> omega)))) | with_reducible apply Below.drew | with_reducible apply below_drewN | (with_reducible refine Below.alloc ?_ (by first | omega | (simp <;> omega)) _) | (with_reducible refine Below.setCell ?_ (by first | omega | (simp <;> omega)) _)))); rintro e w1 ⟨⟨_, h2⟩, hb1⟩; obtain rfl := h2 rfl; clear h2)
    have hz : Below w.heap.size w w1 := (by repeat (first | with_reducible exact Below.refl _ _ | with_reducible assumption | (with_reducible refine Below.trans ?_ (Below.mono (by assumption) (by first | omega | (simp <;> omega)))) | with_reducible apply Below.drew | with_reducible apply below_drewN | (with_reducible refine Below.alloc ?_ (by first | omega | (simp <;> omega)) _) | (with_reducible refine Below.setCell ?_ (by first | omega | (simp <;> omega)) _)))
    go_ret2
    exact ⟨⟨fun l h => (by cases h), fun _ => rfl⟩, hz⟩
  | some l =>
    obtain ⟨hun, hl1, hl2⟩ := hp l rfl
    have hsl := srt_len l
    have hsu : ∀ x ∈ srt l, Un x := fun x hx => hun x (srt_mem.1 hx)
    change Calls _ _ _ _ fun e w' => PtO w.heap.size (pK (srt l) vm (srt l).length) e w' ∧ _
    obtain ⟨xs, hxs⟩ : ∃ xs, xs = srt l := ⟨_, rfl⟩
    have hinc : ∀ (g d base : Nat) (W : World) (ho : W.ownsRow base 37 2 (.slice (some ⟨g, 0, none⟩) l.length d) l.length (frcs (l.map qf))), Calls Tryz.prog 122 #[.slice (some ⟨g, 0, none⟩) l.length d] W fun e w' => ∃ d : Nat, e = .returned (.slice (some ⟨g, 0, none⟩) xs.length d) ∧ FCells w' g xs.length (xs.map qf) ∧ W.grownBy w' (some g) := by
      intro g d base W ho
      rw [hxs]
      exact increasing_any g l.length d base l W ho (fun z hz => (hun z hz).fit) hl1 hl2
    rw [← hxs] at hsl hsu
    rw [← hxs]
    have HINC := hide hinc
    have HU := hide hsu
    clear hp hsu hun hinc hxs
    go_enter Tryz.func90, Tryz.ntmps90
    go_wp2_with (first
      | (go_at_call 207; (with_reducible refine ((unhide HP) _ ?pb).mono ?_); (case pb => exact (by repeat (first | with_reducible exact Below.refl _ _ | with_reducible assumption | (with_reducible refine Below.trans ?_ (Below.mono (by assumption) (by first | omega | (simp <;> omega)))) | with_reducible apply Below.drew | with_reducible apply below_drewN | (with_reducible refine Below.alloc ?_ (by first | omega | (simp <;> omega)) _) | (with_reducible refine Below.setCell ?_ (by first | omega | (simp <;> omega)) _)))); rintro e w1 ⟨⟨h1, _⟩, hbw1⟩; obtain ⟨A1, d1, rfl, ho1⟩ := h1 l rfl; clear h1; obtain ⟨g, rfl, hgB, hgl⟩ := own_some ho1 (by omega); have hsw1 := hbw1.size; have HO1 := hide ho1; clear ho1)
      | (go_at_call 122; (with_reducible refine ((unhide HINC) g d1 _ _ (own_below (unhide HO1) ?pb)).mono ?_); (case pb => exact (by repeat (first | with_reducible exact Below.refl _ _ | with_reducible assumption | (with_reducible refine Below.trans ?_ (Below.mono (by assumption) (by first | omega | (simp <;> omega)))) | with_reducible apply Below.drew | with_reducible apply below_drewN | (with_reducible refine Below.alloc ?_ (by first | omega | (simp <;> omega)) _) | (with_reducible refine Below.setCell ?_ (by first | omega | (simp <;> omega)) _)))); rintro e w2 ⟨d2, rfl, hF2, hg2⟩; have hsw2 := hg2.size))
    have hw2 : Below w.heap.size w w2 := (show Below w.heap.size w w1 from (by repeat (first | with_reducible exact Below.refl _ _ | with_reducible assumption | (with_reducible refine Below.trans ?_ (Below.mono (by assumption) (by first | omega | (simp <;> omega)))) | with_reducible apply Below.drew | with_reducible apply below_drewN | (with_reducible refine Below.alloc ?_ (by first | omega | (simp <;> omega)) _) | (with_reducible refine Below.setCell ?_ (by first | omega | (simp <;> omega)) _)))).grown hg2 hsw1 (fun k e => by have := Option.some.inj e; omega)
    have hgl2 := hF2.lt
    have HF2 := hide hF2; have HW2 := hide hw2
    have hsz2 := hw2.size
    clear hF2 hg2 hw2 hbw1 HP HINC HO1
    go_loopw [6, 21] (fun v i wr => ∃ (k : Nat) (u : Value) (ps : List QP), i = .int .i64 k ∧ u = v ∧ k ≤ xs.length ∧ Hid (pK xs vm k = some ps) ∧ wr.ownsRow w2.heap.size 63 4 u k (ptcs (ps.map qp)) ∧ Below w2.heap.size w2 wr) (fun _ i _ => xs.length - (intOf i).toNat)
    case atStart => exact ⟨0, _, [], rfl, rfl, by omega, hide rfl, World.ownsRow_nil _ _ _ _, Below.refl _ _⟩
    case round =>
      obtain ⟨k, u, ps, rfl, rfl, hk, HPK, hown, hbwr⟩ := hrel
      have hszr := hbwr.size
      by_cases hlt : k < xs.length
      · have hC := (unhide HF2).below hbwr
        have f0 := hC.at0 k hlt
        have f1 := hC.at1 k hlt
        have hgr := hC.lt
        rw [qAtR xs k hlt] at f0 f1
        simp only at f0 f1
        have hun := (unhide HU) _ (mem_iff_getD.2 ⟨k, hlt, rfl⟩)
        have hvx := (unhide HV) _ hun
        have hcx := fun W => isUnit_any_co (xs.getD k 0).num (xs.getD k 0).den W
        have hst : pK xs vm (k + 1) = (vm (xs.getD k 0)).bind fun y => if coD (xs.getD k 0) && coD y then some (ps ++ [(xs.getD k 0, y)]) else none := by simp only [pK]; rw [(unhide HPK)]; rfl
        have HST := Lib.hid hst
        have hvB : ∀ j, u.ownBlock = some j → w2.heap.size ≤ j := fun j e => (hown.lt j e).1
        have HO := hide hown; have HB := hide hbwr; have HVB := hide hvB
        have hbw : Below w.heap.size w wr := (unhide HW2).trans (hbwr.mono hsz2)
        clear hst hC hown hbwr hun hvB
        cases hv : vm (xs.getD k 0) with
        | none =>
          rw [hv] at hvx
          have HVX := hide hvx
          have HN := Lib.hid hv
          clear hvx hv hcx
          have HNO := Lib.hid (show pK xs vm xs.length = none from pK_none (k := k + 1) (by rw [HST.out, HN.out]; rfl) (xs.length - (k + 1)) (by omega))
          generalize (xs.getD k 0).num = xn at *
          generalize ((xs.getD k 0).den : Int) = xd at *
          go_wp2_with (first
            | (go_at_call 123; (with_reducible refine ((unhide HVX) _ ?pb).mono ?_); (case pb => exact (by repeat (first | with_reducible exact Below.refl _ _ | with_reducible assumption | (with_reducible refine Below.trans ?_ (Below.mono (by assumption) (by first | omega | (simp <;> omega)))) | with_reducible apply Below.drew | with_reducible apply below_drewN | (with_reducible refine Below.alloc ?_ (by first | omega | (simp <;> omega)) _) | (with_reducible refine Below.setCell ?_ (by first | omega | (simp <;> omega)) _)))); rintro e w3 ⟨rfl, hbw3⟩; have hsw3 := hbw3.size; (try simp at hsw3); (skip; (try ((have kw3wr0 := (bnew hbw3) (wr.heap.size) ?pf); (case pf => (first | omega | (simp; done) | (simp; omega))); obtain ⟨kcw3wr0, kfw3wr0, klw3wr0⟩ := kw3wr0)))))
          go_ret2
          exact ⟨⟨fun l h => (by rw [HNO.out] at h; cases h), fun _ => rfl⟩, (by repeat (first | with_reducible exact Below.refl _ _ | with_reducible assumption | (with_reducible refine Below.trans ?_ (Below.mono (by assumption) (by first | omega | (simp <;> omega)))) | with_reducible apply Below.drew | with_reducible apply below_drewN | (with_reducible refine Below.alloc ?_ (by first | omega | (simp <;> omega)) _) | (with_reducible refine Below.setCell ?_ (by first | omega | (simp <;> omega)) _)))⟩
        | some y =>
          rw [hv] at hvx
          have hcy := fun W => isUnit_any_co y.num y.den W
          have HVX := hide hvx
          have HN := Lib.hid hv
          clear hvx hv
          have ex : coB ((xs.getD k 0).num, ((xs.getD k 0).den : Int)) = coD (xs.getD k 0) := rfl
          have ey : coB (y.num, (y.den : Int)) = coD y := rfl
          rw [ex] at hcx
          rw [ey] at hcy
          clear ex ey
          cases h1 : coD (xs.getD k 0) with
          | false =>
            rw [h1] at hcx
            have HCX := hide hcx
            have HD := Lib.hid h1
            clear hcx hcy h1
            have HNO := Lib.hid (show pK xs vm xs.length = none from pK_none (k := k + 1) (by rw [HST.out, HN.out]; simp only [Option.bind_some, HD.out]; rfl) (xs.length - (k + 1)) (by omega))
            simp only [oN_some, oD_some, Option.isSome_some] at HVX
            generalize (xs.getD k 0).num = xn at *
            generalize ((xs.getD k 0).den : Int) = xd at *
            go_wp2_with (first
              | (go_at_call 123; (with_reducible refine ((unhide HVX) _ ?pb).mono ?_); (case pb => exact (by repeat (first | with_reducible exact Below.refl _ _ | with_reducible assumption | (with_reducible refine Below.trans ?_ (Below.mono (by assumption) (by first | omega | (simp <;> omega)))) | with_reducible apply Below.drew | with_reducible apply below_drewN | (with_reducible refine Below.alloc ?_ (by first | omega | (simp <;> omega)) _) | (with_reducible refine Below.setCell ?_ (by first | omega | (simp <;> omega)) _)))); rintro e w3 ⟨rfl, hbw3⟩; have hsw3 := hbw3.size; (try simp at hsw3); (skip; (try ((have kw3wr0 := (bnew hbw3) (wr.heap.size) ?pf); (case pf => (first | omega | (simp; done) | (simp; omega))); obtain ⟨kcw3wr0, kfw3wr0, klw3wr0⟩ := kw3wr0))))
              | (go_at_call 88; (with_reducible refine ((unhide HCX) _).mono ?_); rintro e w4 ⟨rfl, hbw4⟩; have hsw4 := hbw4.size; (try simp at hsw4); (skip; (try ((have kw4wr0 := (bnew hbw4) (wr.heap.size) ?pf); (case pf => (first | omega | (simp; done) | (simp; omega))); obtain ⟨kcw4wr0, kfw4wr0, klw4wr0⟩ := kw4wr0)); (try ((have kw4w30 := (bnew hbw4) (w3.heap.size) ?pf); (case pf => (first | omega | (simp; done) | (simp; omega))); obtain ⟨kcw4w30, kfw4w30, klw4w30⟩ := kw4w30)))))
            go_ret2
            exact ⟨⟨fun l h => (by rw [HNO.out] at h; cases h), fun _ => rfl⟩, (by repeat (first | with_reducible exact Below.refl _ _ | with_reducible assumption | (with_reducible refine Below.trans ?_ (Below.mono (by assumption) (by first | omega | (simp <;> omega)))) | with_reducible apply Below.drew | with_reducible apply below_drewN | (with_reducible refine Below.alloc ?_ (by first | omega | (simp <;> omega)) _) | (with_reducible refine Below.setCell ?_ (by first | omega | (simp <;> omega)) _)))⟩
          | true =>
            rw [h1] at hcx
            have HCX := hide hcx
            have HD := Lib.hid h1
            clear hcx h1
            cases h2 : coD y with
            | false =>
              rw [h2] at hcy
              have HCY := hide hcy
              have HE := Lib.hid h2
              clear hcy h2
              have HNO := Lib.hid (show pK xs vm xs.length = none from pK_none (k := k + 1) (by rw [HST.out, HN.out]; simp only [Option.bind_some, HD.out, HE.out]; rfl) (xs.length - (k + 1)) (by omega))
              simp only [oN_some, oD_some, Option.isSome_some] at HVX
              generalize (xs.getD k 0).num = xn at *
              generalize ((xs.getD k 0).den : Int) = xd at *
              go_wp2_with (first
                | (go_at_call 123; (with_reducible refine ((unhide HVX) _ ?pb).mono ?_); (case pb => exact (by repeat (first | with_reducible exact Below.refl _ _ | with_reducible assumption | (with_reducible refine Below.trans ?_ (Below.mono (by assumption) (by first | omega | (simp <;> omega)))) | with_reducible apply Below.drew | with_reducible apply below_drewN | (with_reducible refine Below.alloc ?_ (by first | omega | (simp <;> omega)) _) | (with_reducible refine Below.setCell ?_ (by first | omega | (simp <;> omega)) _)))); rintro e w3 ⟨rfl, hbw3⟩; have hsw3 := hbw3.size; (try simp at hsw3); (skip; (try ((have kw3wr0 := (bnew hbw3) (wr.heap.size) ?pf); (case pf => (first | omega | (simp; done) | (simp; omega))); obtain ⟨kcw3wr0, kfw3wr0, klw3wr0⟩ := kw3wr0))))
                | (go_at_call 88; (with_reducible refine ((unhide HCX) _).mono ?_); rintro e w4 ⟨rfl, hbw4⟩; have hsw4 := hbw4.size; (try simp at hsw4); (skip; (try ((have kw4wr0 := (bnew hbw4) (wr.heap.size) ?pf); (case pf => (first | omega | (simp; done) | (simp; omega))); obtain ⟨kcw4wr0, kfw4wr0, klw4wr0⟩ := kw4wr0)); (try ((have kw4w30 := (bnew hbw4) (w3.heap.size) ?pf); (case pf => (first | omega | (simp; done) | (simp; omega))); obtain ⟨kcw4w30, kfw4w30, klw4w30⟩ := kw4w30))))
                | (go_at_call 88; (with_reducible refine ((unhide HCY) _).mono ?_); rintro e w5 ⟨rfl, hbw5⟩; have hsw5 := hbw5.size; (try simp at hsw5); (skip; (try ((have kw5wr0 := (bnew hbw5) (wr.heap.size) ?pf); (case pf => (first | omega | (simp; done) | (simp; omega))); obtain ⟨kcw5wr0, kfw5wr0, klw5wr0⟩ := kw5wr0)); (try ((have kw5w30 := (bnew hbw5) (w3.heap.size) ?pf); (case pf => (first | omega | (simp; done) | (simp; omega))); obtain ⟨kcw5w30, kfw5w30, klw5w30⟩ := kw5w30)))))
              go_ret2
              exact ⟨⟨fun l h => (by rw [HNO.out] at h; cases h), fun _ => rfl⟩, (by repeat (first | with_reducible exact Below.refl _ _ | with_reducible assumption | (with_reducible refine Below.trans ?_ (Below.mono (by assumption) (by first | omega | (simp <;> omega)))) | with_reducible apply Below.drew | with_reducible apply below_drewN | (with_reducible refine Below.alloc ?_ (by first | omega | (simp <;> omega)) _) | (with_reducible refine Below.setCell ?_ (by first | omega | (simp <;> omega)) _)))⟩
            | true =>
              rw [h2] at hcy
              have HCY := hide hcy
              have HK1 := hide (show pK xs vm (k + 1) = some (ps ++ [(xs.getD k 0, y)]) by rw [HST.out, HN.out]; simp only [Option.bind_some, HD.out, h2]; rfl)
              have HPT := Lib.hid (ptq_sn ps (xs.getD k 0) y)
              clear hcy h2 HST
              obtain ⟨X, hX⟩ : ∃ X, X = xs.getD k 0 := ⟨_, rfl⟩
              rw [← hX] at f0 f1 HVX HCX HK1 HPT
              clear HN HD hX
              obtain ⟨xn, hxn⟩ : ∃ r, r = X.num := ⟨_, rfl⟩
              obtain ⟨xd, hxd⟩ : ∃ r, r = (X.den : Int) := ⟨_, rfl⟩
              obtain ⟨yn, hyn⟩ : ∃ r, r = y.num := ⟨_, rfl⟩
              obtain ⟨yd, hyd⟩ : ∃ r, r = (y.den : Int) := ⟨_, rfl⟩
              rw [← hxn] at f0 HVX HCX HPT
              rw [← hxd] at f1 HVX HCX HPT
              rw [← hyn, ← hyd] at HCY HPT
              simp only [oN_some, oD_some, Option.isSome_some] at HVX
              rw [← hyn, ← hyd] at HVX
              clear hxn hxd hyn hyd
              go_wp2_with (first
                | (go_at_call 123; (with_reducible refine ((unhide HVX) _ ?pb).mono ?_); (case pb => exact (by repeat (first | with_reducible exact Below.refl _ _ | with_reducible assumption | (with_reducible refine Below.trans ?_ (Below.mono (by assumption) (by first | omega | (simp <;> omega)))) | with_reducible apply Below.drew | with_reducible apply below_drewN | (with_reducible refine Below.alloc ?_ (by first | omega | (simp <;> omega)) _) | (with_reducible refine Below.setCell ?_ (by first | omega | (simp <;> omega)) _)))); rintro e w3 ⟨rfl, hbw3⟩; have hsw3 := hbw3.size; (try simp at hsw3); (skip; (try ((have kw3wr0 := (bnew hbw3) (wr.heap.size) ?pf); (case pf => (first | omega | (simp; done) | (simp; omega))); obtain ⟨kcw3wr0, kfw3wr0, klw3wr0⟩ := kw3wr0))))
                | (go_at_call 88; (with_reducible refine ((unhide HCX) _).mono ?_); rintro e w4 ⟨rfl, hbw4⟩; have hsw4 := hbw4.size; (try simp at hsw4); (skip; (try ((have kw4wr0 := (bnew hbw4) (wr.heap.size) ?pf); (case pf => (first | omega | (simp; done) | (simp; omega))); obtain ⟨kcw4wr0, kfw4wr0, klw4wr0⟩ := kw4wr0)); (try ((have kw4w30 := (bnew hbw4) (w3.heap.size) ?pf); (case pf => (first | omega | (simp; done) | (simp; omega))); obtain ⟨kcw4w30, kfw4w30, klw4w30⟩ := kw4w30))))
                | (go_at_call 88; (with_reducible refine ((unhide HCY) _).mono ?_); rintro e w5 ⟨rfl, hbw5⟩; have hsw5 := hbw5.size; (try simp at hsw5); (skip; (try ((have kw5wr0 := (bnew hbw5) (wr.heap.size) ?pf); (case pf => (first | omega | (simp; done) | (simp; omega))); obtain ⟨kcw5wr0, kfw5wr0, klw5wr0⟩ := kw5wr0)); (try ((have kw5w30 := (bnew hbw5) (w3.heap.size) ?pf); (case pf => (first | omega | (simp; done) | (simp; omega))); obtain ⟨kcw5w30, kfw5w30, klw5w30⟩ := kw5w30))))
                | (at_builtin; refine wpl_append rfl _ _ _ rfl w2.heap.size 63 i0 _ 4 32 Tryz.underlying24 hi0 hz0 hz1 hz2 rfl (by omega) u k _ rfl (own_below (unhide HO) (show Below wr.heap.size wr _ from (by repeat (first | with_reducible exact Below.refl _ _ | with_reducible assumption | (with_reducible refine Below.trans ?_ (Below.mono (by assumption) (by first | omega | (simp <;> omega)))) | with_reducible apply Below.drew | with_reducible apply below_drewN | (with_reducible refine Below.alloc ?_ (by first | omega | (simp <;> omega)) _) | (with_reducible refine Below.setCell ?_ (by first | omega | (simp <;> omega)) _))))) _ 1 [.int .i64 xn, .int .i64 xd, .int .i64 yn, .int .i64 yd] rfl (lies4 (by simp [go_sem, *]) (by simp [go_sem, *]) (by simp [go_sem, *]) (by simp [go_sem, *])) rfl (by simp [Value.oneCell']) (Nat.le_trans (by omega) maxLen_ge) (by omega) (by first | omega | (simp <;> omega)) (k + 1) rfl ?_; intro A6 c6 w6 hown6 hgrow6))
              have hb := unhide HB
              have hbz : Below w2.heap.size w2 w6 := Below.grown (show Below w2.heap.size w2 _ from (by repeat (first | with_reducible exact Below.refl _ _ | with_reducible assumption | (with_reducible refine Below.trans ?_ (Below.mono (by assumption) (by first | omega | (simp <;> omega)))) | with_reducible apply Below.drew | with_reducible apply below_drewN | (with_reducible refine Below.alloc ?_ (by first | omega | (simp <;> omega)) _) | (with_reducible refine Below.setCell ?_ (by first | omega | (simp <;> omega)) _)))) hgrow6 (by first | omega | (simp <;> omega)) (unhide HVB)
              rw [HPT.out] at hown6
              have HO6 := hide hown6
              have HBZ := hide hbz
              clear hown6 hgrow6 hb hbz
              go_wp2_with fail
              go_roundw
              case rel => exact ⟨k + 1, _, _, by go_num, rfl, by omega, HK1, unhide HO6, unhide HBZ⟩
              case measure => simp [intOf]; omega
      · obtain rfl : k = xs.length := by omega
        obtain ⟨A6, d6, rfl⟩ := own_slice hown
        have hpl := pK_len (unhide HPK)
        have HO := hide (hown.mono hsz2)
        have HB := hide ((unhide HW2).trans (hbwr.mono hsz2))
        have HL := Lib.hid hpl
        clear hown hbwr hpl
        go_wp2
        go_ret2
        refine ⟨⟨fun l h => ?_, fun h => ?_⟩, unhide HB⟩
        · rw [(unhide HPK)] at h
          injection h with h
          subst h
          exact ⟨A6, d6, by rw [HL.out] <;> rfl, by rw [HL.out]; exact unhide HO⟩
        · rw [(unhide HPK)] at h; cases h
end Go.Proofs.YtjggjegjhcpjhaaGreat

/-
  IsEnvironment of the program.
-/
import Derived.Test.YtafcdlojlfnjbaaDoorHc
import Derived.Test.YtafcdlojlfnjbaaDoorHe
namespace Go.Proofs.YtafcdlojlfnjbaaDoor
open Go.RowKit Rm

/-- Element k of an environment: a name, a map, and the name comes behind the one before. -/
def envK (l : List (ByteArray × List Pt)) (k : Nat) : Bool :=
  match l[k]? with
  | none => true
  | some x => nameB x.1 && (mapB x.2 && (match k with
    | 0 => true
    | j + 1 => match l[j]? with
      | none => true
      | some p => Op.bytesLess p.1.toList x.1.toList))
def envB (l : List (ByteArray × List Pt)) : Bool := decide (l.length ≤ 8) && (List.range l.length).all (envK l)
theorem envB_bad {l : List (ByteArray × List Pt)} {k : Nat} (hk : k < l.length) (h : envK l k = false) : envB l = false := by
  unfold envB
  rw [show (List.range l.length).all (envK l) = false from List.all_eq_false.2 ⟨k, List.mem_range.2 hk, by rw [h]; decide⟩, Bool.and_false]
theorem envB_good {l : List (ByteArray × List Pt)} (h : ∀ k, k < l.length → envK l k = true) : envB l = decide (l.length ≤ 8) := by
  unfold envB
  rw [show (List.range l.length).all (envK l) = true from List.all_eq_true.2 (fun k hk => h k (List.mem_range.1 hk)), Bool.and_true]
theorem envB_long {l : List (ByteArray × List Pt)} (h : ¬ l.length ≤ 8) : envB l = false := by unfold envB; rw [decide_eq_false h, Bool.false_and]
theorem envK_name {l : List (ByteArray × List Pt)} {k : Nat} {x : ByteArray × List Pt} (hx : l[k]? = some x) (h : nameB x.1 = false) : envK l k = false := by
  unfold envK; rw [hx]; simp only [h, Bool.false_and]
theorem envK_map {l : List (ByteArray × List Pt)} {k : Nat} {x : ByteArray × List Pt} (hx : l[k]? = some x) (h : mapB x.2 = false) : envK l k = false := by
  unfold envK; rw [hx]; simp only [h, Bool.false_and, Bool.and_false]
theorem envK_zero {l : List (ByteArray × List Pt)} {x : ByteArray × List Pt} (hx : l[0]? = some x) (h1 : nameB x.1 = true) (h2 : mapB x.2 = true) : envK l 0 = true := by
  unfold envK; rw [hx]; simp only [h1, h2, Bool.and_self]
theorem envK_succ {l : List (ByteArray × List Pt)} {j : Nat} {p x : ByteArray × List Pt} (hx : l[j + 1]? = some x) (hp : l[j]? = some p) (h1 : nameB x.1 = true) (h2 : mapB x.2 = true) : envK l (j + 1) = Op.bytesLess p.1.toList x.1.toList := by
  unfold envK; rw [hx]; simp only [h1, h2, hp, Bool.true_and]

set_option maxRecDepth 100000 in
set_option maxHeartbeats 3200000 in
theorem iIsEnvironment_any (g n c B : Nat) (ys : List (ByteArray × Nat × List Pt)) (w : World) (ha : NestN w B (.slice (some ⟨g, 0, none⟩) n c) ys) (hl : ys.length = n) (hn : n ≤ 1048576) (hall : ∀ y ∈ ys, y.1.size ≤ 1048576 ∧ y.2.2.length ≤ 1048576) :
    Calls Tryd.prog 13 #[.slice (some ⟨g, 0, none⟩) n c] w fun e w' => e = .returned (.bool (envB (ys.map nmP))) ∧ Below w.heap.size w w' := by
  obtain ⟨z, hz⟩ : ∃ z, z = envB (ys.map nmP) := ⟨_, rfl⟩
  rw [← hz]
  have hll : (ys.map nmP).length = n := by rw [List.length_map]; exact hl
  by_cases h8 : n ≤ 8
  · have e8 : decide ((n : Int) > 8) = false := decide_eq_false (by omega)
    have HA := hide ha; have HALL := hide hall
    have HZ := Lib.hid hz; have HLL := Lib.hid hll; have HL := Lib.hid hl
    clear ha hall hz hll hl
    go_enter Tryd.func13, Tryd.ntmps13
    go_wp2_with fail
    go_loopw [10] (fun i wr => ∃ k : Nat, i = .int .i64 k ∧ k ≤ n ∧ Hid (∀ j, j < k → envK (ys.map nmP) j = true) ∧ Below w.heap.size w wr) (fun i _ => n - (intOf i).toNat)
    case atStart => exact ⟨0, rfl, by omega, hide (fun j h => by omega), Below.refl _ _⟩
    case round =>
      obtain ⟨k, rfl, hk, hok, hb⟩ := hrel
      have hzr := hb.size
      by_cases hlt : k < n
      · obtain ⟨y, hy⟩ : ∃ y, ys[k]? = some y := ⟨_, List.getElem?_eq_getElem (by rw [HL.out]; exact hlt)⟩
        obtain ⟨hg, _, h0, h1, ho⟩ := ((unhide HA).below hb).at hy
        obtain ⟨q1, q2⟩ := (unhide HALL) y (List.mem_iff_getElem?.2 ⟨k, hy⟩)
        have hx : (ys.map nmP)[k]? = some (nmP y) := by rw [List.getElem?_map, hy]; rfl
        obtain ⟨s, b, ps⟩ := y
        replace h0 : wr.cell? ⟨g, k * 2, none⟩ = some (.string s) := h0
        replace h1 : wr.cell? ⟨g, k * 2 + 1, none⟩ = some (.slice (some ⟨b, 0, none⟩) ps.length ps.length) := h1
        have hiN := fun W => isName_any s W q1
        have hiM := fun (W : World) (hW : Below wr.heap.size wr W) => isMap_any (some ⟨b, 0, none⟩) ps.length ps.length B ps W (own_below ho hW) q2
        have hbad : envK (ys.map nmP) k = false → z = false := fun h => HZ.out.trans (envB_bad (by rw [HLL.out]; exact hlt) h)
        have hb1 : nameB s = false → z = false := fun h => hbad (envK_name hx h)
        have hb2 : mapB ps = false → z = false := fun h => hbad (envK_map hx h)
        have hok2 : envK (ys.map nmP) k = true → ∀ j, j < k + 1 → envK (ys.map nmP) j = true := fun h j hj => by
          rcases Nat.lt_or_ge j k with h3 | h3
          · exact (unhide hok) j h3
          · obtain rfl : j = k := by omega
            exact h
        have HB := hide hb; have HIN := hide hiN; have HIM := hide hiM
        have HBAD := hide hbad; have HOK := hide hok2; have HX := hide hx; have HY := hide hy
        clear hb hiN hiM hbad ho hok hok2 hx
        rcases hnm : nameB s with _ | _
        · obtain rfl := hb1 hnm
          rw [hnm] at HIN
          clear hb1 hb2 hnm
          go_wp2_with (go_at_call 23; (with_reducible refine ((unhide HIN) _).mono ?_); rintro e w1 ⟨rfl, hbw1⟩; have hs1 := hbw1.size)
          have hb := unhide HB
          go_ret
          exact ⟨rfl, (by repeat (first | with_reducible exact Below.refl _ _ | with_reducible assumption | (with_reducible refine Below.trans ?_ (Below.mono (by assumption) (by first | omega | (simp <;> omega)))) | with_reducible apply Below.drew | with_reducible apply below_drewN | (with_reducible refine Below.alloc ?_ (by first | omega | (simp <;> omega)) _) | (with_reducible refine Below.setCell ?_ (by first | omega | (simp <;> omega)) _)))⟩
        · rcases hmp : mapB ps with _ | _
          · obtain rfl := hb2 hmp
            rw [hnm] at HIN
            rw [hmp] at HIM
            clear hb1 hb2 hnm hmp
            go_wp2_with (first
              | (go_at_call 23; (with_reducible refine ((unhide HIN) _).mono ?_); rintro e w1 ⟨rfl, hbw1⟩; have hs1 := hbw1.size; (try simp at hs1); (skip; (try ((have kw1wr0 := (bnew hbw1) (wr.heap.size) ?pf); (case pf => (first | omega | (simp; done) | (simp; omega))); obtain ⟨kcw1wr0, kfw1wr0, klw1wr0⟩ := kw1wr0))))
              | (go_at_call 24; (with_reducible refine ((unhide HIM) _ ?pb).mono ?_); (case pb => exact (by repeat (first | with_reducible exact Below.refl _ _ | with_reducible assumption | (with_reducible refine Below.trans ?_ (Below.mono (by assumption) (by first | omega | (simp <;> omega)))) | with_reducible apply Below.drew | with_reducible apply below_drewN | (with_reducible refine Below.alloc ?_ (by first | omega | (simp <;> omega)) _) | (with_reducible refine Below.setCell ?_ (by first | omega | (simp <;> omega)) _)))); rintro e w2 ⟨rfl, hbw2⟩; have hs2 := hbw2.size))
            have hb := unhide HB
            go_ret
            exact ⟨rfl, (by repeat (first | with_reducible exact Below.refl _ _ | with_reducible assumption | (with_reducible refine Below.trans ?_ (Below.mono (by assumption) (by first | omega | (simp <;> omega)))) | with_reducible apply Below.drew | with_reducible apply below_drewN | (with_reducible refine Below.alloc ?_ (by first | omega | (simp <;> omega)) _) | (with_reducible refine Below.setCell ?_ (by first | omega | (simp <;> omega)) _)))⟩
          · rw [hnm] at HIN
            rw [hmp] at HIM
            have hb := unhide HB
            rcases k with _ | j
            · have hn1 := hide ((unhide HOK) (envK_zero (unhide HX) hnm hmp))
              clear hb1 hb2 hnm hmp
              go_upto_region 8 with (first
                | (go_at_call 23; (with_reducible refine ((unhide HIN) _).mono ?_); rintro e w1 ⟨rfl, hbw1⟩; have hs1 := hbw1.size; (try simp at hs1); (skip; (try ((have kw1wr0 := (bnew hbw1) (wr.heap.size) ?pf); (case pf => (first | omega | (simp; done) | (simp; omega))); obtain ⟨kcw1wr0, kfw1wr0, klw1wr0⟩ := kw1wr0)); (try ((have kw1gX0 := (bnew hbw1) (g) ?pf); (case pf => (first | omega | (simp; done) | (simp; omega))); obtain ⟨kcw1gX0, kfw1gX0, klw1gX0⟩ := kw1gX0))))
                | (go_at_call 24; (with_reducible refine ((unhide HIM) _ ?pb).mono ?_); (case pb => exact (by repeat (first | with_reducible exact Below.refl _ _ | with_reducible assumption | (with_reducible refine Below.trans ?_ (Below.mono (by assumption) (by first | omega | (simp <;> omega)))) | with_reducible apply Below.drew | with_reducible apply below_drewN | (with_reducible refine Below.alloc ?_ (by first | omega | (simp <;> omega)) _) | (with_reducible refine Below.setCell ?_ (by first | omega | (simp <;> omega)) _)))); rintro e w2 ⟨rfl, hbw2⟩; have hs2 := hbw2.size; (try simp at hs2); (skip; (try ((have kw2wr0 := (bnew hbw2) (wr.heap.size) ?pf); (case pf => (first | omega | (simp; done) | (simp; omega))); obtain ⟨kcw2wr0, kfw2wr0, klw2wr0⟩ := kw2wr0)); (try ((have kw2gX0 := (bnew hbw2) (g) ?pf); (case pf => (first | omega | (simp; done) | (simp; omega))); obtain ⟨kcw2gX0, kfw2gX0, klw2gX0⟩ := kw2gX0)))))
              go_quiet (fail)
              go_wp2_with fail
              go_roundw
              case rel => exact ⟨1, by go_num, by omega, hn1, (by repeat (first | with_reducible exact Below.refl _ _ | with_reducible assumption | (with_reducible refine Below.trans ?_ (Below.mono (by assumption) (by first | omega | (simp <;> omega)))) | with_reducible apply Below.drew | with_reducible apply below_drewN | (with_reducible refine Below.alloc ?_ (by first | omega | (simp <;> omega)) _) | (with_reducible refine Below.setCell ?_ (by first | omega | (simp <;> omega)) _)))⟩
              case measure => simp [intOf]; omega
            · obtain ⟨p, hp⟩ : ∃ p, ys[j]? = some p := ⟨_, List.getElem?_eq_getElem (by rw [HL.out]; omega)⟩
              obtain ⟨_, _, hp0, _, _⟩ := ((unhide HA).below hb).at hp
              have hpx : (ys.map nmP)[j]? = some (nmP p) := by rw [List.getElem?_map, hp]; rfl
              have hes := envK_succ (unhide HX) hpx hnm hmp
              obtain ⟨s', b', ps'⟩ := p
              replace hes : envK (ys.map nmP) (j + 1) = Op.bytesLess s'.toList s.toList := hes
              replace hp0 : wr.cell? ⟨g, j * 2, none⟩ = some (.string s') := hp0
              have s1 : IntKind.i64.wrap (j : Int) = (j : Int) := IntWalk.i64_in _ (by omega)
              have s2 : (0 : Int) ≤ (j : Int) := by omega
              have s3 : (j : Int) < (n : Int) := by omega
              rcases hbl : Op.bytesLess s'.toList s.toList with _ | _
              · obtain rfl : z = false := (unhide HBAD) (hes.trans hbl)
                have e5 : (!(Op.bytesLess s'.toList s.toList)) = true := by rw [hbl]; rfl
                clear hb1 hb2 hnm hmp hp hpx hes
                go_upto_region 8 with (first
                  | (go_at_call 23; (with_reducible refine ((unhide HIN) _).mono ?_); rintro e w1 ⟨rfl, hbw1⟩; have hs1 := hbw1.size; (try simp at hs1); (skip; (try ((have kw1wr0 := (bnew hbw1) (wr.heap.size) ?pf); (case pf => (first | omega | (simp; done) | (simp; omega))); obtain ⟨kcw1wr0, kfw1wr0, klw1wr0⟩ := kw1wr0)); (try ((have kw1gX0 := (bnew hbw1) (g) ?pf); (case pf => (first | omega | (simp; done) | (simp; omega))); obtain ⟨kcw1gX0, kfw1gX0, klw1gX0⟩ := kw1gX0))))
                  | (go_at_call 24; (with_reducible refine ((unhide HIM) _ ?pb).mono ?_); (case pb => exact (by repeat (first | with_reducible exact Below.refl _ _ | with_reducible assumption | (with_reducible refine Below.trans ?_ (Below.mono (by assumption) (by first | omega | (simp <;> omega)))) | with_reducible apply Below.drew | with_reducible apply below_drewN | (with_reducible refine Below.alloc ?_ (by first | omega | (simp <;> omega)) _) | (with_reducible refine Below.setCell ?_ (by first | omega | (simp <;> omega)) _)))); rintro e w2 ⟨rfl, hbw2⟩; have hs2 := hbw2.size; (try simp at hs2); (skip; (try ((have kw2wr0 := (bnew hbw2) (wr.heap.size) ?pf); (case pf => (first | omega | (simp; done) | (simp; omega))); obtain ⟨kcw2wr0, kfw2wr0, klw2wr0⟩ := kw2wr0)); (try ((have kw2gX0 := (bnew hbw2) (g) ?pf); (case pf => (first | omega | (simp; done) | (simp; omega))); obtain ⟨kcw2gX0, kfw2gX0, klw2gX0⟩ := kw2gX0)))))
                go_cut [37] (fun s37 wx => s37 = .bool true ∧ Below w2.heap.size w2 wx)
                case first =>
                  go_region_held3 (fun w' => w'.cell? ⟨g, j * 2, none⟩ = some (.string s') ∧ w'.cell? ⟨wr.heap.size, 0, none⟩ = some (.string s)) (simp [go_sem, *])
                    (fail)
                  all_goals
                    go_wp2_with fail
                    go_meet
                    exact ⟨rfl, (by repeat (first | with_reducible exact Below.refl _ _ | with_reducible assumption | (with_reducible refine Below.trans ?_ (Below.mono (by assumption) (by first | omega | (simp <;> omega)))) | with_reducible apply Below.drew | with_reducible apply below_drewN | (with_reducible refine Below.alloc ?_ (by first | omega | (simp <;> omega)) _) | (with_reducible refine Below.setCell ?_ (by first | omega | (simp <;> omega)) _)))⟩
                case rest =>
                  obtain ⟨rfl, hbx⟩ := hcut
                  go_wp2_with fail
                  go_ret
                  exact ⟨rfl, (by repeat (first | with_reducible exact Below.refl _ _ | with_reducible assumption | (with_reducible refine Below.trans ?_ (Below.mono (by assumption) (by first | omega | (simp <;> omega)))) | with_reducible apply Below.drew | with_reducible apply below_drewN | (with_reducible refine Below.alloc ?_ (by first | omega | (simp <;> omega)) _) | (with_reducible refine Below.setCell ?_ (by first | omega | (simp <;> omega)) _)))⟩
              · have hn1 := hide ((unhide HOK) (hes.trans hbl))
                have e5 : (!(Op.bytesLess s'.toList s.toList)) = false := by rw [hbl]; rfl
                clear hb1 hb2 hnm hmp hp hpx hes
                go_upto_region 8 with (first
                  | (go_at_call 23; (with_reducible refine ((unhide HIN) _).mono ?_); rintro e w1 ⟨rfl, hbw1⟩; have hs1 := hbw1.size; (try simp at hs1); (skip; (try ((have kw1wr0 := (bnew hbw1) (wr.heap.size) ?pf); (case pf => (first | omega | (simp; done) | (simp; omega))); obtain ⟨kcw1wr0, kfw1wr0, klw1wr0⟩ := kw1wr0)); (try ((have kw1gX0 := (bnew hbw1) (g) ?pf); (case pf => (first | omega | (simp; done) | (simp; omega))); obtain ⟨kcw1gX0, kfw1gX0, klw1gX0⟩ := kw1gX0))))
                  | (go_at_call 24; (with_reducible refine ((unhide HIM) _ ?pb).mono ?_); (case pb => exact (by repeat (first | with_reducible exact Below.refl _ _ | with_reducible assumption | (with_reducible refine Below.trans ?_ (Below.mono (by assumption) (by first | omega | (simp <;> omega)))) | with_reducible apply Below.drew | with_reducible apply below_drewN | (with_reducible refine Below.alloc ?_ (by first | omega | (simp <;> omega)) _) | (with_reducible refine Below.setCell ?_ (by first | omega | (simp <;> omega)) _)))); rintro e w2 ⟨rfl, hbw2⟩; have hs2 := hbw2.size; (try simp at hs2); (skip; (try ((have kw2wr0 := (bnew hbw2) (wr.heap.size) ?pf); (case pf => (first | omega | (simp; done) | (simp; omega))); obtain ⟨kcw2wr0, kfw2wr0, klw2wr0⟩ := kw2wr0)); (try ((have kw2gX0 := (bnew hbw2) (g) ?pf); (case pf => (first | omega | (simp; done) | (simp; omega))); obtain ⟨kcw2gX0, kfw2gX0, klw2gX0⟩ := kw2gX0)))))
                go_cut [37] (fun s37 wx => s37 = .bool false ∧ Below w2.heap.size w2 wx)
                case first =>
                  go_region_held3 (fun w' => w'.cell? ⟨g, j * 2, none⟩ = some (.string s') ∧ w'.cell? ⟨wr.heap.size, 0, none⟩ = some (.string s)) (simp [go_sem, *])
                    (fail)
                  all_goals
                    go_wp2_with fail
                    go_meet
                    exact ⟨rfl, (by repeat (first | with_reducible exact Below.refl _ _ | with_reducible assumption | (with_reducible refine Below.trans ?_ (Below.mono (by assumption) (by first | omega | (simp <;> omega)))) | with_reducible apply Below.drew | with_reducible apply below_drewN | (with_reducible refine Below.alloc ?_ (by first | omega | (simp <;> omega)) _) | (with_reducible refine Below.setCell ?_ (by first | omega | (simp <;> omega)) _)))⟩
                case rest =>
                  obtain ⟨rfl, hbx⟩ := hcut
                  go_wp2_with fail
                  go_roundw
                  case rel => exact ⟨j + 1 + 1, by go_num, by omega, hn1, (by repeat (first | with_reducible exact Below.refl _ _ | with_reducible assumption | (with_reducible refine Below.trans ?_ (Below.mono (by assumption) (by first | omega | (simp <;> omega)))) | with_reducible apply Below.drew | with_reducible apply below_drewN | (with_reducible refine Below.alloc ?_ (by first | omega | (simp <;> omega)) _) | (with_reducible refine Below.setCell ?_ (by first | omega | (simp <;> omega)) _)))⟩
                  case measure => simp [intOf]; omega
      · obtain rfl : k = n := by omega
        have hg := envB_good (l := ys.map nmP) (fun j hj => (unhide hok) j (by rw [HLL.out] at hj; exact hj))
        rw [HLL.out, decide_eq_true h8] at hg
        obtain rfl : z = true := HZ.out.trans hg
        clear hg hok
        have HB := hide hb
        clear hb
        go_wp2_with fail
        go_ret
        exact ⟨rfl, unhide HB⟩
  · obtain rfl : z = false := hz.trans (envB_long (by rw [hll]; exact h8))
    have e8 : decide ((n : Int) > 8) = true := decide_eq_true (by omega)
    clear ha hall hz hll hl
    go_enter Tryd.func13, Tryd.ntmps13
    go_wp2_with fail
    go_ret
    exact ⟨rfl, Below.refl _ _⟩
end Go.Proofs.YtafcdlojlfnjbaaDoor

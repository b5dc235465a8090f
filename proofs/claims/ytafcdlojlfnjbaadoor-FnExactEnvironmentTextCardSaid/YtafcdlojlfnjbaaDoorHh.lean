/-
  EnvironmentText of model and program.
-/
import Derived.Test.YtafcdlojlfnjbaaDoorHg
import Derived.Test.YtafcdlojlfnjbaaDoorMt
namespace Go.Proofs.YtafcdlojlfnjbaaDoor
open Go.RowKit Rm

theorem envB_parts {l : List (ByteArray × List Pt)} (h : envB l = true) : l.length ≤ 8 ∧ ∀ (k : Nat) (x : ByteArray × List Pt), l[k]? = some x → nameB x.1 = true ∧ mapB x.2 = true := by
  unfold envB at h
  simp only [Bool.and_eq_true, decide_eq_true_eq, List.all_eq_true] at h
  refine ⟨h.1, fun k x hx => ?_⟩
  have hk : k < l.length := by
    rcases Nat.lt_or_ge k l.length with h1 | h1
    · exact h1
    · rw [List.getElem?_eq_none h1] at hx; cases hx
  have h2 := h.2 k (List.mem_range.2 hk)
  rcases hn : nameB x.1 with _ | _
  · rw [envK_name hx hn] at h2; cases h2
  · rcases hm : mapB x.2 with _ | _
    · rw [envK_map hx hm] at h2; cases h2
    · exact ⟨rfl, rfl⟩
theorem nameB_len {s : ByteArray} (h : nameB s = true) : s.size ≤ 8 := by
  unfold nameB at h
  simp only [Bool.and_eq_true, decide_eq_true_eq] at h
  exact h.1.2
def etT (x : ByteArray × List Pt) : List UInt8 := ((x.1.data.toList ++ [61]) ++ mpT x.2 x.2.length) ++ [10]
def etK (l : List (ByteArray × List Pt)) (k : Nat) : List UInt8 := (l.take k).flatMap etT
theorem etK_snoc {l : List (ByteArray × List Pt)} {k : Nat} {x : ByteArray × List Pt} (h : l[k]? = some x) : etK l (k + 1) = etK l k ++ etT x := by
  have hk : k < l.length := by
    rcases Nat.lt_or_ge k l.length with h1 | h1
    · exact h1
    · rw [List.getElem?_eq_none h1] at h; cases h
  unfold etK
  rw [List.take_succ_eq_append_getElem hk, List.flatMap_append]
  rw [List.getElem?_eq_getElem hk] at h
  rw [Option.some.inj h]
  simp
theorem etT_len {x : ByteArray × List Pt} (h1 : nameB x.1 = true) (h2 : mapB x.2 = true) : (etT x).length ≤ 2500 := by
  obtain ⟨hg, h12, _⟩ := goods_map h2
  have := mpT_len hg x.2.length (Nat.le_refl _)
  have h8 := nameB_len h1
  have h9 : x.1.data.toList.length = x.1.size := by simp
  unfold etT
  simp only [List.length_append, List.length_cons, List.length_nil]
  omega
theorem etK_len {l : List (ByteArray × List Pt)} (h : envB l = true) : ∀ k, k ≤ l.length → (etK l k).length ≤ 2500 * k
  | 0, _ => by simp [etK]
  | k + 1, hk => by
    have hx : l[k]? = some l[k] := List.getElem?_eq_getElem (by omega)
    have := etK_len h k (by omega)
    obtain ⟨h1, h2⟩ := (envB_parts h).2 k _ hx
    have h3 := etT_len h1 h2
    rw [etK_snoc hx, List.length_append]
    omega
/-- What EnvironmentText answers. -/
def etF (l : List (ByteArray × List Pt)) : List UInt8 := if envB l then etK l l.length else []
theorem etF_no {l : List (ByteArray × List Pt)} (h : envB l = false) : etF l = [] := by unfold etF; rw [h]; rfl
theorem etF_yes {l : List (ByteArray × List Pt)} (h : envB l = true) : etF l = etK l l.length := by unfold etF; rw [h]; rfl
theorem mk_list (s : ByteArray) : (⟨s.data.toList.toArray⟩ : ByteArray) = s := by cases s; simp

set_option maxRecDepth 100000 in
set_option maxHeartbeats 3200000 in
theorem sEnvironmentText_any (g n c B : Nat) (ys : List (ByteArray × Nat × List Pt)) (w : World) (ha : NestN w B (.slice (some ⟨g, 0, none⟩) n c) ys) (hl : ys.length = n) (hn : n ≤ 1048576) (hall : ∀ y ∈ ys, y.1.size ≤ 1048576 ∧ y.2.2.length ≤ 1048576) :
    Calls Tryd.prog 5 #[.slice (some ⟨g, 0, none⟩) n c] w fun e w' => e = .returned (.tuple #[.string ⟨(etF (ys.map nmP)).toArray⟩, .bool (envB (ys.map nmP))]) ∧ Below w.heap.size w w' := by
  have hgd := laGood_any g n c B ys w ha hl hn hall
  have hll : (ys.map nmP).length = n := by rw [List.length_map]; exact hl
  rcases he : envB (ys.map nmP) with _ | _
  · rw [he] at hgd
    rw [etF_no he]
    have HG := hide hgd
    clear hgd ha hl hall he hll
    go_enter Tryd.func5, Tryd.ntmps5
    go_wp2_with (go_at_call 10; (with_reducible refine (unhide HG).mono ?_); rintro e w1 ⟨rfl, hbw1⟩)
    go_ret2
    exact ⟨rfl, hbw1⟩
  · rw [he] at hgd
    rw [etF_yes he, hll]
    have HG := hide hgd; have HE := hide he; have HA := hide ha; have HLL := Lib.hid hll; have HL := Lib.hid hl
    clear hgd ha hl hall he hll
    go_enter Tryd.func5, Tryd.ntmps5
    go_wp2_with (go_at_call 10; (with_reducible refine (unhide HG).mono ?_); rintro e w1 ⟨rfl, hbw1⟩)
    have hz1 := hbw1.size
    go_loopw [4, 12] (fun s i wr => ∃ k : Nat, i = .int .i64 k ∧ s = .string ⟨(etK (ys.map nmP) k).toArray⟩ ∧ k ≤ n ∧ Below w1.heap.size w1 wr) (fun _ i _ => n - (intOf i).toNat)
    case atStart => exact ⟨0, rfl, rfl, Nat.zero_le _, Below.refl _ _⟩
    case round =>
      obtain ⟨k, rfl, rfl, hk, hb⟩ := hrel
      have hzr := hb.size
      by_cases hlt : k < n
      · obtain ⟨y, hy⟩ : ∃ y, ys[k]? = some y := ⟨_, List.getElem?_eq_getElem (by rw [HL.out]; exact hlt)⟩
        obtain ⟨hg, _, h0, h1, ho⟩ := (((unhide HA).below hbw1).below hb).at hy
        have hx : (ys.map nmP)[k]? = some (nmP y) := by rw [List.getElem?_map, hy]; rfl
        obtain ⟨hnm, hmp⟩ := (envB_parts (unhide HE)).2 k _ hx
        have hlk := etK_len (unhide HE) k (by rw [HLL.out]; exact hk)
        have hle := (envB_parts (unhide HE)).1
        rw [HLL.out] at hle
        have hsn := etK_snoc hx
        obtain ⟨s, b, ps⟩ := y
        replace h0 : wr.cell? ⟨g, k * 2, none⟩ = some (.string s) := h0
        replace h1 : wr.cell? ⟨g, k * 2 + 1, none⟩ = some (.slice (some ⟨b, 0, none⟩) ps.length ps.length) := h1
        replace hsn : etK (ys.map nmP) (k + 1) = etK (ys.map nmP) k ++ (((s.data.toList ++ [61]) ++ mpT ps ps.length) ++ [10]) := hsn
        obtain ⟨hgo, h12, _⟩ := goods_map (ps := ps) hmp
        have lm := mpT_len hgo ps.length (Nat.le_refl _)
        have l8 : s.data.toList.length ≤ 8 := by have := nameB_len (s := s) hnm; simpa using this
        have hT := fun (W : World) (hW : Below wr.heap.size wr W) => imText_map b ps.length ps.length B ps W (own_below ho hW) hgo h12
        have hsl := mk_list s
        clear hgo ho hx hy hnm hmp
        generalize mpT ps ps.length = xs at *
        generalize etK (ys.map nmP) k = ss at *
        obtain ⟨t1, e1⟩ : ∃ t1, t1 = s.data.toList ++ [61] := ⟨_, rfl⟩
        obtain ⟨t2, e2⟩ : ∃ t2, t2 = t1 ++ xs := ⟨_, rfl⟩
        obtain ⟨t3, e3⟩ : ∃ t3, t3 = t2 ++ [10] := ⟨_, rfl⟩
        obtain ⟨t4, e4⟩ : ∃ t4, t4 = ss ++ t3 := ⟨_, rfl⟩
        have hsn' : etK (ys.map nmP) (k + 1) = t4 := by rw [hsn, e4, e3, e2, e1]
        have l1 : t1.length ≤ 9 := by rw [e1]; simp only [List.length_append, List.length_cons, List.length_nil]; omega
        have l2 : t2.length ≤ 2409 := by rw [e2]; simp only [List.length_append]; omega
        have l3 : t3.length ≤ 2410 := by rw [e3]; simp only [List.length_append, List.length_cons, List.length_nil]; omega
        have hadd1 : ∀ (W : World), (Op.stringOp .add s ⟨#[61]⟩).run Tryd.prog W = .ok (.string ⟨t1.toArray⟩) W := fun W => by
          have := run_string_add_lists (P := Tryd.prog) W s.data.toList [61] (by omega) (by simp)
          rw [e1]
          rwa [hsl] at this
        have hadd2 : ∀ (W : World), (Op.stringOp .add ⟨t1.toArray⟩ ⟨xs.toArray⟩).run Tryd.prog W = .ok (.string ⟨t2.toArray⟩) W := fun W => by rw [e2]; exact run_string_add_lists W t1 xs (by omega) (by omega)
        have hadd3 : ∀ (W : World), (Op.stringOp .add ⟨t2.toArray⟩ ⟨#[10]⟩).run Tryd.prog W = .ok (.string ⟨t3.toArray⟩) W := fun W => by rw [e3]; exact run_string_add_lists W t2 [10] (by omega) (by simp)
        have hadd4 : ∀ (W : World), (Op.stringOp .add ⟨ss.toArray⟩ ⟨t3.toArray⟩).run Tryd.prog W = .ok (.string ⟨t4.toArray⟩) W := fun W => by rw [e4]; exact run_string_add_lists W ss t3 (by omega) (by omega)
        have HT := hide hT
        have HS := Lib.hid hsn'
        have HB := hide hb
        clear hT hsn hsn' hb e1 e2 e3 e4 l1 l2 l3 lm l8 hlk hsl hle
        go_upto_region 7 with fail
        go_region_held3 (fun w' => w'.cell? ⟨wr.heap.size, 0, none⟩ = some (.string s) ∧ w'.cell? ⟨wr.heap.size, 1, none⟩ = some (.slice (some ⟨b, 0, none⟩) ps.length ps.length)) (simp [go_sem, *])
          ((go_at_call 11; (with_reducible refine ((unhide HT) _ (show Below wr.heap.size wr _ from (by repeat (first | with_reducible exact Below.refl _ _ | with_reducible assumption | (with_reducible refine Below.trans ?_ (Below.mono (by assumption) (by first | omega | (simp <;> omega)))) | with_reducible apply Below.drew | with_reducible apply below_drewN | (with_reducible refine Below.alloc ?_ (by first | omega | (simp <;> omega)) _) | (with_reducible refine Below.setCell ?_ (by first | omega | (simp <;> omega)) _))))).mono ?_); rintro e w2 ⟨rfl, hbw2⟩; obtain ⟨hcw2, hfw2⟩ := bcell hbw2; have hzw2 := hbw2.size; (try simp at hzw2); (try ((have kw2wr0 := (bnew hbw2) (wr.heap.size) ?pf); (case pf => (first | omega | (simp; done) | (simp; omega))); obtain ⟨kcw2wr0, kfw2wr0, klw2wr0⟩ := kw2wr0)); (try ((have kw2gX0 := (bnew hbw2) (g) ?pf); (case pf => (first | omega | (simp; done) | (simp; omega))); obtain ⟨kcw2gX0, kfw2gX0, klw2gX0⟩ := kw2gX0))))
        all_goals
          have hb := unhide HB
          go_wp2_with fail
          go_roundw
          case rel => exact ⟨k + 1, by go_num, by rw [HS.out], by omega, (by repeat (first | with_reducible exact Below.refl _ _ | with_reducible assumption | (with_reducible refine Below.trans ?_ (Below.mono (by assumption) (by first | omega | (simp <;> omega)))) | with_reducible apply Below.drew | with_reducible apply below_drewN | (with_reducible refine Below.alloc ?_ (by first | omega | (simp <;> omega)) _) | (with_reducible refine Below.setCell ?_ (by first | omega | (simp <;> omega)) _)))⟩
          case measure => simp [intOf]; omega
      · obtain rfl : k = n := by omega
        have HB := hide hb
        clear hb
        go_wp2_with fail
        go_ret2
        exact ⟨rfl, hbw1.trans ((unhide HB).mono hz1)⟩

set_option maxRecDepth 100000 in
set_option maxHeartbeats 3200000 in
theorem iEnvironmentText_any (g n c B : Nat) (ys : List (ByteArray × Nat × List Pt)) (w : World) (ha : NestN w B (.slice (some ⟨g, 0, none⟩) n c) ys) (hl : ys.length = n) (hn : n ≤ 1048576) (hall : ∀ y ∈ ys, y.1.size ≤ 1048576 ∧ y.2.2.length ≤ 1048576) (ht : Pow10 w) :
    Calls Tryd.prog 7 #[.slice (some ⟨g, 0, none⟩) n c] w fun e w' => e = .returned (.tuple #[.string ⟨(etF (ys.map nmP)).toArray⟩, .bool (envB (ys.map nmP))]) ∧ Below w.heap.size w w' := by
  have hgd := iIsEnvironment_any g n c B ys w ha hl hn hall
  have hll : (ys.map nmP).length = n := by rw [List.length_map]; exact hl
  rcases he : envB (ys.map nmP) with _ | _
  · rw [he] at hgd
    rw [etF_no he]
    have HG := hide hgd
    clear hgd ha hl hall he hll ht
    go_enter Tryd.func7, Tryd.ntmps7
    go_wp2_with (go_at_call 13; (with_reducible refine (unhide HG).mono ?_); rintro e w1 ⟨rfl, hbw1⟩)
    go_ret2
    exact ⟨rfl, hbw1⟩
  · rw [he] at hgd
    rw [etF_yes he, hll]
    have HG := hide hgd; have HE := hide he; have HA := hide ha; have HLL := Lib.hid hll; have HL := Lib.hid hl; have HT := Lib.hid ht
    clear hgd ha hl hall he hll ht
    go_enter Tryd.func7, Tryd.ntmps7
    go_wp2_with (go_at_call 13; (with_reducible refine (unhide HG).mono ?_); rintro e w1 ⟨rfl, hbw1⟩)
    have hz1 := hbw1.size
    have hfb := hide (Lib.fresh_isBuilder 43 5 w1)
    go_loopw [14] (fun i wr => ∃ k : Nat, i = .int .i64 k ∧ k ≤ n ∧ Hid (Lib.IsBuilder 43 5 w1.heap.size w1.heap.size (Lib.byteCells (etK (ys.map nmP) k)) wr) ∧ Below w1.heap.size w1 wr) (fun i _ => n - (intOf i).toNat)
    case atStart => exact ⟨0, rfl, Nat.zero_le _, hfb, (by repeat (first | with_reducible exact Below.refl _ _ | with_reducible assumption | (with_reducible refine Below.trans ?_ (Below.mono (by assumption) (by first | omega | (simp <;> omega)))) | with_reducible apply Below.drew | with_reducible apply below_drewN | (with_reducible refine Below.alloc ?_ (by first | omega | (simp <;> omega)) _) | (with_reducible refine Below.setCell ?_ (by first | omega | (simp <;> omega)) _)))⟩
    case round =>
      obtain ⟨k, rfl, hk, HI, hb⟩ := hrel
      have hzr := hb.size
      clear hfb
      by_cases hlt : k < n
      · obtain ⟨y, hy⟩ : ∃ y, ys[k]? = some y := ⟨_, List.getElem?_eq_getElem (by rw [HL.out]; exact hlt)⟩
        obtain ⟨hg, _, h0, h1, ho⟩ := (((unhide HA).below hbw1).below hb).at hy
        have hx : (ys.map nmP)[k]? = some (nmP y) := by rw [List.getElem?_map, hy]; rfl
        obtain ⟨hnm, hmp⟩ := (envB_parts (unhide HE)).2 k _ hx
        have hlk := etK_len (unhide HE) k (by rw [HLL.out]; exact hk)
        have hle := (envB_parts (unhide HE)).1
        rw [HLL.out] at hle
        have hsn := etK_snoc hx
        obtain ⟨s, b, ps⟩ := y
        replace h0 : wr.cell? ⟨g, k * 2, none⟩ = some (.string s) := h0
        replace h1 : wr.cell? ⟨g, k * 2 + 1, none⟩ = some (.slice (some ⟨b, 0, none⟩) ps.length ps.length) := h1
        replace hsn : etK (ys.map nmP) (k + 1) = etK (ys.map nmP) k ++ (((s.data.toList ++ [61]) ++ mpT ps ps.length) ++ [10]) := hsn
        obtain ⟨hgo, h12, _⟩ := goods_map (ps := ps) hmp
        have lm := mpT_len hgo ps.length (Nat.le_refl _)
        have l8 : s.data.toList.length ≤ 8 := by have := nameB_len (s := s) hnm; simpa using this
        have hwr : Below w.heap.size w wr := hbw1.trans (hb.mono hz1)
        have hT := fun (W : World) (hW : Below wr.heap.size wr W) => iMapText_map b ps.length ps.length B ps W (own_below ho hW) hgo hmp h12 (pow10_below HT.out (hwr.trans (hW.mono hwr.size)))
        have hsl := mk_list s
        clear hgo ho hx hy hnm hmp hwr
        generalize mpT ps ps.length = xs at *
        generalize etK (ys.map nmP) k = ss at *
        obtain ⟨t1, e1⟩ : ∃ t1, t1 = s.data.toList ++ [61] := ⟨_, rfl⟩
        obtain ⟨t2, e2⟩ : ∃ t2, t2 = t1 ++ xs := ⟨_, rfl⟩
        obtain ⟨t3, e3⟩ : ∃ t3, t3 = t2 ++ [10] := ⟨_, rfl⟩
        have hsn' : etK (ys.map nmP) (k + 1) = ss ++ t3 := by rw [hsn, e3, e2, e1]
        have l1 : t1.length ≤ 9 := by rw [e1]; simp only [List.length_append, List.length_cons, List.length_nil]; omega
        have l2 : t2.length ≤ 2409 := by rw [e2]; simp only [List.length_append]; omega
        have l3 : t3.length ≤ 2410 := by rw [e3]; simp only [List.length_append, List.length_cons, List.length_nil]; omega
        have hadd1 : ∀ (W : World), (Op.stringOp .add s ⟨#[61]⟩).run Tryd.prog W = .ok (.string ⟨t1.toArray⟩) W := fun W => by
          have := run_string_add_lists (P := Tryd.prog) W s.data.toList [61] (by omega) (by simp)
          rw [e1]
          rwa [hsl] at this
        have hadd2 : ∀ (W : World), (Op.stringOp .add ⟨t1.toArray⟩ ⟨xs.toArray⟩).run Tryd.prog W = .ok (.string ⟨t2.toArray⟩) W := fun W => by rw [e2]; exact run_string_add_lists W t1 xs (by omega) (by omega)
        have hadd3 : ∀ (W : World), (Op.stringOp .add ⟨t2.toArray⟩ ⟨#[10]⟩).run Tryd.prog W = .ok (.string ⟨t3.toArray⟩) W := fun W => by rw [e3]; exact run_string_add_lists W t2 [10] (by omega) (by simp)
        have hlen : (Lib.byteCells ss).length + (⟨t3.toArray⟩ : ByteArray).size ≤ 140737488355328 := by
          rw [Lib.byteCells_length]
          show ss.length + t3.toArray.size ≤ _
          rw [List.size_toArray]; omega
        have HT2 := hide hT
        have HS := Lib.hid hsn'
        have HLEN := hide hlen
        clear hT hsn hsn' hlen e1 e2 e3 l1 l2 l3 lm l8 hlk hsl hle
        go_wp2_with (first
          | (go_at_call 14; (with_reducible refine ((unhide HT2) _ (show Below wr.heap.size wr _ from (by repeat (first | with_reducible exact Below.refl _ _ | with_reducible assumption | (with_reducible refine Below.trans ?_ (Below.mono (by assumption) (by first | omega | (simp <;> omega)))) | with_reducible apply Below.drew | with_reducible apply below_drewN | (with_reducible refine Below.alloc ?_ (by first | omega | (simp <;> omega)) _) | (with_reducible refine Below.setCell ?_ (by first | omega | (simp <;> omega)) _))))).mono ?_); rintro e w4 ⟨rfl, hbw4⟩; obtain ⟨hcw4, hfw4⟩ := bcell hbw4; have hzw4 := hbw4.size; (try simp at hzw4); (try ((have kw4wr0 := (bnew hbw4) (wr.heap.size) ?pf); (case pf => (first | omega | (simp; done) | (simp; omega))); obtain ⟨kcw4wr0, kfw4wr0, klw4wr0⟩ := kw4wr0)); (try ((have kw4gX0 := (bnew hbw4) (g) ?pf); (case pf => (first | omega | (simp; done) | (simp; omega))); obtain ⟨kcw4gX0, kfw4gX0, klw4gX0⟩ := kw4gX0)))
          | (go_at_call 15; refine (Tryd.Builder_WriteString w1.heap.size w1.heap.size (Lib.byteCells ss) ⟨t3.toArray⟩ _ (isb_below (unhide HI) (by repeat (first | with_reducible exact Below.refl _ _ | with_reducible assumption | (with_reducible refine Below.trans ?_ (Below.mono (by assumption) (by first | omega | (simp <;> omega)))) | with_reducible apply Below.drew | with_reducible apply below_drewN | (with_reducible refine Below.alloc ?_ (by first | omega | (simp <;> omega)) _) | (with_reducible refine Below.setCell ?_ (by first | omega | (simp <;> omega)) _)))) (unhide HLEN) (by omega)).mono ?_; rintro e w5 ⟨rfl, hB5, hb5⟩))
        have hb14 := (hb.trans ((show Below wr.heap.size wr w4 from (by repeat (first | with_reducible exact Below.refl _ _ | with_reducible assumption | (with_reducible refine Below.trans ?_ (Below.mono (by assumption) (by first | omega | (simp <;> omega)))) | with_reducible apply Below.drew | with_reducible apply below_drewN | (with_reducible refine Below.alloc ?_ (by first | omega | (simp <;> omega)) _) | (with_reducible refine Below.setCell ?_ (by first | omega | (simp <;> omega)) _)))).mono hb.size)).trans hb5
        go_roundw
        case rel => exact ⟨k + 1, by go_num, by omega, hide (.inr (by rw [HS.out, Lib.byteCells_append]; exact hB5)), hb14⟩
        case measure => simp [intOf]; omega
      · obtain rfl : k = n := by omega
        have hlk := etK_len (unhide HE) k (by rw [HLL.out]; exact hk)
        have hle := (envB_parts (unhide HE)).1
        rw [HLL.out] at hle
        have HB := hide hb
        clear hb
        go_wp2_with (go_at_call 16; refine (Tryd.Builder_String_any w1.heap.size w1.heap.size (etK (ys.map nmP) k) _ (unhide HI) (by omega)).mono ?_; rintro e w6 ⟨rfl, hb6⟩)
        go_ret2
        exact ⟨rfl, hbw1.trans (((unhide HB).trans hb6).mono hz1)⟩
end Go.Proofs.YtafcdlojlfnjbaaDoor

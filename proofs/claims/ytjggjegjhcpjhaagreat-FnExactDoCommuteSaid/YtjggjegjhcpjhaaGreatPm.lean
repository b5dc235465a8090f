/-
  Chapter 2: PointsBefore of the model.
-/
import Derived.Test.YtjggjegjhcpjhaaGreatPb
namespace Go.Proofs.YtjggjegjhcpjhaaGreat
open Go.RowKit Rm

theorem putL_mem {l : List Rat} {x z : Rat} (h : z ∈ putL l x) : z ∈ l ∨ z = x := by
  induction l with
  | nil => right; simpa [putL] using h
  | cons y l ih =>
    unfold putL at h
    split at h
    · rcases List.mem_cons.1 h with h | h
      · left; simp [h]
      · rcases ih h with h | h
        · left; simp [h]
        · exact .inr h
    · split at h
      · exact .inl h
      · rcases List.mem_cons.1 h with h | h
        · exact .inr h
        · exact .inl h
theorem putL_lens (l : List Rat) (x : Rat) : 1 ≤ (putL l x).length ∧ (putL l x).length ≤ l.length + 1 := by
  induction l with
  | nil => simp [putL]
  | cons y l ih =>
    unfold putL
    split
    · simp; omega
    · split <;> simp
theorem putL_fits {l : List Rat} {x : Rat} (h : ∀ z ∈ l, fits z = true) (hx : fits x = true) : ∀ z ∈ putL l x, fits z = true := fun z hz => by
  rcases putL_mem hz with h1 | h1
  · exact h z h1
  · rw [h1]; exact hx
theorem mwK_step {sd : QP → Int} {inn : QP → QP → Option Rat} {qs : List QP} {k : Nat} {l : List Rat} (h : mwK sd inn qs k = some l) : mwK sd inn qs (k + 1) = mStep sd inn l (qAt qs k) (qAt qs (k + 1)) := by
  simp only [mwK, h, Option.bind_some]
theorem mwK_none {sd : QP → Int} {inn : QP → QP → Option Rat} {qs : List QP} {k j : Nat} (h : mwK sd inn qs k = none) : ∀ d, j = k + d → mwK sd inn qs j = none := by
  intro d
  induction d generalizing j with
  | zero => rintro rfl; exact h
  | succ d ih =>
    rintro rfl
    have := ih (j := k + d) rfl
    show (mwK sd inn qs (k + d)).bind _ = none
    rw [this]; rfl
section
variable {sd : QP → Int} {inn : QP → QP → Option Rat} {l : List Rat} {p q : QP}
theorem mStep_00 (h1 : sd p = 0) (h2 : sd q = 0) : mStep sd inn l p q = some (putL (putL l p.1) q.1) := by
  simp [mStep, h1, h2]
theorem mStep_0n (h1 : sd p = 0) (h2 : ¬ sd q = 0) : mStep sd inn l p q = some (putL l p.1) := by
  simp [mStep, h1, h2]
theorem mStep_n0 (h1 : ¬ sd p = 0) (h2 : sd q = 0) : mStep sd inn l p q = some (putL l q.1) := by
  simp [mStep, h1, h2]
theorem mStep_nn (h1 : ¬ sd p = 0) (h2 : ¬ sd q = 0) (h3 : ¬ sd p * sd q < 0) : mStep sd inn l p q = some l := by
  simp [mStep, h1, h2, h3]
theorem mStep_in (h1 : ¬ sd p = 0) (h2 : ¬ sd q = 0) (h3 : sd p * sd q < 0) : mStep sd inn l p q = (inn p q).map (putL l) := by
  simp [mStep, h1, h2, h3]
end

theorem imPut_q (A : Option Addr) (n c base : Nat) (l : List Rat) (x : Rat) (f1 f2 : Int) (e1 : f1 = x.num) (e2 : f2 = (x.den : Int)) (w0 W : World) (ho : w0.ownsRow base 37 2 (.slice A n c) n (frcs (l.map qf))) (hb : Below w0.heap.size w0 W) (hbase : base ≤ w0.heap.size)
    (hn : n ≤ 1000) (hA : n = 0 → A = none ∧ c = 0) (hf : ∀ z ∈ l, fits z = true) (hx : fits x = true) :
    Calls Tryz.prog 84 #[.slice A n c, .agg #[.int .i64 (f1), .int .i64 (f2)]] W fun e w' => ∃ (A' : Option Addr) (c' : Nat), e = .returned (.slice A' (putL l x).length c') ∧ w'.ownsRow base 37 2 (.slice A' (putL l x).length c') (putL l x).length (frcs ((putL l x).map qf)) ∧ Below W.heap.size W w' := by
  subst e1 e2
  refine (imPut_any A n c base l x W (own_below ho hb) (Nat.le_trans hbase hb.size) hn hA hf hx).mono ?_
  rintro e w' ⟨v, rfl, ho', hb'⟩
  obtain ⟨A', c', rfl⟩ := own_slice ho'
  exact ⟨A', c', rfl, ho', hb'⟩

set_option maxRecDepth 100000 in
set_option maxHeartbeats 3200000 in
theorem imBefore_map (g a0 m c : Nat) (qs : List QP) (y : Rat) (w : World) (ha : PCells w g a0 qs) (hlen : qs.length = m + 1) (hg : GSeg qs) (hy : fits y = true) :
    Calls Tryz.prog 83 #[.slice (some ⟨g, a0, none⟩) (m + 1) c, .agg #[.int .i64 (y.num), .int .i64 (y.den)]] w fun e w' =>
      (∀ l, mwK (fun p => cq p.2 y) (fun p q => backR p q y) qs m = some l → ∃ v : Value, e = .returned (.tuple #[v, .bool true]) ∧ w'.ownsRow w.heap.size 37 2 v l.length (frcs (l.map qf))) ∧
      (mwK (fun p => cq p.2 y) (fun p q => backR p q y) qs m = none → e = .returned (.tuple #[.slice none 0 0, .bool false])) ∧ Below w.heap.size w w' := by
  have hhi := hg.hi
  rw [hlen] at hhi
  have hgl : g < w.heap.size := ha.lt
  have hcmp : ∀ k, k < m + 1 → ∀ W : World, Calls Tryz.prog 94 #[.agg #[.int .i64 ((qAt qs k).2.num), .int .i64 ((qAt qs k).2.den)], .agg #[.int .i64 (y.num), .int .i64 (y.den)]] W fun e w' => e = .returned (.int .i64 (cq (qAt qs k).2 y)) ∧ Below W.heap.size W w' :=
    fun k hk W => raCmp_q _ y (co_fits (hg.cy k (by omega))) hy W
  have hin : ∀ k, k + 1 < m + 1 → ∀ W : World, Calls Tryz.prog 118 #[.agg #[.int .i64 ((qAt qs k).1.num), .int .i64 ((qAt qs k).1.den), .int .i64 ((qAt qs k).2.num), .int .i64 ((qAt qs k).2.den)], .agg #[.int .i64 ((qAt qs (k + 1)).1.num), .int .i64 ((qAt qs (k + 1)).1.den), .int .i64 ((qAt qs (k + 1)).2.num), .int .i64 ((qAt qs (k + 1)).2.den)], .agg #[.int .i64 (y.num), .int .i64 (y.den)]] W fun e w' =>
      e = .returned (.tuple #[.agg #[.int .i64 (oN (backR (qAt qs k) (qAt qs (k + 1)) y)), .int .i64 (oD (backR (qAt qs k) (qAt qs (k + 1)) y))], .bool (backR (qAt qs k) (qAt qs (k + 1)) y).isSome]) ∧ Below W.heap.size W w' :=
    fun k hk W => imBack_q _ _ y hy (hg.cx k (by omega)) (hg.cy k (by omega)) (hg.cx _ (by omega)) (hg.cy _ (by omega)) (hg.inc k (by omega)) W
  have HCM := hide hcmp; have HIN := hide hin
  have HA := hide ha
  have HL := Lib.hid hlen
  clear hcmp hin ha hlen hy
  obtain ⟨yn, hyn⟩ : ∃ r, r = y.num := ⟨_, rfl⟩
  obtain ⟨yd, hyd⟩ : ∃ r, r = (y.den : Int) := ⟨_, rfl⟩
  rw [← hyn, ← hyd] at HCM HIN
  rw [← hyn, ← hyd]
  clear hyn hyd
  go_enter Tryz.func83, Tryz.ntmps83
  go_wp2
  go_loopw [6, 7] (fun v i wr => ∃ (j : Nat) (A : Option Addr) (nn cc : Nat) (l : List Rat), i = .int .i64 ((j : Int) + 1) ∧ v = .slice A nn cc ∧ j ≤ m ∧ nn = l.length ∧ l.length ≤ 2 * j ∧ (nn = 0 → A = none ∧ cc = 0) ∧ Hid (mwK (fun p => cq p.2 y) (fun p q => backR p q y) qs j = some l) ∧ Hid (∀ z ∈ l, fits z = true) ∧ wr.ownsRow w.heap.size 37 2 (.slice A nn cc) nn (frcs (l.map qf)) ∧ wr.cell? ⟨w.heap.size, 0, none⟩ = some (.int .i64 yn) ∧ wr.cell? ⟨w.heap.size, 1, none⟩ = some (.int .i64 yd) ∧ w.heap.size < wr.heap.size ∧ Below w.heap.size w wr) (fun _ i _ => m + 1 - (intOf i).toNat)
  case atStart => exact ⟨0, none, 0, 0, [], rfl, rfl, by omega, rfl, by simp, fun _ => ⟨rfl, rfl⟩, hide rfl, hide (fun z h => by cases h), World.ownsRow_nil _ _ _ _, by simp [go_sem], by simp [go_sem], by simp, (by repeat (first | with_reducible exact Below.refl _ _ | with_reducible assumption | (with_reducible refine Below.trans ?_ (Below.mono (by assumption) (by first | omega | (simp <;> omega)))) | with_reducible apply Below.drew | with_reducible apply below_drewN | (with_reducible refine Below.alloc ?_ (by first | omega | (simp <;> omega)) _) | (with_reducible refine Below.setCell ?_ (by first | omega | (simp <;> omega)) _)))⟩
  case round =>
    obtain ⟨j, A, nn, cc, l, rfl, rfl, hj, hnn, hll, hAn, HP, HF, hown, hy0, hy1, hyl, hbwr⟩ := hrel
    have hzwr := hbwr.size
    have hn2 : nn ≤ 2 * j := by omega
    have HNN := Lib.hid hnn
    have HLL := Lib.hid hll
    clear hnn hll
    by_cases hlt : j < m
    · have hj1 : j + 1 < qs.length := by rw [HL.out]; omega
      have hC := (unhide HA).below hbwr
      obtain ⟨l0, l1, l2, l3⟩ := hC.cel j (by omega)
      obtain ⟨r0, r1, r2, r3⟩ := hC.cel (j + 1) hj1
      have hca := (unhide HCM) j (by omega)
      have hcb := (unhide HCM) (j + 1) (by omega)
      have hinn := (unhide HIN) j (by omega)
      have hpx := co_fits (hg.cx j (by omega))
      have hqx := co_fits (hg.cx (j + 1) (by omega))
      have hst := mwK_step (unhide HP)
      have hmw := cq_mul_wrap (qAt qs j).2 y (qAt qs (j + 1)).2 y
      have hbk := isR_oadd (some (qAt qs j).1) (odiv (osub (some y) (some (qAt qs j).2)) (some (slopeR (qAt qs j) (qAt qs (j + 1)))))
      rw [show oadd (some (qAt qs j).1) (odiv (osub (some y) (some (qAt qs j).2)) (some (slopeR (qAt qs j) (qAt qs (j + 1))))) = backR (qAt qs j) (qAt qs (j + 1)) y from rfl] at hbk
      have HST := hide hst; have HCA := hide hca; have HCB := hide hcb; have HI := hide hinn; have HO := hide hown; have HB := hide hbwr; have HPX := Lib.hid hpx; have HQX := Lib.hid hqx; have HBK := hide hbk
      clear hst hca hcb hinn hown hbwr hC hpx hqx hbk HP
      obtain ⟨sa, hsa⟩ : ∃ r, r = cq (qAt qs j).2 y := ⟨_, rfl⟩
      obtain ⟨sb, hsb⟩ : ∃ r, r = cq (qAt qs (j + 1)).2 y := ⟨_, rfl⟩
      rw [← hsa] at HCA hmw
      rw [← hsb] at HCB hmw
      have HSA := Lib.hid hsa; have HSB := Lib.hid hsb
      clear hsa hsb
      obtain ⟨px, hpxe⟩ : ∃ r, r = (qAt qs j).1 := ⟨_, rfl⟩
      obtain ⟨qx, hqxe⟩ : ∃ r, r = (qAt qs (j + 1)).1 := ⟨_, rfl⟩
      rw [← hpxe] at HPX HI l0 l1
      rw [← hqxe] at HQX HI r0 r1
      obtain ⟨f1, hf1⟩ : ∃ r, r = px.num := ⟨_, rfl⟩
      obtain ⟨f2, hf2⟩ : ∃ r, r = (px.den : Int) := ⟨_, rfl⟩
      obtain ⟨e1, he1⟩ : ∃ r, r = qx.num := ⟨_, rfl⟩
      obtain ⟨e2, he2⟩ : ∃ r, r = (qx.den : Int) := ⟨_, rfl⟩
      rw [← hf1] at HI l0
      rw [← hf2] at HI l1
      rw [← he1] at HI r0
      rw [← he2] at HI r1
      have HF1 := Lib.hid hf1; have HF2 := Lib.hid hf2; have HE1 := Lib.hid he1; have HE2 := Lib.hid he2; have HPE := Lib.hid hpxe; have HQE := Lib.hid hqxe
      clear hf1 hf2 he1 he2 hpxe hqxe
      generalize (qAt qs j).2.num = f3 at *
      generalize ((qAt qs j).2.den : Int) = f4 at *
      generalize (qAt qs (j + 1)).2.num = e3 at *
      generalize ((qAt qs (j + 1)).2.den : Int) = e4 at *
      have s1 : IntKind.i64.wrap (j : Int) = (j : Int) := IntWalk.i64_in _ (by omega)
      have s2 : (0 : Int) ≤ (j : Int) + 1 := by omega
      have s3 : (j : Int) + 1 < (m : Int) + 1 := by omega
      have s4 : (j : Int) < (m : Int) + 1 := by omega
      have s5 : ((j : Int) + 1).toNat = j + 1 := by omega
      go_upto_region 5 with fail
      go_cut [8, 9] (fun s8 s9 wx => ∃ h1 h2 : Nat, s8 = .pointer (some ⟨h1, 0, none⟩) ∧ s9 = .pointer (some ⟨h2, 0, none⟩) ∧ h1 < wx.heap.size ∧ h2 < wx.heap.size ∧ wx.cell? ⟨h1, 0, none⟩ = some (.int .i64 f1) ∧ wx.cell? ⟨h1, 1, none⟩ = some (.int .i64 f2) ∧ wx.cell? ⟨h1, 2, none⟩ = some (.int .i64 f3) ∧ wx.cell? ⟨h1, 3, none⟩ = some (.int .i64 f4) ∧
          wx.cell? ⟨h2, 0, none⟩ = some (.int .i64 e1) ∧ wx.cell? ⟨h2, 1, none⟩ = some (.int .i64 e2) ∧ wx.cell? ⟨h2, 2, none⟩ = some (.int .i64 e3) ∧ wx.cell? ⟨h2, 3, none⟩ = some (.int .i64 e4) ∧ Below wr.heap.size wr wx)
      case first =>
        go_region_held3 (fun w' => (w'.cell? ⟨g, a0 + j * 4, none⟩ = some (.int .i64 f1) ∧ w'.cell? ⟨g, a0 + j * 4 + 1, none⟩ = some (.int .i64 f2) ∧ w'.cell? ⟨g, a0 + j * 4 + 2, none⟩ = some (.int .i64 f3) ∧ w'.cell? ⟨g, a0 + j * 4 + 3, none⟩ = some (.int .i64 f4)) ∧
            w'.cell? ⟨g, a0 + (j + 1) * 4, none⟩ = some (.int .i64 e1) ∧ w'.cell? ⟨g, a0 + (j + 1) * 4 + 1, none⟩ = some (.int .i64 e2) ∧ w'.cell? ⟨g, a0 + (j + 1) * 4 + 2, none⟩ = some (.int .i64 e3) ∧ w'.cell? ⟨g, a0 + (j + 1) * 4 + 3, none⟩ = some (.int .i64 e4)) (go_keep) (fail)
        all_goals
          go_wp2_with fail
          go_meet
          refine ⟨_, _, rfl, rfl, ?_, ?_, ?_, ?_, ?_, ?_, ?_, ?_, ?_, ?_, (by repeat (first | with_reducible exact Below.refl _ _ | with_reducible assumption | (with_reducible refine Below.trans ?_ (Below.mono (by assumption) (by first | omega | (simp <;> omega)))) | with_reducible apply Below.drew | with_reducible apply below_drewN | (with_reducible refine Below.alloc ?_ (by first | omega | (simp <;> omega)) _) | (with_reducible refine Below.setCell ?_ (by first | omega | (simp <;> omega)) _)))⟩
        all_goals first | (go_simp; done) | (simp [go_sem, *]; done) | omega | (simp <;> omega)
      case rest =>
        obtain ⟨h1, h2, rfl, rfl, hl1, hl2, a0, a1, a2, a3, b0, b1, b2, b3, hbwc⟩ := hcut
        have hzc := hbwc.size
        have hyc : ∀ o, wc.cell? ⟨w.heap.size, o, none⟩ = wr.cell? ⟨w.heap.size, o, none⟩ := fun o => hbwc.cell (p := ⟨w.heap.size, o, none⟩) hyl
        have y0 := (hyc 0).trans hy0
        have y1 := (hyc 1).trans hy1
        have hyl2 : w.heap.size < wc.heap.size := by omega
        have hb := unhide HB
        have HB2 := hide (hb.trans (hbwc.mono hb.size))
        have HO2 := hide (own_below (unhide HO) hbwc)
        clear hyc hy0 hy1 hb hbwc l0 l1 l2 l3 r0 r1 r2 r3 HO HB hyl
        go_upto_region 6 with fail
        go_cut [10, 11] (fun s10 s11 wx => s10 = .int .i64 sa ∧ s11 = .int .i64 sb ∧ wx.cell? ⟨w.heap.size, 0, none⟩ = some (.int .i64 yn) ∧ wx.cell? ⟨w.heap.size, 1, none⟩ = some (.int .i64 yd) ∧ Below wc.heap.size wc wx)
        case first =>
          go_region_held3 (fun w' => w'.cell? ⟨w.heap.size, 0, none⟩ = some (.int .i64 yn) ∧ w'.cell? ⟨w.heap.size, 1, none⟩ = some (.int .i64 yd) ∧ w'.cell? ⟨h1, 2, none⟩ = some (.int .i64 f3) ∧ w'.cell? ⟨h1, 3, none⟩ = some (.int .i64 f4) ∧ w'.cell? ⟨h2, 2, none⟩ = some (.int .i64 e3) ∧ w'.cell? ⟨h2, 3, none⟩ = some (.int .i64 e4)) (simp [go_sem, *])
            (first | (go_at_call 94; (with_reducible refine ((unhide HCA) _).mono ?_); rintro e w3 ⟨rfl, hbw3⟩; obtain ⟨hcw3, hfw3⟩ := bcell hbw3; have hzw3 := hbw3.size; (try simp at hzw3); (try ((have kw3w.heap.sizeX0 := (bnew hbw3) (w.heap.size) ?pf); (case pf => (first | omega | (simp; done) | (simp; omega))); obtain ⟨kcw3w.heap.sizeX0, kfw3w.heap.sizeX0, klw3w.heap.sizeX0⟩ := kw3w.heap.sizeX0)); (try ((have kw3h1X0 := (bnew hbw3) (h1) ?pf); (case pf => (first | omega | (simp; done) | (simp; omega))); obtain ⟨kcw3h1X0, kfw3h1X0, klw3h1X0⟩ := kw3h1X0)); (try ((have kw3h2X0 := (bnew hbw3) (h2) ?pf); (case pf => (first | omega | (simp; done) | (simp; omega))); obtain ⟨kcw3h2X0, kfw3h2X0, klw3h2X0⟩ := kw3h2X0))) | (go_at_call 94; (with_reducible refine ((unhide HCB) _).mono ?_); rintro e w4 ⟨rfl, hbw4⟩; obtain ⟨hcw4, hfw4⟩ := bcell hbw4; have hzw4 := hbw4.size; (try simp at hzw4); (try ((have kw4w.heap.sizeX0 := (bnew hbw4) (w.heap.size) ?pf); (case pf => (first | omega | (simp; done) | (simp; omega))); obtain ⟨kcw4w.heap.sizeX0, kfw4w.heap.sizeX0, klw4w.heap.sizeX0⟩ := kw4w.heap.sizeX0)); (try ((have kw4h1X0 := (bnew hbw4) (h1) ?pf); (case pf => (first | omega | (simp; done) | (simp; omega))); obtain ⟨kcw4h1X0, kfw4h1X0, klw4h1X0⟩ := kw4h1X0)); (try ((have kw4h2X0 := (bnew hbw4) (h2) ?pf); (case pf => (first | omega | (simp; done) | (simp; omega))); obtain ⟨kcw4h2X0, kfw4h2X0, klw4h2X0⟩ := kw4h2X0))))
          all_goals
            go_wp2_with fail
            go_meet
            exact ⟨rfl, rfl, by simp [*], by simp [*], (by repeat (first | with_reducible exact Below.refl _ _ | with_reducible assumption | (with_reducible refine Below.trans ?_ (Below.mono (by assumption) (by first | omega | (simp <;> omega)))) | with_reducible apply Below.drew | with_reducible apply below_drewN | (with_reducible refine Below.alloc ?_ (by first | omega | (simp <;> omega)) _) | (with_reducible refine Below.setCell ?_ (by first | omega | (simp <;> omega)) _)))⟩
        case rest =>
          obtain ⟨rfl, rfl, z0, z1, hbwd⟩ := hcut
          have hzd := hbwd.size
          have hh1 : ∀ o, wc.cell? ⟨h1, o, none⟩ = _ := fun o => hbwd.cell (p := ⟨h1, o, none⟩) hl1
          have hh2 : ∀ o, wc.cell? ⟨h2, o, none⟩ = _ := fun o => hbwd.cell (p := ⟨h2, o, none⟩) hl2
          have p0 := (hh1 _).trans a0
          have p1 := (hh1 _).trans a1
          have p2 := (hh1 _).trans a2
          have p3 := (hh1 _).trans a3
          have q0 := (hh2 _).trans b0
          have q1 := (hh2 _).trans b1
          have q2 := (hh2 _).trans b2
          have q3 := (hh2 _).trans b3
          have hl1' : h1 < wc.heap.size := by omega
          have hl2' : h2 < wc.heap.size := by omega
          have hyl3 : w.heap.size < wc.heap.size := by omega
          have hb := unhide HB2
          have hbe := hb.trans (hbwd.mono hb.size)
          have hze := hbe.size
          have HB3 := hide hbe
          have HO3 := hide (own_below (unhide HO2) hbwd)
          clear hh1 hh2 a0 a1 a2 a3 b0 b1 b2 b3 hb hbwd hbe y0 y1 HB2 HO2 hl1 hl2 HCA HCB
          rcases Decidable.em (sa = 0) with ha0 | ha0
          · rcases Decidable.em (sb = 0) with hb0 | hb0
            · subst ha0 hb0
              have HP1 := hide ((unhide HST).trans (mStep_00 HSA.out.symm HSB.out.symm))
              rw [← HPE.out, ← HQE.out] at HP1
              go_wp2_with (first | (have _t := hbw5; clear _t; go_at_call 84; (refine (imPut_q Aw5 (putL l px).length cw5 w.heap.size (putL l px) qx e1 e2 HE1.out HE2.out w5 _ (unhide HOw5) ?pb (Nat.le_trans hze hzw5) (by have := putL_lens l px; have := HLL.out; omega) (fun h => absurd h (by have := putL_lens l px; omega)) (putL_fits (unhide HF) HPX.out) HQX.out).mono ?_); (case pb => exact (by repeat (first | with_reducible exact Below.refl _ _ | with_reducible assumption | (with_reducible refine Below.trans ?_ (Below.mono (by assumption) (by first | omega | (simp <;> omega)))) | with_reducible apply Below.drew | with_reducible apply below_drewN | (with_reducible refine Below.alloc ?_ (by first | omega | (simp <;> omega)) _) | (with_reducible refine Below.setCell ?_ (by first | omega | (simp <;> omega)) _)))); rintro e w6 ⟨Aw6, cw6, rfl, how6, hbw6⟩; have HOw6 := hide how6; clear how6; have hzw6 := hbw6.size; (try simp at hzw6); (skip; (try ((have kw6h1X0 := (bnew hbw6) (h1) ?pf); (case pf => (first | omega | (simp; done) | (simp; omega))); obtain ⟨kcw6h1X0, kfw6h1X0, klw6h1X0⟩ := kw6h1X0)); (try ((have kw6h2X0 := (bnew hbw6) (h2) ?pf); (case pf => (first | omega | (simp; done) | (simp; omega))); obtain ⟨kcw6h2X0, kfw6h2X0, klw6h2X0⟩ := kw6h2X0)); (try ((have kw6w.heap.sizeX0 := (bnew hbw6) (w.heap.size) ?pf); (case pf => (first | omega | (simp; done) | (simp; omega))); obtain ⟨kcw6w.heap.sizeX0, kfw6w.heap.sizeX0, klw6w.heap.sizeX0⟩ := kw6w.heap.sizeX0)))) | (go_at_call 84; (refine (imPut_q A nn cc w.heap.size l px f1 f2 HF1.out HF2.out wc _ (unhide HO3) ?pb hze (by omega) hAn (unhide HF) HPX.out).mono ?_); (case pb => exact (by repeat (first | with_reducible exact Below.refl _ _ | with_reducible assumption | (with_reducible refine Below.trans ?_ (Below.mono (by assumption) (by first | omega | (simp <;> omega)))) | with_reducible apply Below.drew | with_reducible apply below_drewN | (with_reducible refine Below.alloc ?_ (by first | omega | (simp <;> omega)) _) | (with_reducible refine Below.setCell ?_ (by first | omega | (simp <;> omega)) _)))); rintro e w5 ⟨Aw5, cw5, rfl, how5, hbw5⟩; have HOw5 := hide how5; clear how5; have hzw5 := hbw5.size; (try simp at hzw5); (skip; (try ((have kw5h1X0 := (bnew hbw5) (h1) ?pf); (case pf => (first | omega | (simp; done) | (simp; omega))); obtain ⟨kcw5h1X0, kfw5h1X0, klw5h1X0⟩ := kw5h1X0)); (try ((have kw5h2X0 := (bnew hbw5) (h2) ?pf); (case pf => (first | omega | (simp; done) | (simp; omega))); obtain ⟨kcw5h2X0, kfw5h2X0, klw5h2X0⟩ := kw5h2X0)); (try ((have kw5w.heap.sizeX0 := (bnew hbw5) (w.heap.size) ?pf); (case pf => (first | omega | (simp; done) | (simp; omega))); obtain ⟨kcw5w.heap.sizeX0, kfw5w.heap.sizeX0, klw5w.heap.sizeX0⟩ := kw5w.heap.sizeX0)))))
              have hb := unhide HB3
              have HBZ := hide (show Below w.heap.size w w6 from (by repeat (first | with_reducible exact Below.refl _ _ | with_reducible assumption | (with_reducible refine Below.trans ?_ (Below.mono (by assumption) (by first | omega | (simp <;> omega)))) | with_reducible apply Below.drew | with_reducible apply below_drewN | (with_reducible refine Below.alloc ?_ (by first | omega | (simp <;> omega)) _) | (with_reducible refine Below.setCell ?_ (by first | omega | (simp <;> omega)) _))))
              clear hb
              go_roundw
              case rel => exact ⟨j + 1, _, _, _, putL (putL l px) qx, by go_num, rfl, by omega, rfl, by have := HLL.out; have := HNN.out; have := putL_lens l px; have := putL_lens (putL l px) qx; omega, fun h => absurd h (by have := putL_lens (putL l px) qx; omega), HP1, hide (putL_fits (putL_fits (unhide HF) HPX.out) HQX.out), unhide HOw6, by simp [*], by simp [*], by have := (unhide HBZ).size; omega, unhide HBZ⟩
              case measure => (simp [intOf] <;> omega)
            · subst ha0
              have hb1 : (sb == 0) = false := by simpa using hb0
              have hb2 : decide (sb = 0) = false := by simpa using hb0
              have HP1 := hide ((unhide HST).trans (mStep_0n HSA.out.symm (fun h => hb0 (HSB.out.trans h))))
              rw [← HPE.out] at HP1
              go_wp2_with (go_at_call 84; (refine (imPut_q A nn cc w.heap.size l px f1 f2 HF1.out HF2.out wc _ (unhide HO3) ?pb hze (by omega) hAn (unhide HF) HPX.out).mono ?_); (case pb => exact (by repeat (first | with_reducible exact Below.refl _ _ | with_reducible assumption | (with_reducible refine Below.trans ?_ (Below.mono (by assumption) (by first | omega | (simp <;> omega)))) | with_reducible apply Below.drew | with_reducible apply below_drewN | (with_reducible refine Below.alloc ?_ (by first | omega | (simp <;> omega)) _) | (with_reducible refine Below.setCell ?_ (by first | omega | (simp <;> omega)) _)))); rintro e w5 ⟨Aw5, cw5, rfl, how5, hbw5⟩; have HOw5 := hide how5; clear how5; have hzw5 := hbw5.size; (try simp at hzw5); (skip; (try ((have kw5h1X0 := (bnew hbw5) (h1) ?pf); (case pf => (first | omega | (simp; done) | (simp; omega))); obtain ⟨kcw5h1X0, kfw5h1X0, klw5h1X0⟩ := kw5h1X0)); (try ((have kw5h2X0 := (bnew hbw5) (h2) ?pf); (case pf => (first | omega | (simp; done) | (simp; omega))); obtain ⟨kcw5h2X0, kfw5h2X0, klw5h2X0⟩ := kw5h2X0)); (try ((have kw5w.heap.sizeX0 := (bnew hbw5) (w.heap.size) ?pf); (case pf => (first | omega | (simp; done) | (simp; omega))); obtain ⟨kcw5w.heap.sizeX0, kfw5w.heap.sizeX0, klw5w.heap.sizeX0⟩ := kw5w.heap.sizeX0))))
              have hb := unhide HB3
              have HBZ := hide (show Below w.heap.size w w5 from (by repeat (first | with_reducible exact Below.refl _ _ | with_reducible assumption | (with_reducible refine Below.trans ?_ (Below.mono (by assumption) (by first | omega | (simp <;> omega)))) | with_reducible apply Below.drew | with_reducible apply below_drewN | (with_reducible refine Below.alloc ?_ (by first | omega | (simp <;> omega)) _) | (with_reducible refine Below.setCell ?_ (by first | omega | (simp <;> omega)) _))))
              clear hb
              go_roundw
              case rel => exact ⟨j + 1, _, _, _, putL l px, by go_num, rfl, by omega, rfl, by have := HLL.out; have := HNN.out; have := putL_lens l px; omega, fun h => absurd h (by have := putL_lens l px; omega), HP1, hide (putL_fits (unhide HF) HPX.out), unhide HOw5, by simp [*], by simp [*], by have := (unhide HBZ).size; omega, unhide HBZ⟩
              case measure => (simp [intOf] <;> omega)
          · have ha1 : (sa == 0) = false := by simpa using ha0
            have ha2 : decide (sa = 0) = false := by simpa using ha0
            rcases Decidable.em (sb = 0) with hb0 | hb0
            · subst hb0
              have HP1 := hide ((unhide HST).trans (mStep_n0 (fun h => ha0 (HSA.out.trans h)) HSB.out.symm))
              rw [← HQE.out] at HP1
              go_wp2_with (go_at_call 84; (refine (imPut_q A nn cc w.heap.size l qx e1 e2 HE1.out HE2.out wc _ (unhide HO3) ?pb hze (by omega) hAn (unhide HF) HQX.out).mono ?_); (case pb => exact (by repeat (first | with_reducible exact Below.refl _ _ | with_reducible assumption | (with_reducible refine Below.trans ?_ (Below.mono (by assumption) (by first | omega | (simp <;> omega)))) | with_reducible apply Below.drew | with_reducible apply below_drewN | (with_reducible refine Below.alloc ?_ (by first | omega | (simp <;> omega)) _) | (with_reducible refine Below.setCell ?_ (by first | omega | (simp <;> omega)) _)))); rintro e w5 ⟨Aw5, cw5, rfl, how5, hbw5⟩; have HOw5 := hide how5; clear how5; have hzw5 := hbw5.size; (try simp at hzw5); (skip; (try ((have kw5h1X0 := (bnew hbw5) (h1) ?pf); (case pf => (first | omega | (simp; done) | (simp; omega))); obtain ⟨kcw5h1X0, kfw5h1X0, klw5h1X0⟩ := kw5h1X0)); (try ((have kw5h2X0 := (bnew hbw5) (h2) ?pf); (case pf => (first | omega | (simp; done) | (simp; omega))); obtain ⟨kcw5h2X0, kfw5h2X0, klw5h2X0⟩ := kw5h2X0)); (try ((have kw5w.heap.sizeX0 := (bnew hbw5) (w.heap.size) ?pf); (case pf => (first | omega | (simp; done) | (simp; omega))); obtain ⟨kcw5w.heap.sizeX0, kfw5w.heap.sizeX0, klw5w.heap.sizeX0⟩ := kw5w.heap.sizeX0))))
              have hb := unhide HB3
              have HBZ := hide (show Below w.heap.size w w5 from (by repeat (first | with_reducible exact Below.refl _ _ | with_reducible assumption | (with_reducible refine Below.trans ?_ (Below.mono (by assumption) (by first | omega | (simp <;> omega)))) | with_reducible apply Below.drew | with_reducible apply below_drewN | (with_reducible refine Below.alloc ?_ (by first | omega | (simp <;> omega)) _) | (with_reducible refine Below.setCell ?_ (by first | omega | (simp <;> omega)) _))))
              clear hb
              go_roundw
              case rel => exact ⟨j + 1, _, _, _, putL l qx, by go_num, rfl, by omega, rfl, by have := HLL.out; have := HNN.out; have := putL_lens l qx; omega, fun h => absurd h (by have := putL_lens l qx; omega), HP1, hide (putL_fits (unhide HF) HQX.out), unhide HOw5, by simp [*], by simp [*], by have := (unhide HBZ).size; omega, unhide HBZ⟩
              case measure => (simp [intOf] <;> omega)
            · have hb1 : (sb == 0) = false := by simpa using hb0
              have hb2 : decide (sb = 0) = false := by simpa using hb0
              rcases Decidable.em (sa * sb < 0) with hpn | hpn
              · have hge : decide (0 ≤ sa * sb) = false := decide_eq_false (by omega)
                have hst := (unhide HST).trans (mStep_in (fun h => ha0 (HSA.out.trans h)) (fun h => hb0 (HSB.out.trans h)) (by rw [← HSA.out, ← HSB.out]; exact hpn))
                obtain ⟨res, hres⟩ : ∃ r, r = backR (qAt qs j) (qAt qs (j + 1)) y := ⟨_, rfl⟩
                rw [← hres] at hst HI HBK
                have HST2 := hide hst
                clear hst hres HST
                rcases res with _ | x
                · simp only [oN_none, oD_none, Option.isSome_none] at HI
                  go_wp2_with (go_at_call 118; (with_reducible refine ((unhide HI) _).mono ?_); rintro e w5 ⟨rfl, hbw5⟩; (skip; (try ((have kw5h1X0 := (bnew hbw5) (h1) ?pf); (case pf => (first | omega | (simp; done) | (simp; omega))); obtain ⟨kcw5h1X0, kfw5h1X0, klw5h1X0⟩ := kw5h1X0)); (try ((have kw5h2X0 := (bnew hbw5) (h2) ?pf); (case pf => (first | omega | (simp; done) | (simp; omega))); obtain ⟨kcw5h2X0, kfw5h2X0, klw5h2X0⟩ := kw5h2X0)); (try ((have kw5w.heap.sizeX0 := (bnew hbw5) (w.heap.size) ?pf); (case pf => (first | omega | (simp; done) | (simp; omega))); obtain ⟨kcw5w.heap.sizeX0, kfw5w.heap.sizeX0, klw5w.heap.sizeX0⟩ := kw5w.heap.sizeX0))))
                  have hb := unhide HB3
                  go_ret2
                  have hno := mwK_none (unhide HST2) (j := m) (m - (j + 1)) (by omega)
                  exact ⟨fun l' hl' => by rw [hno] at hl'; (cases hl'), fun _ => rfl, (by repeat (first | with_reducible exact Below.refl _ _ | with_reducible assumption | (with_reducible refine Below.trans ?_ (Below.mono (by assumption) (by first | omega | (simp <;> omega)))) | with_reducible apply Below.drew | with_reducible apply below_drewN | (with_reducible refine Below.alloc ?_ (by first | omega | (simp <;> omega)) _) | (with_reducible refine Below.setCell ?_ (by first | omega | (simp <;> omega)) _)))⟩
                · have HXF := Lib.hid ((unhide HBK) x rfl)
                  simp only [oN_some, oD_some, Option.isSome_some] at HI
                  obtain ⟨xn, hxn⟩ : ∃ r, r = x.num := ⟨_, rfl⟩
                  obtain ⟨xd, hxd⟩ : ∃ r, r = (x.den : Int) := ⟨_, rfl⟩
                  rw [← hxn, ← hxd] at HI
                  have HXN := Lib.hid hxn; have HXD := Lib.hid hxd
                  clear hxn hxd
                  go_wp2_with (first | (have _t := hbw5; clear _t; go_at_call 84; (refine (imPut_q A nn cc w.heap.size l x xn xd HXN.out HXD.out wc _ (unhide HO3) ?pb hze (by omega) hAn (unhide HF) HXF.out).mono ?_); (case pb => exact (by repeat (first | with_reducible exact Below.refl _ _ | with_reducible assumption | (with_reducible refine Below.trans ?_ (Below.mono (by assumption) (by first | omega | (simp <;> omega)))) | with_reducible apply Below.drew | with_reducible apply below_drewN | (with_reducible refine Below.alloc ?_ (by first | omega | (simp <;> omega)) _) | (with_reducible refine Below.setCell ?_ (by first | omega | (simp <;> omega)) _)))); rintro e w6 ⟨Aw6, cw6, rfl, how6, hbw6⟩; have HOw6 := hide how6; clear how6; have hzw6 := hbw6.size; (try simp at hzw6); (skip; (try ((have kw6h1X0 := (bnew hbw6) (h1) ?pf); (case pf => (first | omega | (simp; done) | (simp; omega))); obtain ⟨kcw6h1X0, kfw6h1X0, klw6h1X0⟩ := kw6h1X0)); (try ((have kw6h2X0 := (bnew hbw6) (h2) ?pf); (case pf => (first | omega | (simp; done) | (simp; omega))); obtain ⟨kcw6h2X0, kfw6h2X0, klw6h2X0⟩ := kw6h2X0)); (try ((have kw6w.heap.sizeX0 := (bnew hbw6) (w.heap.size) ?pf); (case pf => (first | omega | (simp; done) | (simp; omega))); obtain ⟨kcw6w.heap.sizeX0, kfw6w.heap.sizeX0, klw6w.heap.sizeX0⟩ := kw6w.heap.sizeX0)))) | (go_at_call 118; (with_reducible refine ((unhide HI) _).mono ?_); rintro e w5 ⟨rfl, hbw5⟩; have hzw5 := hbw5.size; (try simp at hzw5); (skip; (try ((have kw5h1X0 := (bnew hbw5) (h1) ?pf); (case pf => (first | omega | (simp; done) | (simp; omega))); obtain ⟨kcw5h1X0, kfw5h1X0, klw5h1X0⟩ := kw5h1X0)); (try ((have kw5h2X0 := (bnew hbw5) (h2) ?pf); (case pf => (first | omega | (simp; done) | (simp; omega))); obtain ⟨kcw5h2X0, kfw5h2X0, klw5h2X0⟩ := kw5h2X0)); (try ((have kw5w.heap.sizeX0 := (bnew hbw5) (w.heap.size) ?pf); (case pf => (first | omega | (simp; done) | (simp; omega))); obtain ⟨kcw5w.heap.sizeX0, kfw5w.heap.sizeX0, klw5w.heap.sizeX0⟩ := kw5w.heap.sizeX0)))))
                  have hb := unhide HB3
                  have HBZ := hide (show Below w.heap.size w w6 from (by repeat (first | with_reducible exact Below.refl _ _ | with_reducible assumption | (with_reducible refine Below.trans ?_ (Below.mono (by assumption) (by first | omega | (simp <;> omega)))) | with_reducible apply Below.drew | with_reducible apply below_drewN | (with_reducible refine Below.alloc ?_ (by first | omega | (simp <;> omega)) _) | (with_reducible refine Below.setCell ?_ (by first | omega | (simp <;> omega)) _))))
                  clear hb
                  go_roundw
                  case rel => exact ⟨j + 1, _, _, _, putL l x, by go_num, rfl, by omega, rfl, by have := HLL.out; have := HNN.out; have := putL_lens l x; omega, fun h => absurd h (by have := putL_lens l x; omega), HST2, hide (putL_fits (unhide HF) HXF.out), unhide HOw6, by simp [go_sem, World.cell?_alloc_past, *], by simp [go_sem, World.cell?_alloc_past, *], by have := (unhide HBZ).size; omega, unhide HBZ⟩
                  case measure => (simp [intOf] <;> omega)
              · have hge : decide (0 ≤ sa * sb) = true := decide_eq_true (by omega)
                have HP1 := hide ((unhide HST).trans (mStep_nn (fun h => ha0 (HSA.out.trans h)) (fun h => hb0 (HSB.out.trans h)) (by rw [← HSA.out, ← HSB.out]; exact hpn)))
                go_wp2_with fail
                go_roundw
                case rel => exact ⟨j + 1, _, _, _, l, by go_num, rfl, by omega, HNN.out, by have := HLL.out; omega, hAn, HP1, HF, unhide HO3, z0, z1, hyl3, unhide HB3⟩
                case measure => (simp [intOf] <;> omega)
    · obtain rfl : j = m := by omega
      have HO := hide hown
      have HB := hide hbwr
      clear hown hbwr
      go_wp2
      go_ret2
      refine ⟨fun l' hl' => ?_, fun hn => ?_, unhide HB⟩
      · rw [unhide HP] at hl'
        injection hl' with hl'
        subst hl'
        exact ⟨_, rfl, by rw [← HNN.out]; exact unhide HO⟩
      · rw [unhide HP] at hn; cases hn
end Go.Proofs.YtjggjegjhcpjhaaGreat

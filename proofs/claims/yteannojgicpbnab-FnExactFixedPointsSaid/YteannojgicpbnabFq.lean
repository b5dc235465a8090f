/-
  Chapter 2: FixedPoints of the model; what both return, at any argument.
-/
import Derived.Test.YteannojgicpbnabFp
namespace Go.Proofs.Yteannojgicpbnab
open Go.RowKit Rm

/-- The seven steps to the fixed point of a piece. -/
theorem fix_steps (p q : QP) (h1 : co p.1) (h2 : co p.2) (h3 : co q.1) (h4 : co q.2) (hne : (q.1 - p.1) - (q.2 - p.2) ≠ 0) :
    ∃ ln ld rn rd nn nd un ud sn sdd dn dd : Int,
      (∀ W : World, Calls Try.prog 45 #[.agg #[.int .i64 (p.2.num), .int .i64 (p.2.den)], .agg #[.int .i64 (q.1.num), .int .i64 (q.1.den)]] W fun e w' => e = .returned (.tuple #[.agg #[.int .i64 (ln), .int .i64 (ld)], .bool true]) ∧ Below W.heap.size W w') ∧
      (∀ W : World, Calls Try.prog 45 #[.agg #[.int .i64 (q.2.num), .int .i64 (q.2.den)], .agg #[.int .i64 (p.1.num), .int .i64 (p.1.den)]] W fun e w' => e = .returned (.tuple #[.agg #[.int .i64 (rn), .int .i64 (rd)], .bool true]) ∧ Below W.heap.size W w') ∧
      (∀ W : World, Calls Try.prog 46 #[.agg #[.int .i64 (ln), .int .i64 (ld)], .agg #[.int .i64 (rn), .int .i64 (rd)]] W fun e w' => e = .returned (.tuple #[.agg #[.int .i64 (nn), .int .i64 (nd)], .bool true]) ∧ Below W.heap.size W w') ∧
      (∀ W : World, Calls Try.prog 46 #[.agg #[.int .i64 (q.1.num), .int .i64 (q.1.den)], .agg #[.int .i64 (p.1.num), .int .i64 (p.1.den)]] W fun e w' => e = .returned (.tuple #[.agg #[.int .i64 (un), .int .i64 (ud)], .bool true]) ∧ Below W.heap.size W w') ∧
      (∀ W : World, Calls Try.prog 46 #[.agg #[.int .i64 (q.2.num), .int .i64 (q.2.den)], .agg #[.int .i64 (p.2.num), .int .i64 (p.2.den)]] W fun e w' => e = .returned (.tuple #[.agg #[.int .i64 (sn), .int .i64 (sdd)], .bool true]) ∧ Below W.heap.size W w') ∧
      (∀ W : World, Calls Try.prog 46 #[.agg #[.int .i64 (un), .int .i64 (ud)], .agg #[.int .i64 (sn), .int .i64 (sdd)]] W fun e w' => e = .returned (.tuple #[.agg #[.int .i64 (dn), .int .i64 (dd)], .bool true]) ∧ Below W.heap.size W w') ∧
      (∀ W : World, Calls Try.prog 47 #[.agg #[.int .i64 (nn), .int .i64 (nd)], .agg #[.int .i64 (dn), .int .i64 (dd)]] W fun e w' => e = .returned (.tuple #[.agg #[.int .i64 ((fixR p q).num), .int .i64 ((fixR p q).den)], .bool true]) ∧ Below W.heap.size W w') ∧ fits (fixR p q) = true := by
  have fl := mul_co_fits h3 h2
  have fr := mul_co_fits h1 h4
  have fn := fix_num_fits h1 h2 h3 h4
  have fu := sub_fits h3 h1
  have fi := sub_fits h4 h2
  have fd := fix_den_fits h1 h2 h3 h4
  have fx := fix_fits h1 h2 h3 h4 hne
  rw [Rat.mul_comm q.1 p.2] at fl fn
  rw [Rat.mul_comm p.1 q.2] at fr fn
  have c1 := fun W => raMul_o (some p.2) (some q.1) (isR_some (co_fits h2)) (isR_some (co_fits h3)) W
  have c2 := fun W => raMul_o (some q.2) (some p.1) (isR_some (co_fits h4)) (isR_some (co_fits h1)) W
  have c3 := fun W => raSub_o (some (p.2 * q.1)) (some (q.2 * p.1)) (isR_some fl) (isR_some fr) W
  have c4 := fun W => raSub_o (some q.1) (some p.1) (isR_some (co_fits h3)) (isR_some (co_fits h1)) W
  have c5 := fun W => raSub_o (some q.2) (some p.2) (isR_some (co_fits h4)) (isR_some (co_fits h2)) W
  have c6 := fun W => raSub_o (some (q.1 - p.1)) (some (q.2 - p.2)) (isR_some fu) (isR_some fi) W
  have c7 := fun W => raDiv_o (some (p.2 * q.1 - q.2 * p.1)) (some (q.1 - p.1 - (q.2 - p.2))) (isR_some fn) (isR_some fd) W
  have e7 : (p.2 * q.1 - q.2 * p.1) / (q.1 - p.1 - (q.2 - p.2)) = fixR p q := by
    unfold fixR
    rw [Rat.mul_comm p.2 q.1, Rat.mul_comm q.2 p.1]
  rw [omul_f fl] at c1
  rw [omul_f fr] at c2
  rw [osub_f fn] at c3
  rw [osub_f fu] at c4
  rw [osub_f fi] at c5
  rw [osub_f fd] at c6
  rw [odiv_f hne (by rw [e7]; exact fx), e7] at c7
  simp only [oN_some, oD_some, Option.isSome_some] at c1 c2 c3 c4 c5 c6 c7
  exact ⟨_, _, _, _, _, _, _, _, _, _, _, _, c1, c2, c3, c4, c5, c6, c7, fx⟩
set_option maxRecDepth 100000 in
set_option maxHeartbeats 3200000 in
theorem imFixed_q (A : Option Addr) (nn cc base : Nat) (l L : List Rat) (p q : QP) (w : World) (ho : w.ownsRow base 37 2 (.slice A nn cc) nn (frcs (l.map qf))) (hbase : base ≤ w.heap.size) (hn : nn ≤ 900) (hA : nn = 0 → A = none ∧ cc = 0) (hf : ∀ z ∈ l, fits z = true)
    (h1 : co p.1) (h2 : co p.2) (h3 : co q.1) (h4 : co q.2) (hL : mStep sdF innF l p q = some L) :
    Calls Try.prog 22 #[.slice A nn cc, .agg #[.int .i64 (p.1.num), .int .i64 (p.1.den), .int .i64 (p.2.num), .int .i64 (p.2.den)], .agg #[.int .i64 (q.1.num), .int .i64 (q.1.den), .int .i64 (q.2.num), .int .i64 (q.2.den)]] w fun e w' => ∃ (A' : Option Addr) (c' : Nat), e = .returned (.slice A' L.length c') ∧ w'.ownsRow base 37 2 (.slice A' L.length c') L.length (frcs (L.map qf)) ∧ (L.length = 0 → A' = none ∧ c' = 0) ∧ Below w.heap.size w w' := by
  have HNN : Hid (nn = l.length) := Lib.hid (own_lenR ho).symm
  have hnl : l.length ≤ 900 := by rw [← HNN.out]; exact hn
  have hca := fun W => raCmp_q p.2 p.1 (co_fits h2) (co_fits h1) W
  have hcb := fun W => raCmp_q q.2 q.1 (co_fits h4) (co_fits h3) W
  have hmw := sdF_wrap p q
  have hcs := fun hne => fix_steps p q h1 h2 h3 h4 hne
  have hne := fun (hz : sdF p * sdF q < 0) => fixR_ne (p := p) (q := q) hz
  have HPX := Lib.hid (co_fits h1); have HQX := Lib.hid (co_fits h3)
  have HCA := hide hca; have HCB := hide hcb; have HCS := hide hcs; have HNE := hide hne; have HO := hide ho
  clear hca hcb hcs hne ho h1 h2 h3 h4
  obtain ⟨sa, hsa⟩ : ∃ r, r = sdF p := ⟨_, rfl⟩
  obtain ⟨sb, hsb⟩ : ∃ r, r = sdF q := ⟨_, rfl⟩
  rw [show cq p.2 p.1 = sdF p from rfl, ← hsa] at HCA
  rw [show cq q.2 q.1 = sdF q from rfl, ← hsb] at HCB
  rw [← hsa, ← hsb] at hmw
  have HSA := Lib.hid hsa; have HSB := Lib.hid hsb
  clear hsa hsb
  obtain ⟨px, hpxe⟩ : ∃ r, r = p.1 := ⟨_, rfl⟩
  obtain ⟨qx, hqxe⟩ : ∃ r, r = q.1 := ⟨_, rfl⟩
  rw [← hpxe] at HPX
  rw [← hqxe] at HQX
  obtain ⟨f1, hf1⟩ : ∃ r, r = p.1.num := ⟨_, rfl⟩
  obtain ⟨f2, hf2⟩ : ∃ r, r = (p.1.den : Int) := ⟨_, rfl⟩
  obtain ⟨e1, he1⟩ : ∃ r, r = q.1.num := ⟨_, rfl⟩
  obtain ⟨e2, he2⟩ : ∃ r, r = (q.1.den : Int) := ⟨_, rfl⟩
  rw [← hf1, ← hf2] at HCA HCS
  rw [← he1, ← he2] at HCB HCS
  rw [← hf1, ← hf2, ← he1, ← he2]
  rw [← hpxe] at hf1 hf2
  rw [← hqxe] at he1 he2
  have HF1 := Lib.hid hf1; have HF2 := Lib.hid hf2; have HE1 := Lib.hid he1; have HE2 := Lib.hid he2; have HPE := Lib.hid hpxe; have HQE := Lib.hid hqxe
  clear hf1 hf2 he1 he2 hpxe hqxe
  generalize p.2.num = f3 at *
  generalize (p.2.den : Int) = f4 at *
  generalize q.2.num = e3 at *
  generalize (q.2.den : Int) = e4 at *
  go_enter Try.func22, Try.ntmps22
  go_upto_region 1 with fail
  go_cut [7, 8] (fun s7 s8 wx => s7 = .int .i64 sa ∧ s8 = .int .i64 sb ∧ w.heap.size + 1 < wx.heap.size ∧ wx.cell? ⟨w.heap.size, 0, none⟩ = some (.int .i64 f1) ∧ wx.cell? ⟨w.heap.size, 1, none⟩ = some (.int .i64 f2) ∧ wx.cell? ⟨w.heap.size, 2, none⟩ = some (.int .i64 f3) ∧ wx.cell? ⟨w.heap.size, 3, none⟩ = some (.int .i64 f4) ∧
      wx.cell? ⟨w.heap.size + 1, 0, none⟩ = some (.int .i64 e1) ∧ wx.cell? ⟨w.heap.size + 1, 1, none⟩ = some (.int .i64 e2) ∧ wx.cell? ⟨w.heap.size + 1, 2, none⟩ = some (.int .i64 e3) ∧ wx.cell? ⟨w.heap.size + 1, 3, none⟩ = some (.int .i64 e4) ∧ Below w.heap.size w wx)
  case first =>
    go_region_held3 (fun w' => (w'.cell? ⟨w.heap.size, 0, none⟩ = some (.int .i64 f1) ∧ w'.cell? ⟨w.heap.size, 1, none⟩ = some (.int .i64 f2) ∧ w'.cell? ⟨w.heap.size, 2, none⟩ = some (.int .i64 f3) ∧ w'.cell? ⟨w.heap.size, 3, none⟩ = some (.int .i64 f4)) ∧
        w'.cell? ⟨w.heap.size + 1, 0, none⟩ = some (.int .i64 e1) ∧ w'.cell? ⟨w.heap.size + 1, 1, none⟩ = some (.int .i64 e2) ∧ w'.cell? ⟨w.heap.size + 1, 2, none⟩ = some (.int .i64 e3) ∧ w'.cell? ⟨w.heap.size + 1, 3, none⟩ = some (.int .i64 e4)) (simp [go_sem, World.cell?_alloc_past, *])
      (first | (go_at_call 42; (with_reducible refine ((unhide HCA) _).mono ?_); rintro e w3 ⟨rfl, hbw3⟩; obtain ⟨hcw3, hfw3⟩ := bcell hbw3; have hzw3 := hbw3.size; (try simp at hzw3); (try ((have kw3w0 := (bnew hbw3) (w.heap.size) ?pf); (case pf => (first | omega | (simp; done) | (simp; omega))); obtain ⟨kcw3w0, kfw3w0, klw3w0⟩ := kw3w0)); (try ((have kw3w1 := (bnew hbw3) (w.heap.size + 1) ?pf); (case pf => (first | omega | (simp; done) | (simp; omega))); obtain ⟨kcw3w1, kfw3w1, klw3w1⟩ := kw3w1))) | (go_at_call 42; (with_reducible refine ((unhide HCB) _).mono ?_); rintro e w4 ⟨rfl, hbw4⟩; obtain ⟨hcw4, hfw4⟩ := bcell hbw4; have hzw4 := hbw4.size; (try simp at hzw4); (try ((have kw4w0 := (bnew hbw4) (w.heap.size) ?pf); (case pf => (first | omega | (simp; done) | (simp; omega))); obtain ⟨kcw4w0, kfw4w0, klw4w0⟩ := kw4w0)); (try ((have kw4w1 := (bnew hbw4) (w.heap.size + 1) ?pf); (case pf => (first | omega | (simp; done) | (simp; omega))); obtain ⟨kcw4w1, kfw4w1, klw4w1⟩ := kw4w1))))
    all_goals
      go_wp2_with fail
      go_meet
      refine ⟨rfl, rfl, ?_, ?_, ?_, ?_, ?_, ?_, ?_, ?_, ?_, (by repeat (first | with_reducible exact Below.refl _ _ | with_reducible assumption | (with_reducible refine Below.trans ?_ (Below.mono (by assumption) (by first | omega | (simp <;> omega)))) | with_reducible apply Below.drew | with_reducible apply below_drewN | (with_reducible refine Below.alloc ?_ (by first | omega | (simp <;> omega)) _) | (with_reducible refine Below.setCell ?_ (by first | omega | (simp <;> omega)) _)))⟩
    all_goals first | (simp [go_sem, *]; done) | omega | (simp <;> omega)
  case rest =>
    obtain ⟨rfl, rfl, hwl, a0, a1, a2, a3, b0, b1, b2, b3, hbc0⟩ := hcut
    have hwl0 : w.heap.size < wc.heap.size := by omega
    have HO3 := hide (own_below (unhide HO) hbc0)
    have hbc : base ≤ wc.heap.size := Nat.le_trans hbase hbc0.size
    have HBC := hide hbc0
    have hn : nn ≤ 1000 := by omega
    clear hbc0 HO HCA HCB
    rcases Decidable.em (sa = 0) with ha0 | ha0
    · rcases Decidable.em (sb = 0) with hb0 | hb0
      · subst ha0 hb0
        obtain rfl : L = putL (putL l px) qx := by
          have h := mStep_00 (inn := innF) (l := l) HSA.out.symm HSB.out.symm
          rw [hL] at h
          injection h with h
          rw [h, HPE.out, HQE.out]
        go_wp2_with (first | (have _t := hbw5; clear _t; go_at_call 44; (with_reducible refine (imPut_q Aw5 (putL l px).length cw5 base (putL l px) qx e1 e2 HE1.out HE2.out w5 _ (unhide HOw5) ?pb (Nat.le_trans hbc hzw5) (by have := putL_lens l px; omega) (fun h => absurd h (by have := putL_lens l px; omega)) (putL_fits hf HPX.out) HQX.out).mono ?_); (case pb => exact (by repeat (first | with_reducible exact Below.refl _ _ | with_reducible assumption | (with_reducible refine Below.trans ?_ (Below.mono (by assumption) (by first | omega | (simp <;> omega)))) | with_reducible apply Below.drew | with_reducible apply below_drewN | (with_reducible refine Below.alloc ?_ (by first | omega | (simp <;> omega)) _) | (with_reducible refine Below.setCell ?_ (by first | omega | (simp <;> omega)) _)))); rintro e w6 ⟨Aw6, cw6, rfl, how6, hbw6⟩; have HOw6 := hide how6; clear how6; have hzw6 := hbw6.size; (try simp at hzw6); (skip; (try ((have kw6w0 := (bnew hbw6) (w.heap.size) ?pf); (case pf => (first | omega | (simp; done) | (simp; omega))); obtain ⟨kcw6w0, kfw6w0, klw6w0⟩ := kw6w0)); (try ((have kw6w1 := (bnew hbw6) (w.heap.size + 1) ?pf); (case pf => (first | omega | (simp; done) | (simp; omega))); obtain ⟨kcw6w1, kfw6w1, klw6w1⟩ := kw6w1)))) | (go_at_call 44; (with_reducible refine (imPut_q A nn cc base l px f1 f2 HF1.out HF2.out wc _ (unhide HO3) ?pb hbc hn hA hf HPX.out).mono ?_); (case pb => exact (by repeat (first | with_reducible exact Below.refl _ _ | with_reducible assumption | (with_reducible refine Below.trans ?_ (Below.mono (by assumption) (by first | omega | (simp <;> omega)))) | with_reducible apply Below.drew | with_reducible apply below_drewN | (with_reducible refine Below.alloc ?_ (by first | omega | (simp <;> omega)) _) | (with_reducible refine Below.setCell ?_ (by first | omega | (simp <;> omega)) _)))); rintro e w5 ⟨Aw5, cw5, rfl, how5, hbw5⟩; have HOw5 := hide how5; clear how5; have hzw5 := hbw5.size; (try simp at hzw5); (skip; (try ((have kw5w0 := (bnew hbw5) (w.heap.size) ?pf); (case pf => (first | omega | (simp; done) | (simp; omega))); obtain ⟨kcw5w0, kfw5w0, klw5w0⟩ := kw5w0)); (try ((have kw5w1 := (bnew hbw5) (w.heap.size + 1) ?pf); (case pf => (first | omega | (simp; done) | (simp; omega))); obtain ⟨kcw5w1, kfw5w1, klw5w1⟩ := kw5w1)))))
        have hb := unhide HBC
        go_ret
        exact ⟨_, _, rfl, unhide HOw6, fun h => absurd h (by have := putL_lens (putL l px) qx; omega), (by repeat (first | with_reducible exact Below.refl _ _ | with_reducible assumption | (with_reducible refine Below.trans ?_ (Below.mono (by assumption) (by first | omega | (simp <;> omega)))) | with_reducible apply Below.drew | with_reducible apply below_drewN | (with_reducible refine Below.alloc ?_ (by first | omega | (simp <;> omega)) _) | (with_reducible refine Below.setCell ?_ (by first | omega | (simp <;> omega)) _)))⟩
      · subst ha0
        have hb1 : (sb == 0) = false := by simpa using hb0
        have hb2 : decide (sb = 0) = false := by simpa using hb0
        obtain rfl : L = putL l px := by
          have h := mStep_0n (inn := innF) (l := l) HSA.out.symm (fun h => hb0 (HSB.out.trans h))
          rw [hL] at h
          injection h with h
          rw [h, HPE.out]
        go_wp2_with (go_at_call 44; (with_reducible refine (imPut_q A nn cc base l px f1 f2 HF1.out HF2.out wc _ (unhide HO3) ?pb hbc hn hA hf HPX.out).mono ?_); (case pb => exact (by repeat (first | with_reducible exact Below.refl _ _ | with_reducible assumption | (with_reducible refine Below.trans ?_ (Below.mono (by assumption) (by first | omega | (simp <;> omega)))) | with_reducible apply Below.drew | with_reducible apply below_drewN | (with_reducible refine Below.alloc ?_ (by first | omega | (simp <;> omega)) _) | (with_reducible refine Below.setCell ?_ (by first | omega | (simp <;> omega)) _)))); rintro e w5 ⟨Aw5, cw5, rfl, how5, hbw5⟩; have HOw5 := hide how5; clear how5; have hzw5 := hbw5.size; (try simp at hzw5); (skip; (try ((have kw5w0 := (bnew hbw5) (w.heap.size) ?pf); (case pf => (first | omega | (simp; done) | (simp; omega))); obtain ⟨kcw5w0, kfw5w0, klw5w0⟩ := kw5w0)); (try ((have kw5w1 := (bnew hbw5) (w.heap.size + 1) ?pf); (case pf => (first | omega | (simp; done) | (simp; omega))); obtain ⟨kcw5w1, kfw5w1, klw5w1⟩ := kw5w1))))
        have hb := unhide HBC
        go_ret
        exact ⟨_, _, rfl, unhide HOw5, fun h => absurd h (by have := putL_lens l px; omega), (by repeat (first | with_reducible exact Below.refl _ _ | with_reducible assumption | (with_reducible refine Below.trans ?_ (Below.mono (by assumption) (by first | omega | (simp <;> omega)))) | with_reducible apply Below.drew | with_reducible apply below_drewN | (with_reducible refine Below.alloc ?_ (by first | omega | (simp <;> omega)) _) | (with_reducible refine Below.setCell ?_ (by first | omega | (simp <;> omega)) _)))⟩
    · have ha1 : (sa == 0) = false := by simpa using ha0
      have ha2 : decide (sa = 0) = false := by simpa using ha0
      rcases Decidable.em (sb = 0) with hb0 | hb0
      · subst hb0
        obtain rfl : L = putL l qx := by
          have h := mStep_n0 (inn := innF) (l := l) (fun h => ha0 (HSA.out.trans h)) HSB.out.symm
          rw [hL] at h
          injection h with h
          rw [h, HQE.out]
        go_wp2_with (go_at_call 44; (with_reducible refine (imPut_q A nn cc base l qx e1 e2 HE1.out HE2.out wc _ (unhide HO3) ?pb hbc hn hA hf HQX.out).mono ?_); (case pb => exact (by repeat (first | with_reducible exact Below.refl _ _ | with_reducible assumption | (with_reducible refine Below.trans ?_ (Below.mono (by assumption) (by first | omega | (simp <;> omega)))) | with_reducible apply Below.drew | with_reducible apply below_drewN | (with_reducible refine Below.alloc ?_ (by first | omega | (simp <;> omega)) _) | (with_reducible refine Below.setCell ?_ (by first | omega | (simp <;> omega)) _)))); rintro e w5 ⟨Aw5, cw5, rfl, how5, hbw5⟩; have HOw5 := hide how5; clear how5; have hzw5 := hbw5.size; (try simp at hzw5); (skip; (try ((have kw5w0 := (bnew hbw5) (w.heap.size) ?pf); (case pf => (first | omega | (simp; done) | (simp; omega))); obtain ⟨kcw5w0, kfw5w0, klw5w0⟩ := kw5w0)); (try ((have kw5w1 := (bnew hbw5) (w.heap.size + 1) ?pf); (case pf => (first | omega | (simp; done) | (simp; omega))); obtain ⟨kcw5w1, kfw5w1, klw5w1⟩ := kw5w1))))
        have hb := unhide HBC
        go_ret
        exact ⟨_, _, rfl, unhide HOw5, fun h => absurd h (by have := putL_lens l qx; omega), (by repeat (first | with_reducible exact Below.refl _ _ | with_reducible assumption | (with_reducible refine Below.trans ?_ (Below.mono (by assumption) (by first | omega | (simp <;> omega)))) | with_reducible apply Below.drew | with_reducible apply below_drewN | (with_reducible refine Below.alloc ?_ (by first | omega | (simp <;> omega)) _) | (with_reducible refine Below.setCell ?_ (by first | omega | (simp <;> omega)) _)))⟩
      · have hb1 : (sb == 0) = false := by simpa using hb0
        have hb2 : decide (sb = 0) = false := by simpa using hb0
        rcases Decidable.em (sa * sb < 0) with hpn | hpn
        · have hge : decide (0 ≤ sa * sb) = false := decide_eq_false (by omega)
          have hne := (unhide HNE) (by rw [← HSA.out, ← HSB.out]; exact hpn)
          obtain ⟨x, hx⟩ : ∃ x, x = fixR p q := ⟨_, rfl⟩
          obtain rfl : L = putL l x := by
            have h := mStep_in (inn := innF) (l := l) (fun h => ha0 (HSA.out.trans h)) (fun h => hb0 (HSB.out.trans h)) (by rw [← HSA.out, ← HSB.out]; exact hpn)
            rw [hL] at h
            have h' : some L = some (putL l (fixR p q)) := h
            injection h' with h'
            rw [h', hx]
          have hcs := (unhide HCS) hne
          rw [← hx] at hcs
          obtain ⟨ln, ld, rn, rd, nn', nd, un, ud, sn, sdd, dn, dd, c1, c2, c3, c4, c5, c6, c7, fx⟩ := hcs
          have HXF := Lib.hid fx
          obtain ⟨xn, hxn⟩ : ∃ r, r = x.num := ⟨_, rfl⟩
          obtain ⟨xd, hxd⟩ : ∃ r, r = (x.den : Int) := ⟨_, rfl⟩
          rw [← hxn, ← hxd] at c7
          have HXN := Lib.hid hxn; have HXD := Lib.hid hxd
          have D1 := hide c1; have D2 := hide c2; have D3 := hide c3; have D4 := hide c4; have D5 := hide c5; have D6 := hide c6; have D7 := hide c7
          clear hxn hxd fx hx hne c1 c2 c3 c4 c5 c6 c7
          go_wp2_with (first | (have _t := hbw7; clear _t; go_at_call 44; (with_reducible refine (imPut_q A nn cc base l x xn xd HXN.out HXD.out wc _ (unhide HO3) ?pb hbc hn hA hf HXF.out).mono ?_); (case pb => exact (by repeat (first | with_reducible exact Below.refl _ _ | with_reducible assumption | (with_reducible refine Below.trans ?_ (Below.mono (by assumption) (by first | omega | (simp <;> omega)))) | with_reducible apply Below.drew | with_reducible apply below_drewN | (with_reducible refine Below.alloc ?_ (by first | omega | (simp <;> omega)) _) | (with_reducible refine Below.setCell ?_ (by first | omega | (simp <;> omega)) _)))); rintro e w8 ⟨Aw8, cw8, rfl, how8, hbw8⟩; have HOw8 := hide how8; clear how8; have hzw8 := hbw8.size; (try simp at hzw8); (skip; (try ((have kw8w0 := (bnew hbw8) (w.heap.size) ?pf); (case pf => (first | omega | (simp; done) | (simp; omega))); obtain ⟨kcw8w0, kfw8w0, klw8w0⟩ := kw8w0)); (try ((have kw8w1 := (bnew hbw8) (w.heap.size + 1) ?pf); (case pf => (first | omega | (simp; done) | (simp; omega))); obtain ⟨kcw8w1, kfw8w1, klw8w1⟩ := kw8w1)))) | (go_at_call 47; have _t := hbw6; clear _t; (with_reducible refine ((unhide D7) _).mono ?_); rintro e w7 ⟨rfl, hbw7⟩; obtain ⟨hcw7, hfw7⟩ := bcell hbw7; have hzw7 := hbw7.size; (try simp at hzw7); (try ((have kw7w0 := (bnew hbw7) (w.heap.size) ?pf); (case pf => (first | omega | (simp; done) | (simp; omega))); obtain ⟨kcw7w0, kfw7w0, klw7w0⟩ := kw7w0)); (try ((have kw7w1 := (bnew hbw7) (w.heap.size + 1) ?pf); (case pf => (first | omega | (simp; done) | (simp; omega))); obtain ⟨kcw7w1, kfw7w1, klw7w1⟩ := kw7w1)); (try ((have kw7w30 := (bnew hbw7) (w3.heap.size) ?pf); (case pf => (first | omega | (simp; done) | (simp; omega))); obtain ⟨kcw7w30, kfw7w30, klw7w30⟩ := kw7w30)); (try ((have kw7w60 := (bnew hbw7) (w6.heap.size) ?pf); (case pf => (first | omega | (simp; done) | (simp; omega))); obtain ⟨kcw7w60, kfw7w60, klw7w60⟩ := kw7w60))) | (go_at_call 46; have _t := hbw5; clear _t; (with_reducible refine ((unhide D6) _).mono ?_); rintro e w6 ⟨rfl, hbw6⟩; obtain ⟨hcw6, hfw6⟩ := bcell hbw6; have hzw6 := hbw6.size; (try simp at hzw6); (try ((have kw6w0 := (bnew hbw6) (w.heap.size) ?pf); (case pf => (first | omega | (simp; done) | (simp; omega))); obtain ⟨kcw6w0, kfw6w0, klw6w0⟩ := kw6w0)); (try ((have kw6w1 := (bnew hbw6) (w.heap.size + 1) ?pf); (case pf => (first | omega | (simp; done) | (simp; omega))); obtain ⟨kcw6w1, kfw6w1, klw6w1⟩ := kw6w1)); (try ((have kw6w30 := (bnew hbw6) (w3.heap.size) ?pf); (case pf => (first | omega | (simp; done) | (simp; omega))); obtain ⟨kcw6w30, kfw6w30, klw6w30⟩ := kw6w30)); (try ((have kw6w40 := (bnew hbw6) (w4.heap.size) ?pf); (case pf => (first | omega | (simp; done) | (simp; omega))); obtain ⟨kcw6w40, kfw6w40, klw6w40⟩ := kw6w40)); (try ((have kw6w50 := (bnew hbw6) (w5.heap.size) ?pf); (case pf => (first | omega | (simp; done) | (simp; omega))); obtain ⟨kcw6w50, kfw6w50, klw6w50⟩ := kw6w50))) | (go_at_call 46; have _t := hbw4; clear _t; (with_reducible refine ((unhide D5) _).mono ?_); rintro e w5 ⟨rfl, hbw5⟩; obtain ⟨hcw5, hfw5⟩ := bcell hbw5; have hzw5 := hbw5.size; (try simp at hzw5); (try ((have kw5w0 := (bnew hbw5) (w.heap.size) ?pf); (case pf => (first | omega | (simp; done) | (simp; omega))); obtain ⟨kcw5w0, kfw5w0, klw5w0⟩ := kw5w0)); (try ((have kw5w1 := (bnew hbw5) (w.heap.size + 1) ?pf); (case pf => (first | omega | (simp; done) | (simp; omega))); obtain ⟨kcw5w1, kfw5w1, klw5w1⟩ := kw5w1)); (try ((have kw5w30 := (bnew hbw5) (w3.heap.size) ?pf); (case pf => (first | omega | (simp; done) | (simp; omega))); obtain ⟨kcw5w30, kfw5w30, klw5w30⟩ := kw5w30)); (try ((have kw5w40 := (bnew hbw5) (w4.heap.size) ?pf); (case pf => (first | omega | (simp; done) | (simp; omega))); obtain ⟨kcw5w40, kfw5w40, klw5w40⟩ := kw5w40))) | (go_at_call 46; have _t := hbw3; clear _t; (with_reducible refine ((unhide D4) _).mono ?_); rintro e w4 ⟨rfl, hbw4⟩; obtain ⟨hcw4, hfw4⟩ := bcell hbw4; have hzw4 := hbw4.size; (try simp at hzw4); (try ((have kw4w0 := (bnew hbw4) (w.heap.size) ?pf); (case pf => (first | omega | (simp; done) | (simp; omega))); obtain ⟨kcw4w0, kfw4w0, klw4w0⟩ := kw4w0)); (try ((have kw4w1 := (bnew hbw4) (w.heap.size + 1) ?pf); (case pf => (first | omega | (simp; done) | (simp; omega))); obtain ⟨kcw4w1, kfw4w1, klw4w1⟩ := kw4w1)); (try ((have kw4w30 := (bnew hbw4) (w3.heap.size) ?pf); (case pf => (first | omega | (simp; done) | (simp; omega))); obtain ⟨kcw4w30, kfw4w30, klw4w30⟩ := kw4w30))) | (go_at_call 46; have _t := hbw2; clear _t; (with_reducible refine ((unhide D3) _).mono ?_); rintro e w3 ⟨rfl, hbw3⟩; obtain ⟨hcw3, hfw3⟩ := bcell hbw3; have hzw3 := hbw3.size; (try simp at hzw3); (try ((have kw3w0 := (bnew hbw3) (w.heap.size) ?pf); (case pf => (first | omega | (simp; done) | (simp; omega))); obtain ⟨kcw3w0, kfw3w0, klw3w0⟩ := kw3w0)); (try ((have kw3w1 := (bnew hbw3) (w.heap.size + 1) ?pf); (case pf => (first | omega | (simp; done) | (simp; omega))); obtain ⟨kcw3w1, kfw3w1, klw3w1⟩ := kw3w1)); (try ((have kw3w10 := (bnew hbw3) (w1.heap.size) ?pf); (case pf => (first | omega | (simp; done) | (simp; omega))); obtain ⟨kcw3w10, kfw3w10, klw3w10⟩ := kw3w10)); (try ((have kw3w20 := (bnew hbw3) (w2.heap.size) ?pf); (case pf => (first | omega | (simp; done) | (simp; omega))); obtain ⟨kcw3w20, kfw3w20, klw3w20⟩ := kw3w20))) | (go_at_call 45; have _t := hbw1; clear _t; (with_reducible refine ((unhide D2) _).mono ?_); rintro e w2 ⟨rfl, hbw2⟩; obtain ⟨hcw2, hfw2⟩ := bcell hbw2; have hzw2 := hbw2.size; (try simp at hzw2); (try ((have kw2w0 := (bnew hbw2) (w.heap.size) ?pf); (case pf => (first | omega | (simp; done) | (simp; omega))); obtain ⟨kcw2w0, kfw2w0, klw2w0⟩ := kw2w0)); (try ((have kw2w1 := (bnew hbw2) (w.heap.size + 1) ?pf); (case pf => (first | omega | (simp; done) | (simp; omega))); obtain ⟨kcw2w1, kfw2w1, klw2w1⟩ := kw2w1)); (try ((have kw2w10 := (bnew hbw2) (w1.heap.size) ?pf); (case pf => (first | omega | (simp; done) | (simp; omega))); obtain ⟨kcw2w10, kfw2w10, klw2w10⟩ := kw2w10))) | (go_at_call 45; (with_reducible refine ((unhide D1) _).mono ?_); rintro e w1 ⟨rfl, hbw1⟩; obtain ⟨hcw1, hfw1⟩ := bcell hbw1; have hzw1 := hbw1.size; (try simp at hzw1); (try ((have kw1w0 := (bnew hbw1) (w.heap.size) ?pf); (case pf => (first | omega | (simp; done) | (simp; omega))); obtain ⟨kcw1w0, kfw1w0, klw1w0⟩ := kw1w0)); (try ((have kw1w1 := (bnew hbw1) (w.heap.size + 1) ?pf); (case pf => (first | omega | (simp; done) | (simp; omega))); obtain ⟨kcw1w1, kfw1w1, klw1w1⟩ := kw1w1))))
          have hb := unhide HBC
          go_ret
          exact ⟨_, _, rfl, unhide HOw8, fun h => absurd h (by have := putL_lens l x; omega), (by repeat (first | with_reducible exact Below.refl _ _ | with_reducible assumption | (with_reducible refine Below.trans ?_ (Below.mono (by assumption) (by first | omega | (simp <;> omega)))) | with_reducible apply Below.drew | with_reducible apply below_drewN | (with_reducible refine Below.alloc ?_ (by first | omega | (simp <;> omega)) _) | (with_reducible refine Below.setCell ?_ (by first | omega | (simp <;> omega)) _)))⟩
        · have hge : decide (0 ≤ sa * sb) = true := decide_eq_true (by omega)
          have hLl : L = l := by
            have h := mStep_nn (inn := innF) (l := l) (fun h => ha0 (HSA.out.trans h)) (fun h => hb0 (HSB.out.trans h)) (by rw [← HSA.out, ← HSB.out]; exact hpn)
            rw [hL] at h
            injection h
          subst hLl
          go_wp2_with fail
          go_ret
          have hnn := HNN.out
          subst hnn
          exact ⟨_, _, rfl, unhide HO3, fun h => hA (by simp [h]), unhide HBC⟩
theorem mStep_tot {l : List Rat} {p q : QP} (hf : ∀ z ∈ l, fits z = true) (hp : fits p.1 = true) (hq : fits q.1 = true) (hx : sdF p * sdF q < 0 → fits (fixR p q) = true) :
    ∃ L, mStep sdF innF l p q = some L ∧ (∀ z ∈ L, fits z = true) ∧ L.length ≤ l.length + 2 := by
  by_cases h1 : sdF p = 0
  · by_cases h2 : sdF q = 0
    · refine ⟨_, mStep_00 h1 h2, putL_fits (putL_fits hf hp) hq, ?_⟩
      have := putL_lens l p.1
      have := putL_lens (putL l p.1) q.1
      omega
    · refine ⟨_, mStep_0n h1 h2, putL_fits hf hp, ?_⟩
      have := putL_lens l p.1
      omega
  · by_cases h2 : sdF q = 0
    · refine ⟨_, mStep_n0 h1 h2, putL_fits hf hq, ?_⟩
      have := putL_lens l q.1
      omega
    · by_cases h3 : sdF p * sdF q < 0
      · refine ⟨putL l (fixR p q), mStep_in h1 h2 h3, putL_fits hf (hx h3), ?_⟩
        have := putL_lens l (fixR p q)
        omega
      · exact ⟨l, mStep_nn h1 h2 h3, hf, by omega⟩
theorem pwK_tot (qs : List QP) : ∀ k, ∃ l, pwK sdF innF qs k = some l
  | 0 => ⟨[], rfl⟩
  | k + 1 => by
    obtain ⟨l, hl⟩ := pwK_tot qs k
    simp only [pwK, hl, Option.bind_some, pStep, innF, Option.map_some]
    split
    · split
      · exact ⟨_, rfl⟩
      · split
        · exact ⟨_, rfl⟩
        · exact ⟨_, rfl⟩
    · split
      · exact ⟨_, rfl⟩
      · exact ⟨_, rfl⟩
/-- The fixed points of a map. -/
def fpF (ps : List Pt) : List Fr := match mapB ps with | true => ((pwK sdF innF (dec ps) ps.length).getD []).map qf | false => []
theorem fpF_no {ps : List Pt} (h : mapB ps = false) : fpF ps = [] := by unfold fpF; simp only [h]
theorem fpF_map {qs : List QP} (hg : GMap qs) : fpF (qs.map qp) = ((pwK sdF innF qs qs.length).getD []).map qf := by
  unfold fpF; simp only [hg.mapB, dec_qp, List.length_map]
theorem fpF_len (ps : List Pt) : (fpF ps).length ≤ 1048576 := by
  unfold fpF
  cases hm : mapB ps with
  | false => simp
  | true =>
    have h2 : ps.length ≤ 12 := by
      rcases Decidable.em (2 ≤ ps.length ∧ ps.length ≤ 12) with h1 | h1
      · exact h1.2
      · rw [mapB_len h1] at hm; cases hm
    obtain ⟨l, hl⟩ := pwK_tot (dec ps) ps.length
    have := pwK_len ps.length l hl
    simp only [hl, Option.getD_some, List.length_map]
    omega

set_option maxRecDepth 100000 in
set_option maxHeartbeats 1600000 in
theorem sFixed_map (g m c base : Nat) (qs : List QP) (w : World) (ha : w.ownsRow base 45 4 (.slice (some ⟨g, 0, none⟩) (m + 1) c) (m + 1) (ptcs (qs.map qp))) (hg : GMap qs) (hm : mapB (qs.map qp) = true) (hn : m + 1 ≤ 1048576) :
    Calls Try.prog 7 #[.slice (some ⟨g, 0, none⟩) (m + 1) c] w fun e w' => ∃ (l : List Rat) (v : Value), mwK sdF innF qs m = some l ∧ e = .returned (.tuple #[v, .bool true]) ∧ w'.ownsRow w.heap.size 37 2 v l.length (frcs (l.map qf)) ∧ Below w.heap.size w w' := by
  have hlen : qs.length = m + 1 := by have := own_len ha; rw [List.length_map] at this; exact this
  have hhi := hg.hi
  have hlo := hg.lo
  rw [hlen] at hhi hlo
  have hgl : g < w.heap.size := (ha.lt g rfl).2
  have hmap := imGood_any (some ⟨g, 0, none⟩) (m + 1) c base _ w ha hn
  rw [hm] at hmap
  have HM := hide hmap; clear hmap hm
  have HA := hide ha
  have HL := Lib.hid hlen
  clear ha hlen
  go_enter Try.func7, Try.ntmps7
  go_wp2_with (go_at_call 21; (with_reducible refine (unhide HM).mono ?_); rintro e w1 ⟨rfl, hbw1⟩)
  go_loopw [4, 5] (fun v i wr => ∃ (j : Nat) (A : Option Addr) (nn cc : Nat) (l : List Rat), i = .int .i64 ((j : Int) + 1) ∧ v = .slice A nn cc ∧ j ≤ m ∧ Hid (nn = l.length) ∧ nn ≤ 2 * j ∧ (nn = 0 → A = none ∧ cc = 0) ∧ Hid (mwK sdF innF qs j = some l) ∧ Hid (∀ z ∈ l, fits z = true) ∧ wr.ownsRow w.heap.size 37 2 (.slice A nn cc) nn (frcs (l.map qf)) ∧ Below w.heap.size w wr) (fun _ i _ => m + 1 - (intOf i).toNat)
  case atStart => exact ⟨0, none, 0, 0, [], rfl, rfl, by omega, hide rfl, by simp, fun _ => ⟨rfl, rfl⟩, hide rfl, hide (fun z h => by cases h), World.ownsRow_nil _ _ _ _, hbw1⟩
  case round =>
    obtain ⟨j, A, nn, cc, l, rfl, rfl, hj, HNN, hn2, hAn, HP, HF, hown, hbwr⟩ := hrel
    have hzwr := hbwr.size
    by_cases hlt : j < m
    · have hj1 : j + 1 < qs.length := by rw [HL.out]; omega
      have hC := own_below (unhide HA) hbwr
      obtain ⟨l0, l1, l2, l3⟩ := q_cells hC (k := j) (by omega)
      obtain ⟨r0, r1, r2, r3⟩ := q_cells hC (k := j + 1) (by omega)
      have hglr : g < wr.heap.size := by omega
      obtain ⟨L, hL, hLf, hLn⟩ := mStep_tot (l := l) (p := qAt qs j) (q := qAt qs (j + 1)) (unhide HF) (co_fits (hg.cx j (by omega))) (co_fits (hg.cx _ hj1)) (fun hz => fix_fits (hg.cx j (by omega)) (hg.cy j (by omega)) (hg.cx _ hj1) (hg.cy _ hj1) (fixR_ne hz))
      have hst := (mwK_step (unhide HP)).trans hL
      have hLn2 : L.length ≤ 2 * (j + 1) := by have := HNN.out; omega
      have hif : ∀ W : World, Below wr.heap.size wr W → Calls Try.prog 22 #[.slice A nn cc, .agg #[.int .i64 ((qAt qs j).1.num), .int .i64 ((qAt qs j).1.den), .int .i64 ((qAt qs j).2.num), .int .i64 ((qAt qs j).2.den)], .agg #[.int .i64 ((qAt qs (j + 1)).1.num), .int .i64 ((qAt qs (j + 1)).1.den), .int .i64 ((qAt qs (j + 1)).2.num), .int .i64 ((qAt qs (j + 1)).2.den)]] W fun e w' =>
          ∃ (A' : Option Addr) (c' : Nat), e = .returned (.slice A' L.length c') ∧ w'.ownsRow w.heap.size 37 2 (.slice A' L.length c') L.length (frcs (L.map qf)) ∧ (L.length = 0 → A' = none ∧ c' = 0) ∧ Below W.heap.size W w' :=
        fun W hW => imFixed_q A nn cc w.heap.size l L _ _ W (own_below hown hW) (Nat.le_trans hzwr hW.size) (by omega) hAn (unhide HF) (hg.cx j (by omega)) (hg.cy j (by omega)) (hg.cx _ hj1) (hg.cy _ hj1) hL
      have HI := hide hif; have HST := hide hst; have HLF := hide hLf; have HB := hide hbwr
      clear hif hst hL hLf hLn hbwr hown hC HP HF HNN
      generalize (qAt qs (j + 1)).1.num = e1 at *
      generalize ((qAt qs (j + 1)).1.den : Int) = e2 at *
      generalize (qAt qs (j + 1)).2.num = e3 at *
      generalize ((qAt qs (j + 1)).2.den : Int) = e4 at *
      generalize (qAt qs j).1.num = f1 at *
      generalize ((qAt qs j).1.den : Int) = f2 at *
      generalize (qAt qs j).2.num = f3 at *
      generalize ((qAt qs j).2.den : Int) = f4 at *
      have s1 : IntKind.i64.wrap (j : Int) = (j : Int) := IntWalk.i64_in _ (by omega)
      have s2 : (0 : Int) ≤ (j : Int) + 1 := by omega
      have s3 : (j : Int) + 1 < (m : Int) + 1 := by omega
      have s4 : (j : Int) < (m : Int) + 1 := by omega
      have s5 : ((j : Int) + 1).toNat = j + 1 := by omega
      go_upto_region 7 with fail
      go_region_held3 (fun w' => (w'.cell? ⟨g, j * 4, none⟩ = some (.int .i64 f1) ∧ w'.cell? ⟨g, j * 4 + 1, none⟩ = some (.int .i64 f2) ∧ w'.cell? ⟨g, j * 4 + 2, none⟩ = some (.int .i64 f3) ∧ w'.cell? ⟨g, j * 4 + 3, none⟩ = some (.int .i64 f4)) ∧
            w'.cell? ⟨g, (j + 1) * 4, none⟩ = some (.int .i64 e1) ∧ w'.cell? ⟨g, (j + 1) * 4 + 1, none⟩ = some (.int .i64 e2) ∧ w'.cell? ⟨g, (j + 1) * 4 + 2, none⟩ = some (.int .i64 e3) ∧ w'.cell? ⟨g, (j + 1) * 4 + 3, none⟩ = some (.int .i64 e4)) (simp [go_sem, *])
          (((go_at_call 22; (with_reducible refine ((unhide HI) _ ?pb).mono ?_); (case pb => exact (by repeat (first | with_reducible exact Below.refl _ _ | with_reducible assumption | (with_reducible refine Below.trans ?_ (Below.mono (by assumption) (by first | omega | (simp <;> omega)))) | with_reducible apply Below.drew | with_reducible apply below_drewN | (with_reducible refine Below.alloc ?_ (by first | omega | (simp <;> omega)) _) | (with_reducible refine Below.setCell ?_ (by first | omega | (simp <;> omega)) _)))); rintro e w3 ⟨A3, c3, rfl, ho3, hA3, hbw3⟩; have HO3 := hide ho3; clear ho3; (skip; (try ((have kw3gX0 := (bnew hbw3) (g) ?pf); (case pf => (first | omega | (simp; done) | (simp; omega))); obtain ⟨kcw3gX0, kfw3gX0, klw3gX0⟩ := kw3gX0))))))
      all_goals
        have hbc : Below wr.heap.size wr w3 := (by repeat (first | with_reducible exact Below.refl _ _ | with_reducible assumption | (with_reducible refine Below.trans ?_ (Below.mono (by assumption) (by first | omega | (simp <;> omega)))) | with_reducible apply Below.drew | with_reducible apply below_drewN | (with_reducible refine Below.alloc ?_ (by first | omega | (simp <;> omega)) _) | (with_reducible refine Below.setCell ?_ (by first | omega | (simp <;> omega)) _)))
        have hb := unhide HB
        have HBZ := hide (hb.trans (hbc.mono hb.size))
        clear hb hbc
        go_wp2_with fail
        go_roundw
        case rel => exact ⟨j + 1, _, _, _, L, by go_num, rfl, by omega, hide rfl, hLn2, hA3, HST, HLF, unhide HO3, unhide HBZ⟩
        case measure => (simp [intOf] <;> omega)
    · obtain rfl : j = m := by omega
      have HO := hide hown
      have HB := hide hbwr
      clear hown hbwr
      go_wp2
      go_ret2
      exact ⟨l, _, unhide HP, rfl, by rw [← HNN.out]; exact unhide HO, unhide HB⟩
set_option maxRecDepth 100000 in
theorem sFixedPoints_any (A : Option Addr) (n c base : Nat) (ps : List Pt) (w : World) (ha : w.ownsRow base 45 4 (.slice A n c) n (ptcs ps)) (hn : n ≤ 1048576) :
    Calls Try.prog 7 #[.slice A n c] w fun e w' => GivesR w.heap.size (fpF ps) (mapB ps) e w' ∧ Below w.heap.size w w' := by
  rcases hm : mapB ps with _ | _
  · have hl := imGood_any A n c base ps w ha hn
    rw [hm] at hl
    rw [fpF_no hm]
    have HM := hide hl; clear hl hm ha
    go_enter Try.func7, Try.ntmps7
    go_wp2_with (go_at_call 21; (with_reducible refine (unhide HM).mono ?_); rintro e w1 ⟨rfl, hbw1⟩)
    go_ret2
    exact ⟨⟨none, 0, rfl, World.ownsRow_nil _ _ _ _⟩, hbw1⟩
  · obtain ⟨g, m, qs, rfl, rfl, rfl, hg, hlen⟩ := own_form ha hm
    refine (sFixed_map g m c base qs w ha hg hm hn).mono ?_
    rintro e w' ⟨l, v, hl, rfl, ho, hb⟩
    have hlo := hg.lo
    rw [hlen] at hlo
    obtain ⟨m', rfl⟩ : ∃ m', m = m' + 1 := ⟨m - 1, by omega⟩
    have hmp := mw_pw_end (sd := sdF) (inn := innF) (qs := qs) (n := m') hlen (fun k hk => hg.inc k hk) (fun k hk hz x hx => by
      have hx' : fixR (qAt qs k) (qAt qs (k + 1)) = x := Option.some.inj hx
      have := fixR_in (p := qAt qs k) (q := qAt qs (k + 1)) (hg.inc k hk) hz
      rw [hx'] at this
      exact this)
    rw [fpF_map hg, hlen, ← hmp, hl, Option.getD_some]
    obtain ⟨B, d, rfl⟩ := own_slice ho
    exact ⟨⟨B, d, by rw [List.length_map], by rw [List.length_map]; exact ho⟩, hb⟩
set_option maxRecDepth 100000 in
theorem iFixedPoints_any (A : Option Addr) (n c base : Nat) (ps : List Pt) (w : World) (ha : w.ownsRow base 45 4 (.slice A n c) n (ptcs ps)) (hn : n ≤ 1048576) :
    Calls Try.prog 9 #[.slice A n c] w fun e w' => GivesR w.heap.size (fpF ps) (mapB ps) e w' ∧ Below w.heap.size w w' := by
  have hmap := isMap_any A n c base ps w ha hn
  rcases hm : mapB ps with _ | _
  · rw [hm] at hmap
    rw [fpF_no hm]
    have HM := hide hmap; clear hmap hm ha
    go_enter Try.func9, Try.ntmps9
    go_wp2_with (go_at_call 24; (with_reducible refine (unhide HM).mono ?_); rintro e w1 ⟨rfl, hbw1⟩)
    go_ret2
    exact ⟨⟨none, 0, rfl, World.ownsRow_nil _ _ _ _⟩, hbw1⟩
  · obtain ⟨g, m, qs, rfl, rfl, rfl, hg, hlen⟩ := own_form ha hm
    rw [hm] at hmap
    obtain ⟨l, hl⟩ := pwK_tot qs (m + 1)
    rw [fpF_map hg, hlen, hl, Option.getD_some]
    have hpw := fun W hW => pw_fp g m c base qs W hW hg
    have HM := hide hmap; have HW := hide hpw; have HA := hide ha; have HLL := Lib.hid hl
    clear hmap hm hpw ha hl hlen hg
    go_enter Try.func9, Try.ntmps9
    go_wp2_with (go_at_call 24; (with_reducible refine (unhide HM).mono ?_); rintro e w1 ⟨rfl, hbw1⟩)
    refine ((unhide HW) w1 (own_below (unhide HA) hbw1)).mono ?_
    rintro e w2 ⟨h1, -, hb2⟩
    obtain ⟨v, rfl, ho⟩ := h1 l HLL.out
    obtain ⟨B, d, rfl⟩ := own_slice ho
    have HO := hide ho
    clear ho h1
    go_wp2_with fail
    go_ret2
    exact ⟨⟨B, d, by rw [List.length_map]; rfl, by rw [List.length_map]; exact (unhide HO).mono hbw1.size⟩, hbw1.trans (hb2.mono hbw1.size)⟩
end Go.Proofs.Yteannojgicpbnab

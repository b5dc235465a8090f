/-
  Chapter 2: MapText of model and program.
-/
import Derived.Test.YtafcdlojlfnjbaaDoorBld
namespace Go.Proofs.YtafcdlojlfnjbaaDoor
open Go.RowKit Rm

set_option maxRecDepth 100000 in
set_option maxHeartbeats 1600000 in
theorem imText_map (g n c base : Nat) (ps : List Pt) (w : World) (ha : w.ownsRow base 57 4 (.slice (some ⟨g, 0, none⟩) n c) n (ptcs ps)) (hg : Goods ps n) (hn : n ≤ 12) :
    Calls Tryd.prog 11 #[.slice (some ⟨g, 0, none⟩) n c] w fun e w' => e = .returned (.string ⟨(mpT ps n).toArray⟩) ∧ Below w.heap.size w w' := by
  have HA := hide ha
  clear ha
  go_enter Tryd.func11, Tryd.ntmps11
  go_wp2_with fail
  go_loopw [3, 8] (fun s i wr => ∃ k : Nat, i = .int .i64 k ∧ s = .string ⟨(mpT ps k).toArray⟩ ∧ k ≤ n ∧ Below w.heap.size w wr) (fun _ i _ => n - (intOf i).toNat)
  case atStart => exact ⟨0, rfl, rfl, Nat.zero_le _, Below.refl _ _⟩
  case round =>
    obtain ⟨k, rfl, rfl, hk, hb⟩ := hrel
    have hzr := hb.size
    by_cases hlt : k < n
    · rcases hp : pAt ps k with ⟨⟨a, b⟩, ⟨p, q⟩⟩
      obtain ⟨g', hg', hgr, _, h0, h1, h2, h3⟩ := pts_cells (own_below (unhide HA) hb) hlt hp
      obtain rfl : g = g' := by injection hg' with e; injection e
      clear hg'
      obtain ⟨gx, gy⟩ := hg k hlt
      rw [hp] at gx gy
      simp only at gx gy
      have lx := ratTxt_len gx
      have ly := ratTxt_len gy
      have ls := mpT_len hg k hk
      obtain ⟨u1, u2, u3, u4, _⟩ := good_iff.1 gx
      obtain ⟨v1, v2, v3, v4, _⟩ := good_iff.1 gy
      have hX := fun W => raText_any a b W (by omega) (by omega) (by omega) (by omega)
      have hY := fun W => raText_any p q W (by omega) (by omega) (by omega) (by omega)
      have hsn : mpT ps (k + 1) = mpT ps k ++ (((ratTxt a b ++ [32]) ++ ratTxt p q) ++ [59]) := by
        show mpT ps k ++ ptT (pAt ps k) = _
        rw [hp]; rfl
      clear u1 u2 u3 u4 v1 v2 v3 v4 gx gy
      generalize ratTxt a b = xs at *
      generalize ratTxt p q = ys at *
      generalize mpT ps k = ss at *
      obtain ⟨t1, e1⟩ : ∃ t1, t1 = xs ++ [32] := ⟨_, rfl⟩
      obtain ⟨t2, e2⟩ : ∃ t2, t2 = t1 ++ ys := ⟨_, rfl⟩
      obtain ⟨t3, e3⟩ : ∃ t3, t3 = t2 ++ [59] := ⟨_, rfl⟩
      obtain ⟨t4, e4⟩ : ∃ t4, t4 = ss ++ t3 := ⟨_, rfl⟩
      have hsn' : mpT ps (k + 1) = t4 := by rw [hsn, e4, e3, e2, e1]
      have l1 : t1.length ≤ 82 := by rw [e1]; simp; omega
      have l2 : t2.length ≤ 163 := by rw [e2]; simp; omega
      have l3 : t3.length ≤ 164 := by rw [e3]; simp; omega
      have hadd1 : ∀ (W : World), (Op.stringOp .add ⟨xs.toArray⟩ ⟨#[32]⟩).run Tryd.prog W = .ok (.string ⟨t1.toArray⟩) W := fun W => by rw [e1]; exact run_string_add_lists W xs [32] (by omega) (by simp)
      have hadd2 : ∀ (W : World), (Op.stringOp .add ⟨t1.toArray⟩ ⟨ys.toArray⟩).run Tryd.prog W = .ok (.string ⟨t2.toArray⟩) W := fun W => by rw [e2]; exact run_string_add_lists W t1 ys (by omega) (by omega)
      have hadd3 : ∀ (W : World), (Op.stringOp .add ⟨t2.toArray⟩ ⟨#[59]⟩).run Tryd.prog W = .ok (.string ⟨t3.toArray⟩) W := fun W => by rw [e3]; exact run_string_add_lists W t2 [59] (by omega) (by simp)
      have hadd4 : ∀ (W : World), (Op.stringOp .add ⟨ss.toArray⟩ ⟨t3.toArray⟩).run Tryd.prog W = .ok (.string ⟨t4.toArray⟩) W := fun W => by rw [e4]; exact run_string_add_lists W ss t3 (by omega) (by omega)
      have HX := hide hX; have HY := hide hY
      have HS := Lib.hid hsn'
      have HB := hide hb
      have HG := hide hg
      clear hX hY hsn hsn' hb hg e1 e2 e3 e4 l1 l2 l3 lx ly ls hp
      go_upto_region 5 with fail
      go_region_held3 (fun w' => w'.cell? ⟨wr.heap.size, 0, none⟩ = some (.int .i64 a) ∧ w'.cell? ⟨wr.heap.size, 1, none⟩ = some (.int .i64 b) ∧ w'.cell? ⟨wr.heap.size, 2, none⟩ = some (.int .i64 p) ∧ w'.cell? ⟨wr.heap.size, 3, none⟩ = some (.int .i64 q)) (simp [go_sem, *])
        (first
          | (go_at_call 21; (with_reducible refine ((unhide HX) _).mono ?_); rintro e w1 ⟨rfl, hbw1⟩; obtain ⟨hcw1, hfw1⟩ := bcell hbw1; have hzw1 := hbw1.size; (try simp at hzw1); (try ((have kw1wr0 := (bnew hbw1) (wr.heap.size) ?pf); (case pf => (first | omega | (simp; done) | (simp; omega))); obtain ⟨kcw1wr0, kfw1wr0, klw1wr0⟩ := kw1wr0)); (try ((have kw1gX0 := (bnew hbw1) (g) ?pf); (case pf => (first | omega | (simp; done) | (simp; omega))); obtain ⟨kcw1gX0, kfw1gX0, klw1gX0⟩ := kw1gX0)))
          | (go_at_call 21; (with_reducible refine ((unhide HY) _).mono ?_); rintro e w2 ⟨rfl, hbw2⟩; obtain ⟨hcw2, hfw2⟩ := bcell hbw2; have hzw2 := hbw2.size; (try simp at hzw2); (try ((have kw2wr0 := (bnew hbw2) (wr.heap.size) ?pf); (case pf => (first | omega | (simp; done) | (simp; omega))); obtain ⟨kcw2wr0, kfw2wr0, klw2wr0⟩ := kw2wr0)); (try ((have kw2gX0 := (bnew hbw2) (g) ?pf); (case pf => (first | omega | (simp; done) | (simp; omega))); obtain ⟨kcw2gX0, kfw2gX0, klw2gX0⟩ := kw2gX0))))
      all_goals
        have hb := unhide HB
        go_wp2_with fail
        go_roundw
        case rel => exact ⟨k + 1, by go_num, by rw [HS.out], by omega, (by repeat (first | with_reducible exact Below.refl _ _ | with_reducible assumption | (with_reducible refine Below.trans ?_ (Below.mono (by assumption) (by first | omega | (simp <;> omega)))) | with_reducible apply Below.drew | with_reducible apply below_drewN | (with_reducible refine Below.alloc ?_ (by first | omega | (simp <;> omega)) _) | (with_reducible refine Below.setCell ?_ (by first | omega | (simp <;> omega)) _)))⟩
        case measure => simp [intOf]; omega
    · obtain rfl : k = n := by omega
      have HB := hide hb
      clear hb
      go_wp2
      go_ret
      exact ⟨rfl, unhide HB⟩

set_option maxRecDepth 100000 in
set_option maxHeartbeats 1600000 in
theorem iMapText_map (g n c base : Nat) (ps : List Pt) (w : World) (ha : w.ownsRow base 57 4 (.slice (some ⟨g, 0, none⟩) n c) n (ptcs ps)) (hg : Goods ps n) (hm : mapB ps = true) (hn : n ≤ 12) (ht : Pow10 w) :
    Calls Tryd.prog 14 #[.slice (some ⟨g, 0, none⟩) n c] w fun e w' => e = .returned (.tuple #[.string ⟨(mpT ps n).toArray⟩, .bool true]) ∧ Below w.heap.size w w' := by
  have hmap := isMap_any (some ⟨g, 0, none⟩) n c base ps w ha (by omega)
  rw [hm] at hmap
  have HM := hide hmap; clear hmap hm
  have HA := hide ha
  have HT := Lib.hid ht
  clear ha ht
  go_enter Tryd.func14, Tryd.ntmps14
  go_wp2_with (go_at_call 24; (with_reducible refine (unhide HM).mono ?_); rintro e w1 ⟨rfl, hbw1⟩)
  have hz1 := hbw1.size
  have hfb := hide (Lib.fresh_isBuilder 43 5 w1)
  go_loopw [16] (fun i wr => ∃ k : Nat, i = .int .i64 k ∧ k ≤ n ∧ Hid (Lib.IsBuilder 43 5 w1.heap.size w1.heap.size (Lib.byteCells (mpT ps k)) wr) ∧ Below w1.heap.size w1 wr) (fun i _ => n - (intOf i).toNat)
  case atStart => exact ⟨0, rfl, Nat.zero_le _, hfb, (by repeat (first | with_reducible exact Below.refl _ _ | with_reducible assumption | (with_reducible refine Below.trans ?_ (Below.mono (by assumption) (by first | omega | (simp <;> omega)))) | with_reducible apply Below.drew | with_reducible apply below_drewN | (with_reducible refine Below.alloc ?_ (by first | omega | (simp <;> omega)) _) | (with_reducible refine Below.setCell ?_ (by first | omega | (simp <;> omega)) _)))⟩
  case round =>
    obtain ⟨k, rfl, hk, HI, hb⟩ := hrel
    have hzr := hb.size
    clear hfb
    by_cases hlt : k < n
    · rcases hp : pAt ps k with ⟨⟨a, b⟩, ⟨p, q⟩⟩
      obtain ⟨g', hg', hgr, _, h0, h1, h2, h3⟩ := pts_cells (own_below (own_below (unhide HA) hbw1) hb) hlt hp
      obtain rfl : g = g' := by injection hg' with e; injection e
      clear hg'
      obtain ⟨gx, gy⟩ := hg k hlt
      rw [hp] at gx gy
      simp only at gx gy
      have lx := ratTxt_len gx
      have ly := ratTxt_len gy
      have ls := mpT_len hg k hk
      have hX := fun W (hB : Below w.heap.size w W) => iRatText_any a b W (pow10_below HT.out hB)
      have hY := fun W (hB : Below w.heap.size w W) => iRatText_any p q W (pow10_below HT.out hB)
      simp only [gx, ratTxtOr, if_true] at hX
      simp only [gy, ratTxtOr, if_true] at hY
      have hsn : mpT ps (k + 1) = mpT ps k ++ (((ratTxt a b ++ [32]) ++ ratTxt p q) ++ [59]) := by
        show mpT ps k ++ ptT (pAt ps k) = _
        rw [hp]; rfl
      clear gx gy
      generalize ratTxt a b = xs at *
      generalize ratTxt p q = ys at *
      generalize mpT ps k = ss at *
      obtain ⟨t1, e1⟩ : ∃ t1, t1 = xs ++ [32] := ⟨_, rfl⟩
      obtain ⟨t2, e2⟩ : ∃ t2, t2 = t1 ++ ys := ⟨_, rfl⟩
      obtain ⟨t3, e3⟩ : ∃ t3, t3 = t2 ++ [59] := ⟨_, rfl⟩
      have hsn' : mpT ps (k + 1) = ss ++ t3 := by rw [hsn, e3, e2, e1]
      have l1 : t1.length ≤ 82 := by rw [e1]; simp; omega
      have l2 : t2.length ≤ 163 := by rw [e2]; simp; omega
      have l3 : t3.length ≤ 164 := by rw [e3]; simp; omega
      have hadd1 : ∀ (W : World), (Op.stringOp .add ⟨xs.toArray⟩ ⟨#[32]⟩).run Tryd.prog W = .ok (.string ⟨t1.toArray⟩) W := fun W => by rw [e1]; exact run_string_add_lists W xs [32] (by omega) (by simp)
      have hadd2 : ∀ (W : World), (Op.stringOp .add ⟨t1.toArray⟩ ⟨ys.toArray⟩).run Tryd.prog W = .ok (.string ⟨t2.toArray⟩) W := fun W => by rw [e2]; exact run_string_add_lists W t1 ys (by omega) (by omega)
      have hadd3 : ∀ (W : World), (Op.stringOp .add ⟨t2.toArray⟩ ⟨#[59]⟩).run Tryd.prog W = .ok (.string ⟨t3.toArray⟩) W := fun W => by rw [e3]; exact run_string_add_lists W t2 [59] (by omega) (by simp)
      have hlen : (Lib.byteCells ss).length + (⟨t3.toArray⟩ : ByteArray).size ≤ 140737488355328 := by
        rw [Lib.byteCells_length]
        show ss.length + t3.toArray.size ≤ _
        rw [List.size_toArray]; omega
      have HX := hide hX; have HY := hide hY
      have HS := Lib.hid hsn'
      have HG := hide hg
      have HLEN := hide hlen
      clear hX hY hsn hsn' hg hlen e1 e2 e3 l1 l2 l3 lx ly ls hp
      go_wp2_with (first
        | (go_at_call 25; (with_reducible refine ((unhide HX) _ (by repeat (first | with_reducible exact Below.refl _ _ | with_reducible assumption | (with_reducible refine Below.trans ?_ (Below.mono (by assumption) (by first | omega | (simp <;> omega)))) | with_reducible apply Below.drew | with_reducible apply below_drewN | (with_reducible refine Below.alloc ?_ (by first | omega | (simp <;> omega)) _) | (with_reducible refine Below.setCell ?_ (by first | omega | (simp <;> omega)) _)))).mono ?_); rintro e w3 ⟨rfl, hbw3⟩; obtain ⟨hcw3, hfw3⟩ := bcell hbw3; have hzw3 := hbw3.size; (try simp at hzw3); (try ((have kw3wr0 := (bnew hbw3) (wr.heap.size) ?pf); (case pf => (first | omega | (simp; done) | (simp; omega))); obtain ⟨kcw3wr0, kfw3wr0, klw3wr0⟩ := kw3wr0)); (try ((have kw3gX0 := (bnew hbw3) (g) ?pf); (case pf => (first | omega | (simp; done) | (simp; omega))); obtain ⟨kcw3gX0, kfw3gX0, klw3gX0⟩ := kw3gX0)))
        | (go_at_call 25; have _t := hbw3; clear _t; (with_reducible refine ((unhide HY) _ (by repeat (first | with_reducible exact Below.refl _ _ | with_reducible assumption | (with_reducible refine Below.trans ?_ (Below.mono (by assumption) (by first | omega | (simp <;> omega)))) | with_reducible apply Below.drew | with_reducible apply below_drewN | (with_reducible refine Below.alloc ?_ (by first | omega | (simp <;> omega)) _) | (with_reducible refine Below.setCell ?_ (by first | omega | (simp <;> omega)) _)))).mono ?_); rintro e w4 ⟨rfl, hbw4⟩; obtain ⟨hcw4, hfw4⟩ := bcell hbw4; have hzw4 := hbw4.size; (try simp at hzw4); (try ((have kw4wr0 := (bnew hbw4) (wr.heap.size) ?pf); (case pf => (first | omega | (simp; done) | (simp; omega))); obtain ⟨kcw4wr0, kfw4wr0, klw4wr0⟩ := kw4wr0)); (try ((have kw4gX0 := (bnew hbw4) (g) ?pf); (case pf => (first | omega | (simp; done) | (simp; omega))); obtain ⟨kcw4gX0, kfw4gX0, klw4gX0⟩ := kw4gX0)))
        | (go_at_call 15; refine (Tryd.Builder_WriteString w1.heap.size w1.heap.size (Lib.byteCells ss) ⟨t3.toArray⟩ _ (isb_below (unhide HI) (by repeat (first | with_reducible exact Below.refl _ _ | with_reducible assumption | (with_reducible refine Below.trans ?_ (Below.mono (by assumption) (by first | omega | (simp <;> omega)))) | with_reducible apply Below.drew | with_reducible apply below_drewN | (with_reducible refine Below.alloc ?_ (by first | omega | (simp <;> omega)) _) | (with_reducible refine Below.setCell ?_ (by first | omega | (simp <;> omega)) _)))) (unhide HLEN) (by omega)).mono ?_; rintro e w5 ⟨rfl, hB5, hb5⟩))
      have hb14 := (hb.trans ((show Below wr.heap.size wr w4 from (by repeat (first | with_reducible exact Below.refl _ _ | with_reducible assumption | (with_reducible refine Below.trans ?_ (Below.mono (by assumption) (by first | omega | (simp <;> omega)))) | with_reducible apply Below.drew | with_reducible apply below_drewN | (with_reducible refine Below.alloc ?_ (by first | omega | (simp <;> omega)) _) | (with_reducible refine Below.setCell ?_ (by first | omega | (simp <;> omega)) _)))).mono hb.size)).trans hb5
      go_roundw
      case rel => exact ⟨k + 1, by go_num, by omega, hide (.inr (by rw [HS.out, Lib.byteCells_append]; exact hB5)), hb14⟩
      case measure => simp [intOf]; omega
    · obtain rfl : k = n := by omega
      have HB := hide hb
      clear hb
      go_wp2_with (go_at_call 16; refine (Tryd.Builder_String_any w1.heap.size w1.heap.size (mpT ps k) _ (unhide HI) (by omega)).mono ?_; rintro e w6 ⟨rfl, hb6⟩)
      go_ret2
      exact ⟨rfl, hbw1.trans (((unhide HB).trans hb6).mono hz1)⟩
end Go.Proofs.YtafcdlojlfnjbaaDoor

/-
  Chapter 2: ParseMap of the program.
-/
import Derived.Test.YtmkejopkmdcfeabDoorPmu
import Derived.Test.YtmkejopkmdcfeabDoorMtl
import Derived.Test.YtmkejopkmdcfeabDoorParseK
import Derived.Test.YtmkejopkmdcfeabDoorApd
import Derived.Lib.OthersKept
import Derived.WalkSmall
namespace Go.Proofs.YtmkejopkmdcfeabDoor
open Go.RowKit Rm

/-- What holds at the head of the program's loop. -/
structure PmR (s : ByteArray) (w : World) (pos : Nat) (A : Option Addr) (k c : Nat) (acc : List Pt) (px py : Fr) (wr : World) : Prop where
  it : wr.heap[w.heap.size + 1]? = some (.stringIter s pos)
  c0 : wr.cell? ⟨w.heap.size, 0, none⟩ = some (.int .i64 px.1)
  c1 : wr.cell? ⟨w.heap.size, 1, none⟩ = some (.int .i64 px.2)
  c2 : wr.cell? ⟨w.heap.size, 2, none⟩ = some (.int .i64 py.1)
  c3 : wr.cell? ⟨w.heap.size, 3, none⟩ = some (.int .i64 py.2)
  fz : ∀ o, wr.frozen? ⟨w.heap.size, o, none⟩ = false
  own : wr.ownsRow (w.heap.size + 2) 31 4 (.slice A k c) k (ptcs acc)
  len : k ≤ 12
  below : Below w.heap.size w wr
  size : w.heap.size + 2 ≤ wr.heap.size
theorem iterAt_block {w : World} {I j : Nat} {s : ByteArray} {p : Nat} (h : j ≠ I) : (w.iterAt I s p).heap[j]? = w.heap[j]? := Lib.iterAt_other _ _ _ _ _ h
theorem iterAt_size (w : World) (I : Nat) (s : ByteArray) (p : Nat) : (w.iterAt I s p).heap.size = w.heap.size := by simp [World.iterAt]
theorem PmR.iter {s : ByteArray} {w wr : World} {pos k c : Nat} {A : Option Addr} {acc : List Pt} {px py : Fr} (h : PmR s w pos A k c acc px py wr) (p : Nat) : PmR s w p A k c acc px py (wr.iterAt (w.heap.size + 1) s p) := by
  have hb : ∀ j, j ≠ w.heap.size + 1 → (wr.iterAt (w.heap.size + 1) s p).heap[j]? = wr.heap[j]? := fun j hj => iterAt_block hj
  have e := hb w.heap.size (by omega)
  exact ⟨Lib.iterAt_heap _ _ _ _ _ h.it, (World.cell?_of_block (a := ⟨w.heap.size, 0, none⟩) e).trans h.c0, (World.cell?_of_block (a := ⟨w.heap.size, 1, none⟩) e).trans h.c1, (World.cell?_of_block (a := ⟨w.heap.size, 2, none⟩) e).trans h.c2, (World.cell?_of_block (a := ⟨w.heap.size, 3, none⟩) e).trans h.c3,
    fun o => (World.frozen?_of_block (a := ⟨w.heap.size, o, none⟩) e).trans (h.fz o), ownsRow_iterAt h.own (by omega) s p, h.len,
    ⟨h.below.os, h.below.tape, h.below.output, by rw [iterAt_size]; exact h.below.size, fun j hj => (hb j (by omega)).trans (h.below.block j hj)⟩, by rw [iterAt_size]; exact h.size⟩
theorem PmR.lt {s : ByteArray} {w wr : World} {pos k c : Nat} {A : Option Addr} {acc : List Pt} {px py : Fr} (h : PmR s w pos A k c acc px py wr) : w.heap.size < wr.heap.size := by have := h.size; omega
theorem PmR.on {s : ByteArray} {w wr w' : World} {pos k c : Nat} {A : Option Addr} {acc : List Pt} {px py : Fr} (h : PmR s w pos A k c acc px py wr) (hb : Below wr.heap.size wr w') : PmR s w pos A k c acc px py w' := by
  have hs := h.size
  have hl := h.lt
  exact ⟨(hb.block _ (by omega)).trans h.it, (hb.cell (p := ⟨w.heap.size, 0, none⟩) hl).trans h.c0, (hb.cell (p := ⟨w.heap.size, 1, none⟩) hl).trans h.c1, (hb.cell (p := ⟨w.heap.size, 2, none⟩) hl).trans h.c2, (hb.cell (p := ⟨w.heap.size, 3, none⟩) hl).trans h.c3,
    fun o => (hb.frozen (p := ⟨w.heap.size, o, none⟩) hl).trans (h.fz o), own_below h.own hb, h.len, h.below.trans (hb.mono (by omega)), Nat.le_trans hs hb.size⟩
theorem PmR.setX {s : ByteArray} {w wr : World} {pos k c : Nat} {A : Option Addr} {acc : List Pt} {px py : Fr} (h : PmR s w pos A k c acc px py wr) (nx : Fr) :
    PmR s w pos A k c acc nx py ((wr.setCell ⟨w.heap.size, 0, none⟩ (.int .i64 nx.1)).setCell ⟨w.heap.size, 1, none⟩ (.int .i64 nx.2)) := by
  have h0 := h.c0; have h1 := h.c1; have h2 := h.c2; have h3 := h.c3; have hf := h.fz
  refine ⟨?_, by simp [go_sem, *], by simp [go_sem, *], by simp [go_sem, *], by simp [go_sem, *], fun o => by simp [go_sem, *], ownsRow_setCell_below (ownsRow_setCell_below h.own (by show w.heap.size < w.heap.size + 2; omega) _) (by show w.heap.size < w.heap.size + 2; omega) _, h.len, (h.below.setCell (Nat.le_refl _) _).setCell (Nat.le_refl _) _, by simpa using h.size⟩
  rw [Below.heap_setCell _ _ _ _ (by show w.heap.size + 1 ≠ w.heap.size; omega), Below.heap_setCell _ _ _ _ (by show w.heap.size + 1 ≠ w.heap.size; omega)]
  exact h.it
theorem PmR.setY {s : ByteArray} {w wr : World} {pos k c : Nat} {A : Option Addr} {acc : List Pt} {px py : Fr} (h : PmR s w pos A k c acc px py wr) (ny : Fr) :
    PmR s w pos A k c acc px ny ((wr.setCell ⟨w.heap.size, 2, none⟩ (.int .i64 ny.1)).setCell ⟨w.heap.size, 3, none⟩ (.int .i64 ny.2)) := by
  have h0 := h.c0; have h1 := h.c1; have h2 := h.c2; have h3 := h.c3; have hf := h.fz
  refine ⟨?_, by simp [go_sem, *], by simp [go_sem, *], by simp [go_sem, *], by simp [go_sem, *], fun o => by simp [go_sem, *], ownsRow_setCell_below (ownsRow_setCell_below h.own (by show w.heap.size < w.heap.size + 2; omega) _) (by show w.heap.size < w.heap.size + 2; omega) _, h.len, (h.below.setCell (Nat.le_refl _) _).setCell (Nat.le_refl _) _, by simpa using h.size⟩
  rw [Below.heap_setCell _ _ _ _ (by show w.heap.size + 1 ≠ w.heap.size; omega), Below.heap_setCell _ _ _ _ (by show w.heap.size + 1 ≠ w.heap.size; omega)]
  exact h.it
theorem PmR.app {s : ByteArray} {w X w4 : World} {pos k c c4 : Nat} {A A4 : Option Addr} {acc acc4 : List Pt} {px py : Fr} {o : Obj} (h : PmR s w pos A k c acc px py X) (hg : (X.alloc o).grownBy w4 (Value.slice A k c).ownBlock)
    (ho : w4.ownsRow (w.heap.size + 2) 31 4 (.slice A4 (k + 1) c4) (k + 1) (ptcs acc4)) (hk : k + 1 ≤ 12) : PmR s w pos A4 (k + 1) c4 acc4 px py w4 := by
  have hrow : ∀ j, (Value.slice A k c).ownBlock = some j → w.heap.size + 2 ≤ j := fun j e => (h.own.lt j e).1
  have hX := h.size
  have hb : Below (w.heap.size + 2) X w4 := Below.grown ((Below.refl _ X).alloc hX o) hg (by simp; omega) hrow
  have hl : w.heap.size < w.heap.size + 2 := by omega
  exact ⟨(hb.block _ (by omega)).trans h.it, (hb.cell (p := ⟨w.heap.size, 0, none⟩) hl).trans h.c0, (hb.cell (p := ⟨w.heap.size, 1, none⟩) hl).trans h.c1, (hb.cell (p := ⟨w.heap.size, 2, none⟩) hl).trans h.c2, (hb.cell (p := ⟨w.heap.size, 3, none⟩) hl).trans h.c3,
    fun o => (hb.frozen (p := ⟨w.heap.size, o, none⟩) hl).trans (h.fz o), ho, hk, h.below.trans (hb.mono (by omega)), Nat.le_trans hX hb.size⟩
theorem ptcs_sn (acc : List Pt) (p : Pt) : ptcs acc ++ [.int .i64 p.1.1, .int .i64 p.1.2, .int .i64 p.2.1, .int .i64 p.2.2] = ptcs (acc ++ [p]) := by
  simp [ptcs, ptc]
/-- A rune that is no mark. -/
theorem next_other {s : ByteArray} {pos : Nat} (h : pos < s.size) (h1 : s[pos] ≠ 32) (h2 : s[pos] ≠ 59) (wr : World) (I : Nat) (hk : wr.heap[I]? = some (.stringIter s pos)) :
    ∃ (r : Int) (n : Nat), 1 ≤ n ∧ pos + n ≤ s.size ∧ r ≠ 32 ∧ r ≠ 59 ∧ (∀ ty, (Instr.next (.pointer (some ⟨I, 0, none⟩)) true ty).run Tryd.prog wr = .ok (.tuple #[.bool true, .int .i64 pos, .int .i32 r]) (wr.iterAt I s (pos + n))) ∧
      ∀ f acc px, f ≤ pos → rdAt s f pos acc px = rdAt s f (pos + n) acc px := by
  by_cases ha : (s[pos]'h).toNat < 128
  · refine ⟨((s[pos]'h).toNat : Int), 1, Nat.le_refl _, by omega, fun e => h1 ?_, fun e => h2 ?_, fun ty => Lib.run_next_ascii_at wr I s pos ty hk h ha, fun f acc px hf => rdAt_skip hf h h1 h2⟩
    · exact UInt8.toNat_inj.1 (by rw [show ((32 : UInt8)).toNat = 32 from rfl]; omega)
    · exact UInt8.toNat_inj.1 (by rw [show ((59 : UInt8)).toNat = 59 from rfl]; omega)
  · obtain ⟨h8, hw⟩ := decode_high s pos h (by omega)
    have hb := decode_bytes s pos h ha
    refine ⟨((Utf8.decode s pos).1 : Int), (Utf8.decode s pos).2, hw, ?_, by omega, by omega, fun ty => Lib.run_next_any_at wr I s pos ty hk h, fun f acc px hf => rdAt_skips _ _ hf hb⟩
    have := (hb ((Utf8.decode s pos).2 - 1) (by omega)).1
    omega
def GivesM (B : Nat) (xs : List Pt) (z : Bool) (e : Ending) (w' : World) : Prop :=
  ∃ (A : Option Addr) (d : Nat), e = .returned (.tuple #[.slice A xs.length d, .bool z]) ∧ w'.ownsRow B 31 4 (.slice A xs.length d) xs.length (ptcs xs)
theorem givesM_none (B : Nat) (w : World) : GivesM B [] false (.returned (.tuple #[.slice none 0 0, .bool false])) w := ⟨none, 0, rfl, rfl, .inl ⟨rfl, rfl⟩⟩
theorem text_ne {a b : ByteArray} (h : ¬ a = b) : (a.toList == b.toList) = false := by
  rw [beq_eq_false_iff_ne]
  intro e
  rw [ByteArray.toList_eq, ByteArray.toList_eq] at e
  exact h (ByteArray.ext (Array.toList_inj.1 e))
theorem prF_parts (l : List UInt8) : oN (specP l) = (prF l).1 ∧ oD (specP l) = (prF l).2 := by
  unfold prF
  cases specP l with
  | none => exact ⟨rfl, rfl⟩
  | some r => exact ⟨rfl, rfl⟩
theorem ext_list (s : ByteArray) (f k : Nat) : (s.extract f k).data.toList = (s.data.toList.take k).drop f := by
  rw [List.drop_take, ← Lib.extract_data s f k]
theorem parse_part (s : ByteArray) (f k : Nat) (w : World) (hs : s.size ≤ 1048576) (ht : Pow10 w) :
    Calls Tryd.prog 10 #[.string (s.extract f k)] w fun e w' => ∃ b : Bool, e = .returned (.tuple #[.agg #[.int .i64 (prF ((s.data.toList.take k).drop f)).1, .int .i64 (prF ((s.data.toList.take k).drop f)).2], .bool b]) ∧ Below w.heap.size w w' := by
  refine (iParseRat_any (s.extract f k) w (Nat.le_trans (extract_size_le _ _ _) hs) ht).mono ?_
  rintro e w' ⟨rfl, hb⟩
  rw [ext_list, (prF_parts _).1, (prF_parts _).2]
  exact ⟨_, rfl, hb⟩

set_option maxRecDepth 100000 in
set_option maxHeartbeats 3200000 in
theorem iParseMap_any (s : ByteArray) (w : World) (hs : s.size ≤ 1048576) (ht : Pow10 w) :
    Calls Tryd.prog 5 #[.string s] w fun e w' => GivesM w.heap.size (finM s.data.toList (rdI s.data.toList [] (0, 0) [])).1 (finM s.data.toList (rdI s.data.toList [] (0, 0) [])).2 e w' ∧ Below w.heap.size w w' := by
  obtain ⟨i0, hi0, hz0, hz1, hz2⟩ := info_parts iPoint
  have hst := rdAt_start s
  obtain ⟨T, hT⟩ : ∃ T, T = rdI s.data.toList [] (0, 0) [] := ⟨_, rfl⟩
  rw [← hT] at hst ⊢
  have HST := Lib.hid hst; have HP := hide ht
  have HRES := Lib.hid (rfl : finM s.data.toList T = finM s.data.toList T)
  clear hst hT ht
  go_enter Tryd.func5, Tryd.ntmps5
  go_wp2_with fail
  have hR0 : PmR s w 0 none 0 0 [] (0, 0) (0, 0) ((w.alloc (.cells #[.int .i64 0, .int .i64 0, .int .i64 0, .int .i64 0] 31)).iter s 0) := by
    have hbi := iter_below (w.alloc (.cells #[.int .i64 0, .int .i64 0, .int .i64 0, .int .i64 0] 31)) s 0
    have hih := World.iter_heap (w.alloc (.cells #[.int .i64 0, .int .i64 0, .int .i64 0, .int .i64 0] 31)) s 0
    have hbw : Below w.heap.size w (w.alloc (.cells #[.int .i64 0, .int .i64 0, .int .i64 0, .int .i64 0] 31)) := (by repeat (first | with_reducible exact Below.refl _ _ | with_reducible assumption | (with_reducible refine Below.trans ?_ (Below.mono (by assumption) (by first | omega | (simp <;> omega)))) | with_reducible apply Below.drew | with_reducible apply below_drewN | (with_reducible refine Below.alloc ?_ (by first | omega | (simp <;> omega)) _) | (with_reducible refine Below.setCell ?_ (by first | omega | (simp <;> omega)) _)))
    refine ⟨by simpa using hih, (hbi.cell (p := ⟨w.heap.size, 0, none⟩) (by simp)).trans (by simp [go_sem]), (hbi.cell (p := ⟨w.heap.size, 1, none⟩) (by simp)).trans (by simp [go_sem]), (hbi.cell (p := ⟨w.heap.size, 2, none⟩) (by simp)).trans (by simp [go_sem]), (hbi.cell (p := ⟨w.heap.size, 3, none⟩) (by simp)).trans (by simp [go_sem]), fun o => (hbi.frozen (p := ⟨w.heap.size, o, none⟩) (by simp)).trans (by simp [go_sem]), ⟨rfl, .inl ⟨rfl, rfl⟩⟩, by omega, hbw.trans (hbi.mono (by simp)), ?_⟩
    have := (Array.getElem?_eq_some_iff.1 hih).1
    simp at this
    omega
  have HR0 := hide hR0
  clear hR0
  generalize (w.alloc (.cells #[.int .i64 0, .int .i64 0, .int .i64 0, .int .i64 0] 31)).iter s 0 = w2 at *
  go_loopw [4, 6] (fun v st wr => ∃ (f pos k c : Nat) (A : Option Addr) (acc : List Pt) (px py : Fr), v = .slice A k c ∧ st = .int .i64 f ∧ f ≤ pos ∧ pos ≤ s.size ∧ Hid (PmR s w pos A k c acc px py wr) ∧ Hid (rdAt s f pos acc px = T)) (fun _ _ wr => s.size - wr.iterPos (w.heap.size + 1))
  case atStart => exact ⟨0, 0, 0, 0, none, [], (0, 0), (0, 0), rfl, rfl, by omega, by omega, HR0, hide HST.out⟩
  case round =>
    obtain ⟨f, pos, k, c, A, acc, px, py, rfl, rfl, hfp, hps, HR, HRD⟩ := hrel
    clear HR0
    have hit := (unhide HR).it
    have hpos : wr.iterPos (w.heap.size + 1) = pos := iterPos_of hit
    by_cases hlt : pos < s.size
    · by_cases h32 : s[pos] = 32
      · have hnx : ∀ ty, (Instr.next (.pointer (some ⟨w.heap.size + 1, 0, none⟩)) true ty).run Tryd.prog wr = .ok (.tuple #[.bool true, .int .i64 pos, .int .i32 32]) (wr.iterAt (w.heap.size + 1) s (pos + 1)) := fun ty => by
          have := Lib.run_next_ascii_at (P := Tryd.prog) wr (w.heap.size + 1) s pos ty hit hlt (by rw [h32]; decide)
          rw [this, h32]; rfl
        have HRD2 := hide ((rdAt_blank (f := f) (acc := acc) (px := px) hlt h32).symm.trans (unhide HRD))
        have HR2 := hide ((unhide HR).iter (pos + 1))
        have hpp := fun (W : World) hW => parse_part s f pos W hs hW
        have hpw := pow10_below (unhide HP) (unhide HR2).below
        obtain ⟨wi, hwi⟩ : ∃ x, x = wr.iterAt (w.heap.size + 1) s (pos + 1) := ⟨_, rfl⟩
        rw [← hwi] at hnx HR2 hpw
        have HPW := hide hpw; have HPP := hide hpp
        have hc0 := (unhide HR2).c0
        have hc1 := (unhide HR2).c1
        have hfz := (unhide HR2).fz
        have hlw := (unhide HR2).lt
        have hpsz : (pos : Int) ≤ (s.size : Int) := by omega
        clear HR HRD h32 hit hwi hpw hpp
        generalize prF ((s.data.toList.take pos).drop f) = nx at *
        go_wp2_with (go_at_call 10; (with_reducible refine ((unhide HPP) _ (unhide HPW)).mono ?_); rintro e w5 ⟨b5, rfl, hbw5⟩; have hc5 := (hbw5.cell (p := ⟨w.heap.size, 0, none⟩) hlw).trans hc0; have hc6 := (hbw5.cell (p := ⟨w.heap.size, 1, none⟩) hlw).trans hc1; have hf5 := fun o => (hbw5.frozen (p := ⟨w.heap.size, o, none⟩) hlw).trans (hfz o))
        have HR5 := hide (((unhide HR2).on hbw5).setX nx)
        clear hc5 hc6 hf5 hbw5 hc0 hc1 hfz
        go_roundw
        case rel => exact ⟨pos + 1, pos + 1, k, c, A, acc, nx, py, rfl, by go_num, by omega, by omega, HR5, HRD2⟩
        case measure => rw [iterPos_of (unhide HR5).it, hpos]; omega
      · by_cases h59 : s[pos] = 59
        · have hnx : ∀ ty, (Instr.next (.pointer (some ⟨w.heap.size + 1, 0, none⟩)) true ty).run Tryd.prog wr = .ok (.tuple #[.bool true, .int .i64 pos, .int .i32 59]) (wr.iterAt (w.heap.size + 1) s (pos + 1)) := fun ty => by
            have := Lib.run_next_ascii_at (P := Tryd.prog) wr (w.heap.size + 1) s pos ty hit hlt (by rw [h59]; decide)
            rw [this, h59]; rfl
          have hrd := (rdAt_mark (f := f) (acc := acc) (px := px) hlt h59).symm.trans (unhide HRD)
          have hal : acc.length = k := own_len (unhide HR).own
          rw [hal] at hrd
          have HR2 := hide ((unhide HR).iter (pos + 1))
          have hkl := (unhide HR).len
          by_cases hk12 : k = 12
          · rw [if_pos hk12] at hrd
            have HT := Lib.hid hrd
            have hbb := (unhide HR2).below
            have HBB := hide hbb
            clear HR HRD hrd h32 h59 hit hal hbb HR2
            subst hk12
            go_wp2_with fail
            go_ret2
            rw [← HT.out]
            exact ⟨givesM_none _ _, unhide HBB⟩
          · rw [if_neg hk12] at hrd
            have HRD2 := hide hrd
            have hk12' : ¬ (k : Int) = 12 := by omega
            have hpp := fun (W : World) hW => parse_part s f pos W hs hW
            have hpw := pow10_below (unhide HP) (unhide HR2).below
            obtain ⟨wi, hwi⟩ : ∃ x, x = wr.iterAt (w.heap.size + 1) s (pos + 1) := ⟨_, rfl⟩
            rw [← hwi] at hnx HR2 hpw
            have HPW := hide hpw; have HPP := hide hpp
            have hc0 := (unhide HR2).c0
            have hc1 := (unhide HR2).c1
            have hc2 := (unhide HR2).c2
            have hc3 := (unhide HR2).c3
            have hfz := (unhide HR2).fz
            have hlw := (unhide HR2).lt
            have hpsz : (pos : Int) ≤ (s.size : Int) := by omega
            clear HR HRD h32 h59 hit hwi hpw hpp hal hrd
            generalize prF ((s.data.toList.take pos).drop f) = ny at *
            go_wp2_with (first
              | (go_at_call 10; (with_reducible refine ((unhide HPP) _ (unhide HPW)).mono ?_); rintro e w5 ⟨b5, rfl, hbw5⟩; have hd0 := (hbw5.cell (p := ⟨w.heap.size, 0, none⟩) hlw).trans hc0; have hd1 := (hbw5.cell (p := ⟨w.heap.size, 1, none⟩) hlw).trans hc1; have hd2 := (hbw5.cell (p := ⟨w.heap.size, 2, none⟩) hlw).trans hc2; have hd3 := (hbw5.cell (p := ⟨w.heap.size, 3, none⟩) hlw).trans hc3; have hf5 := fun o => (hbw5.frozen (p := ⟨w.heap.size, o, none⟩) hlw).trans (hfz o); have HR5 := hide (((unhide HR2).on hbw5).setY ny))
              | (at_builtin; refine wpList_append_any rfl _ _ _ rfl (w.heap.size + 2) 31 i0 _ 4 32 Tryd.underlying22 hi0 hz0 hz1 hz2 rfl (by omega) (.slice A k c) k _ rfl (World.ownsRow.alloc (unhide HR5).own _) _ 1 [.int .i64 px.1, .int .i64 px.2, .int .i64 ny.1, .int .i64 ny.2] rfl (lies4 (by simp [go_sem, *]) (by simp [go_sem, *]) (by simp [go_sem, *]) (by simp [go_sem, *])) rfl (by simp [Value.oneCell']) (Nat.le_trans (by omega) maxLen_ge) (by omega) (by have := (unhide HR5).size; simp at this ⊢; omega) (k + 1) rfl ?_; intro A4 c4 w4 hown4 hgrow4))
            rw [ptcs_sn acc (px, ny)] at hown4
            have HR6 := hide ((unhide HR5).app hgrow4 hown4 (by omega))
            clear hown4 hgrow4 hd0 hd1 hd2 hd3 hf5 hbw5 hc0 hc1 hc2 hc3 hfz HR5 HR2
            go_wp2_with fail
            go_roundw
            case rel => exact ⟨pos + 1, pos + 1, k + 1, c4, A4, _, px, ny, rfl, by go_num, by omega, by omega, HR6, HRD2⟩
            case measure => rw [iterPos_of (unhide HR6).it, hpos]; omega
        · obtain ⟨r, m, hm1, hm2, hr1, hr2, hnx, hrd⟩ := next_other hlt h32 h59 wr (w.heap.size + 1) hit
          have HRD2 := hide ((hrd f acc px hfp).symm.trans (unhide HRD))
          have HR2 := hide ((unhide HR).iter (pos + m))
          clear HR HRD hrd h32 h59 hit
          go_wp2_with fail
          go_roundw
          case rel => exact ⟨f, pos + m, k, c, A, acc, px, py, rfl, rfl, by omega, hm2, HR2, HRD2⟩
          case measure => rw [iterPos_of (unhide HR2).it, hpos]; omega
    · have hnx : ∀ ty, (Instr.next (.pointer (some ⟨w.heap.size + 1, 0, none⟩)) true ty).run Tryd.prog wr = .ok (.tuple #[.bool false]) wr := fun ty => Lib.run_next_end_at (P := Tryd.prog) wr (w.heap.size + 1) s pos ty hit hlt
      have hT := (rdAt_end s f pos acc px (by omega)).symm.trans (unhide HRD)
      have HT := Lib.hid hT
      have hal : acc.length = k := own_len (unhide HR).own
      have hkl := (unhide HR).len
      have hown := (unhide HR).own.mono (show w.heap.size ≤ w.heap.size + 2 by omega)
      have hmt := iMapText_any A k c (w.heap.size + 2) acc wr (unhide HR).own (by omega) (pow10_below (unhide HP) (unhide HR).below)
      have HOWN := hide hown; have HBB := hide (unhide HR).below; have HAL := Lib.hid hal
      have hlw := (unhide HR).lt
      clear HR HRD hT hal hown hit hpos
      by_cases hm : mapB acc = true ∧ mpT acc acc.length = s.data.toList
      · have hfin : finM s.data.toList (some acc) = (acc, true) := if_pos hm
        have htx : (⟨(mtF acc).toArray⟩ : ByteArray) = s := by rw [mtF_yes hm.1, hm.2]
        rw [hm.1, htx] at hmt
        have HF := Lib.hid hfin; have HMT := hide hmt
        clear hm hfin htx hmt
        go_wp2_with (go_at_call 11; (with_reducible refine (unhide HMT).mono ?_); rintro e w5 ⟨rfl, hbw5⟩)
        have hb := (unhide HBB).trans (hbw5.mono (Nat.le_of_lt hlw))
        have HO5 := hide (own_below (unhide HOWN) hbw5)
        clear hbw5
        go_ret2
        rw [← HT.out, HF.out]
        exact ⟨⟨A, c, by rw [HAL.out]; rfl, by rw [HAL.out]; exact unhide HO5⟩, hb⟩
      · have hfin : finM s.data.toList (some acc) = ([], false) := if_neg hm
        have HF := Lib.hid hfin
        clear hfin
        cases hmb : mapB acc with
        | false =>
          rw [hmb] at hmt
          have HMT := hide hmt
          clear hm hmt hmb
          go_wp2_with (go_at_call 11; (with_reducible refine (unhide HMT).mono ?_); rintro e w5 ⟨rfl, hbw5⟩)
          have hb := (unhide HBB).trans (hbw5.mono (Nat.le_of_lt hlw))
          go_ret2
          rw [← HT.out, HF.out]
          exact ⟨givesM_none _ _, hb⟩
        | true =>
          rw [hmb] at hmt
          have hne : ¬ (⟨(mtF acc).toArray⟩ : ByteArray) = s := fun e => hm ⟨hmb, by rw [← mtF_yes hmb, ← e]⟩
          generalize (⟨(mtF acc).toArray⟩ : ByteArray) = tx at *
          have hne2 : (tx.toList == s.toList) = false := text_ne hne
          have HMT := hide hmt
          clear hm hmt hmb
          go_wp2_with (go_at_call 11; (with_reducible refine (unhide HMT).mono ?_); rintro e w5 ⟨rfl, hbw5⟩)
          have hb := (unhide HBB).trans (hbw5.mono (Nat.le_of_lt hlw))
          go_ret2
          rw [← HT.out, HF.out]
          exact ⟨givesM_none _ _, hb⟩
end Go.Proofs.YtmkejopkmdcfeabDoor

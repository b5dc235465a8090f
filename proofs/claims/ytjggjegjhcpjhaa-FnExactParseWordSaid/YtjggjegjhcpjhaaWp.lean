/-
  Chapter 6: ParseWord of both.
-/
import Derived.Test.YtjggjegjhcpjhaaGi
import Derived.Test.YtjggjegjhcpjhaaWa
import Derived.Test.YtjggjegjhcpjhaaOr
import Derived.LoopTactic
import Derived.Laws.RangeAny
import Derived.Lib.OthersKept
import Derived.WalkSmall
namespace Go.Proofs.Ytjggjegjhcpjhaa
open Go.RowKit Rm

/-- A letter. -/
def letB (x : UInt8) : Bool := decide (97 ≤ x.toNat ∧ x.toNat ≤ 122)
def letN (x : UInt8) : Int := (x.toNat : Int) - 97
def pwZ (l : List UInt8) : Bool := decide (l.length ≤ 20) && l.all letB
def pwL (l : List UInt8) : List Int := match pwZ l with | true => l.map letN | false => []
theorem pwL_no {l : List UInt8} (h : pwZ l = false) : pwL l = [] := by unfold pwL; simp only [h]
theorem pwL_yes {l : List UInt8} (h : pwZ l = true) : pwL l = l.map letN := by unfold pwL; simp only [h]
theorem ParseWord_len (l : List UInt8) : (pwL l).length ≤ 1048576 := by
  cases h : pwZ l with
  | false => rw [pwL_no h]; simp
  | true =>
    rw [pwL_yes h, List.length_map]
    unfold pwZ at h
    simp only [Bool.and_eq_true, decide_eq_true_eq] at h
    omega
theorem pwZ_long {l : List UInt8} (h : ¬ l.length ≤ 20) : pwZ l = false := by unfold pwZ; rw [decide_eq_false h, Bool.false_and]
theorem pwZ_bad {l : List UInt8} {k : Nat} (hk : k < l.length) (h : letB l[k] = false) : pwZ l = false := by
  unfold pwZ
  rw [show l.all letB = false from List.all_eq_false.2 ⟨l[k], List.getElem_mem hk, by rw [h]; decide⟩, Bool.and_false]
theorem pwZ_good {l : List UInt8} (h20 : l.length ≤ 20) (h : ∀ k (hk : k < l.length), letB l[k] = true) : pwZ l = true := by
  unfold pwZ
  rw [decide_eq_true h20, Bool.true_and, List.all_eq_true]
  intro x hx
  obtain ⟨k, hk, rfl⟩ := List.mem_iff_getElem.1 hx
  exact h k hk
theorem ints_sn (l : List UInt8) {k : Nat} (hk : k < l.length) : ints ((l.take (k + 1)).map letN) = ints ((l.take k).map letN) ++ [.int .i64 ((l[k].toNat : Int) - 97)] := by
  rw [List.take_succ_eq_append_getElem hk, List.map_append]
  unfold ints
  rw [List.map_append]
  rfl
theorem sbyte (s : ByteArray) (k : Nat) (h : k < s.size) : s.data.toList[k]'(by simpa using h) = s[k] := rfl
theorem slen (s : ByteArray) : s.data.toList.length = s.size := by simp

/-- What holds at the head of the program's loop. -/
structure PwR (s : ByteArray) (w : World) (pos : Nat) (A : Option Addr) (c : Nat) (wr : World) : Prop where
  it : wr.heap[w.heap.size]? = some (.stringIter s pos)
  own : wr.ownsRow (w.heap.size + 1) 3 1 (.slice A pos c) pos (ints ((s.data.toList.take pos).map letN))
  below : Below w.heap.size w wr
  size : w.heap.size + 1 ≤ wr.heap.size
theorem iterAt_sz (w : World) (I : Nat) (s : ByteArray) (p : Nat) : (w.iterAt I s p).heap.size = w.heap.size := by simp [World.iterAt]
theorem iter_bl (w : World) (s : ByteArray) (pos : Nat) : Below w.heap.size w (w.iter s pos) := (Below.refl _ _).alloc (Nat.le_refl _) _

set_option maxRecDepth 100000 in
set_option maxHeartbeats 1600000 in
theorem iParseWord_any (s : ByteArray) (w : World) (hs : s.size ≤ 1048576) :
    Calls Try.prog 49 #[.string s] w fun e w' => GivesI w.heap.size (pwL s.data.toList) (pwZ s.data.toList) e w' ∧ Below w.heap.size w w' := by
  obtain ⟨i0, hi0, iz0, iz1, iz2⟩ := info_parts iInt
  by_cases h20 : s.size ≤ 20
  · have d0 : decide ((s.size : Int) > 20) = false := decide_eq_false (by omega)
    obtain ⟨z, hz⟩ : ∃ z, z = pwZ s.data.toList := ⟨_, rfl⟩
    obtain ⟨xs, hxs⟩ : ∃ xs, xs = pwL s.data.toList := ⟨_, rfl⟩
    rw [← hz, ← hxs]
    have HZ := Lib.hid hz; have HXS := Lib.hid hxs
    clear hz hxs
    go_enter Try.func49, Try.ntmps49
    go_wp2_with fail
    have hih := World.iter_heap w s 0
    have hR0 : PwR s w 0 none 0 (w.iter s 0) := ⟨hih, World.ownsRow_nil _ _ _ _, iter_bl w s 0, by
      have := (Array.getElem?_eq_some_iff.1 hih).1
      omega⟩
    have HR0 := hide hR0
    clear hR0 hih
    generalize w.iter s 0 = w2 at *
    go_loopw [4] (fun v wr => ∃ (pos c : Nat) (A : Option Addr), v = .slice A pos c ∧ pos ≤ s.size ∧ Hid (PwR s w pos A c wr) ∧ Hid (∀ k (hk : k < s.size), k < pos → letB s[k] = true)) (fun _ wr => s.size - wr.iterPos w.heap.size)
    case atStart => exact ⟨0, 0, none, rfl, by omega, HR0, hide (fun k hk h => by omega)⟩
    case round =>
      obtain ⟨pos, c, A, rfl, hps, HR, HG⟩ := hrel
      clear HR0
      have hit := (unhide HR).it
      have hpos : wr.iterPos w.heap.size = pos := iterPos_of hit
      by_cases hlt : pos < s.size
      · have hbad : letB s[pos] = false → z = false ∧ xs = [] := fun h => by
          have e : pwZ s.data.toList = false := pwZ_bad (k := pos) (by rw [slen]; exact hlt) (by rw [sbyte s pos hlt]; exact h)
          exact ⟨HZ.out.trans e, HXS.out.trans (pwL_no e)⟩
        have hbl := (unhide HR).below
        by_cases hasc : (s[pos]'hlt).toNat < 128
        · have hnx : ∀ ty, (Instr.next (.pointer (some ⟨w.heap.size, 0, none⟩)) true ty).run Try.prog wr = .ok (.tuple #[.bool true, .int .i64 pos, .int .i32 ((s[pos]'hlt).toNat : Int)]) (wr.iterAt w.heap.size s (pos + 1)) := fun ty =>
            Lib.run_next_ascii_at (P := Try.prog) wr w.heap.size s pos ty hit hlt hasc
          have hwi : Below w.heap.size w (wr.iterAt w.heap.size s (pos + 1)) :=
            ⟨hbl.os, hbl.tape, hbl.output, by rw [iterAt_sz]; exact hbl.size, fun j hj => (Lib.iterAt_other _ _ _ _ _ (by omega)).trans (hbl.block j hj)⟩
          have hwo := ownsRow_iterAt (unhide HR).own (k := w.heap.size) (by omega) s (pos + 1)
          have hwh := Lib.iterAt_heap wr w.heap.size s pos (pos + 1) hit
          have hws : w.heap.size + 1 ≤ (wr.iterAt w.heap.size s (pos + 1)).heap.size := by rw [iterAt_sz]; exact (unhide HR).size
          have hsn := ints_sn s.data.toList (k := pos) (by rw [slen]; exact hlt)
          rw [sbyte s pos hlt] at hsn
          have hgx : letB s[pos] = true → ∀ k (hk : k < s.size), k < pos + 1 → letB s[k] = true := fun h k hk hk1 => by
            rcases Nat.lt_or_ge k pos with h1 | h1
            · exact (unhide HG) k hk h1
            · obtain rfl : k = pos := by omega
              exact h
          have HWI := hide hwi; have HWO := hide hwo; have HWH := hide hwh; have HSN := Lib.hid hsn; have HGX := hide hgx; have HBAD := hide hbad
          clear hwi hwo hwh hsn hgx hbad hbl HR HG hit
          obtain ⟨wi, hwe⟩ : ∃ x, x = wr.iterAt w.heap.size s (pos + 1) := ⟨_, rfl⟩
          rw [← hwe] at hnx HWI HWO HWH hws
          by_cases hl : 97 ≤ (s[pos]'hlt).toNat ∧ (s[pos]'hlt).toNat ≤ 122
          · have HG1 := hide ((unhide HGX) (decide_eq_true hl))
            have hl1 := hl.1
            have hl2 := hl.2
            clear hl HGX HBAD hasc hwe
            obtain ⟨x, hx⟩ : ∃ x, x = (s[pos]'hlt).toNat := ⟨_, rfl⟩
            rw [← hx] at hnx HSN hl1 hl2
            clear hx
            have e1 : IntKind.i32.wrap ((x : Int) - 97) = (x : Int) - 97 := IntWalk.i32_in _ (by omega)
            have e2 : IntKind.i64.wrap ((x : Int) - 97) = (x : Int) - 97 := IntWalk.i64_in _ (by omega)
            have e3 : decide ((x : Int) < 97) = false := decide_eq_false (by omega)
            have e4 : decide ((x : Int) > 122) = false := decide_eq_false (by omega)
            have hvB : ∀ k, (Value.slice A pos c).ownBlock = some k → w.heap.size + 1 ≤ k := fun k e => ((unhide HWO).lt k e).1
            have HVB := hide hvB; clear hvB
            go_wp2_with (at_builtin; refine wpList_append_any rfl _ _ _ rfl (w.heap.size + 1) 3 i0 _ 1 8 Try.underlying36 hi0 iz0 iz1 iz2 rfl (by omega) (.slice A pos c) pos _ rfl (World.ownsRow.alloc (unhide HWO) _) _ 1 [.int .i64 ((x : Int) - 97)] rfl (lies_one (by simp [go_sem, *])) rfl (one_cell rfl) (Nat.le_trans (by omega) maxLen_ge) (by omega) (by first | omega | (simp; omega)) (pos + 1) rfl ?_; intro A5 c5 w5 hown5 hgrow5)
            rw [← HSN.out] at hown5
            have hb5 : Below (w.heap.size + 1) wi w5 := Below.grown ((Below.refl _ wi).alloc hws _) hgrow5 (by simp; omega) (unhide HVB)
            have HR5 := hide (show PwR s w (pos + 1) A5 c5 w5 from ⟨(hb5.block _ (by omega)).trans (unhide HWH), hown5, (unhide HWI).trans (hb5.mono (by omega)), Nat.le_trans hws hb5.size⟩)
            clear hown5 hgrow5 hb5
            go_wp2_with fail
            go_roundw
            case rel => exact ⟨pos + 1, c5, A5, rfl, by omega, HR5, HG1⟩
            case measure => rw [iterPos_of (unhide HR5).it, hpos]; omega
          · obtain ⟨rfl, rfl⟩ := (unhide HBAD) (decide_eq_false hl)
            obtain ⟨x, hx⟩ : ∃ x, x = (s[pos]'hlt).toNat := ⟨_, rfl⟩
            rw [← hx] at hnx hl
            clear hx HGX HBAD hasc hwe HSN
            by_cases h1 : x < 97
            · have e3 : decide ((x : Int) < 97) = true := decide_eq_true (by omega)
              clear hl
              go_wp2_with fail
              go_ret2
              exact ⟨givesI_none _ _, unhide HWI⟩
            · have e3 : decide ((x : Int) < 97) = false := decide_eq_false (by omega)
              have e4 : decide ((x : Int) > 122) = true := decide_eq_true (by omega)
              clear hl
              go_wp2_with fail
              go_ret2
              exact ⟨givesI_none _ _, unhide HWI⟩
        · obtain ⟨h8, hw8⟩ := decode_high s pos hlt (by omega)
          have hnx : ∀ ty, (Instr.next (.pointer (some ⟨w.heap.size, 0, none⟩)) true ty).run Try.prog wr = .ok (.tuple #[.bool true, .int .i64 pos, .int .i32 ((Utf8.decode s pos).1 : Int)]) (wr.iterAt w.heap.size s (pos + (Utf8.decode s pos).2)) := fun ty =>
            Lib.run_next_any_at wr w.heap.size s pos ty hit hlt
          obtain ⟨rfl, rfl⟩ := hbad (decide_eq_false (by omega))
          have hwi : Below w.heap.size w (wr.iterAt w.heap.size s (pos + (Utf8.decode s pos).2)) :=
            ⟨hbl.os, hbl.tape, hbl.output, by rw [iterAt_sz]; exact hbl.size, fun j hj => (Lib.iterAt_other _ _ _ _ _ (by omega)).trans (hbl.block j hj)⟩
          have HWI := hide hwi
          clear hwi hbad hbl HR HG hit hasc
          generalize wr.iterAt w.heap.size s (pos + (Utf8.decode s pos).2) = wi at *
          generalize (Utf8.decode s pos).1 = x at *
          have e3 : decide ((x : Int) < 97) = false := decide_eq_false (by omega)
          have e4 : decide ((x : Int) > 122) = true := decide_eq_true (by omega)
          go_wp2_with fail
          go_ret2
          exact ⟨givesI_none _ _, unhide HWI⟩
      · have hnx : ∀ ty, (Instr.next (.pointer (some ⟨w.heap.size, 0, none⟩)) true ty).run Try.prog wr = .ok (.tuple #[.bool false]) wr := fun ty => Lib.run_next_end_at (P := Try.prog) wr w.heap.size s pos ty hit hlt
        obtain rfl : pos = s.size := by omega
        have hgood : pwZ s.data.toList = true := pwZ_good (by rw [slen]; exact h20) (fun k hk => (unhide HG) k (by rw [slen] at hk; exact hk) (by rw [slen] at hk; exact hk))
        obtain rfl : z = true := HZ.out.trans hgood
        have hx2 : xs = s.data.toList.map letN := HXS.out.trans (pwL_yes hgood)
        have hlen : xs.length = s.size := by rw [hx2, List.length_map, slen]
        have hown := (unhide HR).own.mono (show w.heap.size ≤ w.heap.size + 1 by omega)
        have htk : s.data.toList.take s.size = s.data.toList := by rw [← slen s, List.take_length]
        rw [htk, ← hx2] at hown
        have HOWN := hide hown; have HBB := hide (unhide HR).below; have HLN := Lib.hid hlen
        clear HR HG hgood hx2 hown hit hlen htk
        go_wp2_with fail
        go_ret2
        exact ⟨⟨A, c, by rw [HLN.out] <;> rfl, by rw [HLN.out]; exact unhide HOWN⟩, unhide HBB⟩
  · have hz : pwZ s.data.toList = false := pwZ_long (by rw [slen]; exact h20)
    rw [hz, pwL_no hz]
    have d0 : decide ((s.size : Int) > 20) = true := decide_eq_true (by omega)
    clear hz
    go_enter Try.func49, Try.ntmps49
    go_wp2_with fail
    go_ret2
    exact ⟨givesI_none _ _, Below.refl _ _⟩

set_option maxRecDepth 100000 in
set_option maxHeartbeats 1600000 in
theorem woParse_any (s : ByteArray) (w : World) (hs : s.size ≤ 1048576) :
    Calls Try.prog 87 #[.string s] w fun e w' => GivesI w.heap.size (pwL s.data.toList) (pwZ s.data.toList) e w' ∧ Below w.heap.size w w' := by
  obtain ⟨i0, hi0, iz0, iz1, iz2⟩ := info_parts iInt
  by_cases h20 : s.size ≤ 20
  · have d0 : decide ((s.size : Int) > 20) = false := decide_eq_false (by omega)
    obtain ⟨z, hz⟩ : ∃ z, z = pwZ s.data.toList := ⟨_, rfl⟩
    obtain ⟨xs, hxs⟩ : ∃ xs, xs = pwL s.data.toList := ⟨_, rfl⟩
    rw [← hz, ← hxs]
    have HZ := Lib.hid hz; have HXS := Lib.hid hxs
    clear hz hxs
    go_enter Try.func87, Try.ntmps87
    go_wp2_with fail
    go_loopw [4, 5] (fun v i wr => ∃ (pos c : Nat) (A : Option Addr), v = .slice A pos c ∧ i = .int .i64 (pos : Int) ∧ pos ≤ s.size ∧ wr.ownsRow w.heap.size 3 1 (.slice A pos c) pos (ints ((s.data.toList.take pos).map letN)) ∧ Hid (∀ k (hk : k < s.size), k < pos → letB s[k] = true) ∧ Below w.heap.size w wr) (fun _ i _ => s.size - (intOf i).toNat)
    case atStart => exact ⟨0, 0, none, rfl, rfl, by omega, World.ownsRow_nil _ _ _ _, hide (fun k hk h => by omega), Below.refl _ _⟩
    case round =>
      obtain ⟨pos, c, A, rfl, rfl, hps, hown, HG, hbwr⟩ := hrel
      have hzwr := hbwr.size
      by_cases hlt : pos < s.size
      · have hbad : letB s[pos] = false → z = false ∧ xs = [] := fun h => by
          have e : pwZ s.data.toList = false := pwZ_bad (k := pos) (by rw [slen]; exact hlt) (by rw [sbyte s pos hlt]; exact h)
          exact ⟨HZ.out.trans e, HXS.out.trans (pwL_no e)⟩
        have hsn := ints_sn s.data.toList (k := pos) (by rw [slen]; exact hlt)
        rw [sbyte s pos hlt] at hsn
        have hgx : letB s[pos] = true → ∀ k (hk : k < s.size), k < pos + 1 → letB s[k] = true := fun h k hk hk1 => by
          rcases Nat.lt_or_ge k pos with h1 | h1
          · exact (unhide HG) k hk h1
          · obtain rfl : k = pos := by omega
            exact h
        have hix : s[pos]? = some s[pos] := by simp [hlt]
        have h255 : (s[pos]'hlt).toNat < 256 := UInt8.toNat_lt _
        have hvB : ∀ k, (Value.slice A pos c).ownBlock = some k → w.heap.size ≤ k := fun k e => (hown.lt k e).1
        have HVB := hide hvB; have HO := hide hown; have HB := hide hbwr
        have HSN := Lib.hid hsn; have HGX := hide hgx; have HBAD := hide hbad
        clear hsn hgx hbad hvB hown hbwr HG
        have t1 : (0 : Int) ≤ (pos : Int) := by omega
        have t2 : (pos : Int) < (s.size : Int) := by omega
        by_cases hl : 97 ≤ (s[pos]'hlt).toNat ∧ (s[pos]'hlt).toNat ≤ 122
        · have HG1 := hide ((unhide HGX) (decide_eq_true hl))
          have hl1 := hl.1
          have hl2 := hl.2
          clear hl HGX HBAD
          have e1 : IntKind.u8.wrap (((s[pos]'hlt).toNat : Int) - 97) = ((s[pos]'hlt).toNat : Int) - 97 := IntWalk.u8_in _ (by omega)
          have e2 : IntKind.i64.wrap (((s[pos]'hlt).toNat : Int) - 97) = ((s[pos]'hlt).toNat : Int) - 97 := IntWalk.i64_in _ (by omega)
          have e3 : decide (((s[pos]'hlt).toNat : Int) < 97) = false := decide_eq_false (by omega)
          have e4 : decide (((s[pos]'hlt).toNat : Int) > 122) = false := decide_eq_false (by omega)
          go_wp2_with (at_builtin; refine wpList_append_any rfl _ _ _ rfl w.heap.size 3 i0 _ 1 8 Try.underlying36 hi0 iz0 iz1 iz2 rfl (by omega) (.slice A pos c) pos _ rfl (own_below (unhide HO) (show Below wr.heap.size wr _ from (by repeat (first | with_reducible exact Below.refl _ _ | with_reducible assumption | (with_reducible refine Below.trans ?_ (Below.mono (by assumption) (by first | omega | (simp <;> omega)))) | with_reducible apply Below.drew | with_reducible apply below_drewN | (with_reducible refine Below.alloc ?_ (by first | omega | (simp <;> omega)) _) | (with_reducible refine Below.setCell ?_ (by first | omega | (simp <;> omega)) _))))) _ 1 [.int .i64 (((s[pos]'hlt).toNat : Int) - 97)] rfl (lies_one (by simp [go_sem, *])) rfl (one_cell rfl) (Nat.le_trans (by omega) maxLen_ge) (by omega) (by first | omega | (simp; omega)) (pos + 1) rfl ?_; intro A5 c5 w5 hown5 hgrow5)
          rw [← HSN.out] at hown5
          have hb := unhide HB
          have hbz : Below w.heap.size w w5 := Below.grown (hb.trans ((show Below wr.heap.size wr _ from (by repeat (first | with_reducible exact Below.refl _ _ | with_reducible assumption | (with_reducible refine Below.trans ?_ (Below.mono (by assumption) (by first | omega | (simp <;> omega)))) | with_reducible apply Below.drew | with_reducible apply below_drewN | (with_reducible refine Below.alloc ?_ (by first | omega | (simp <;> omega)) _) | (with_reducible refine Below.setCell ?_ (by first | omega | (simp <;> omega)) _)))).mono hb.size)) hgrow5 (by first | omega | (simp <;> omega)) (unhide HVB)
          have HO5 := hide hown5; have HBZ := hide hbz
          clear hown5 hgrow5 hbz hb
          go_wp2_with fail
          go_roundw
          case rel => exact ⟨pos + 1, c5, A5, rfl, by go_num, by omega, unhide HO5, HG1, unhide HBZ⟩
          case measure => (simp [intOf] <;> omega)
        · obtain ⟨rfl, rfl⟩ := (unhide HBAD) (decide_eq_false hl)
          clear HGX HBAD HSN
          by_cases h1 : (s[pos]'hlt).toNat < 97
          · have e3 : decide (((s[pos]'hlt).toNat : Int) < 97) = true := decide_eq_true (by omega)
            clear hl
            go_wp2_with fail
            go_ret2
            exact ⟨givesI_none _ _, unhide HB⟩
          · have e3 : decide (((s[pos]'hlt).toNat : Int) < 97) = false := decide_eq_false (by omega)
            have e4 : decide (((s[pos]'hlt).toNat : Int) > 122) = true := decide_eq_true (by omega)
            clear hl
            go_wp2_with fail
            go_ret2
            exact ⟨givesI_none _ _, unhide HB⟩
      · obtain rfl : pos = s.size := by omega
        have hgood : pwZ s.data.toList = true := pwZ_good (by rw [slen]; exact h20) (fun k hk => (unhide HG) k (by rw [slen] at hk; exact hk) (by rw [slen] at hk; exact hk))
        obtain rfl : z = true := HZ.out.trans hgood
        have hx2 : xs = s.data.toList.map letN := HXS.out.trans (pwL_yes hgood)
        have hlen : xs.length = s.size := by rw [hx2, List.length_map, slen]
        have htk : s.data.toList.take s.size = s.data.toList := by rw [← slen s, List.take_length]
        rw [htk, ← hx2] at hown
        have HOWN := hide hown; have HBB := hide hbwr; have HLN := Lib.hid hlen
        clear HG hgood hx2 hown hbwr hlen htk
        go_wp2_with fail
        go_ret2
        exact ⟨⟨A, c, by rw [HLN.out] <;> rfl, by rw [HLN.out]; exact unhide HOWN⟩, unhide HBB⟩
  · have hz : pwZ s.data.toList = false := pwZ_long (by rw [slen]; exact h20)
    rw [hz, pwL_no hz]
    have d0 : decide ((s.size : Int) > 20) = true := decide_eq_true (by omega)
    clear hz
    go_enter Try.func87, Try.ntmps87
    go_wp2_with fail
    go_ret2
    exact ⟨givesI_none _ _, Below.refl _ _⟩
set_option maxRecDepth 100000 in
theorem sParseWord_any (s : ByteArray) (w : World) (hs : s.size ≤ 1048576) :
    Calls Try.prog 48 #[.string s] w fun e w' => GivesI w.heap.size (pwL s.data.toList) (pwZ s.data.toList) e w' ∧ Below w.heap.size w w' := by
  have H := hide (woParse_any s w hs)
  generalize pwL s.data.toList = xs at *
  generalize pwZ s.data.toList = z at *
  go_enter Try.func48, Try.ntmps48
  go_wp2_with (go_at_call 87; (with_reducible refine (unhide H).mono ?_); rintro e w1 ⟨⟨A, d, rfl, ho⟩, hb⟩; have HO := hide ho; clear ho)
  go_ret2
  exact ⟨⟨A, d, rfl, unhide HO⟩, hb⟩
end Go.Proofs.Ytjggjegjhcpjhaa

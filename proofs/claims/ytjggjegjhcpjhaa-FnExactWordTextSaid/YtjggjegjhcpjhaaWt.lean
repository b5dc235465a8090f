/-
  Chapter 6: WordText of both: strings.Builder's WriteByte, laid by hand (the shelf's program leaves it out).
-/
import Derived.Test.YtjggjegjhcpjhaaShelf
import Derived.Shelf.Strings.BuilderK
import Derived.Test.YtjggjegjhcpjhaaWi
namespace Go.Proofs
open Go.Shelf Go.RowKit
def Try.lays167_ren : Go.Shelf.Ren := ⟨fun | 167 => 85 | 240 => 117 | 276 => 139 | n => n, fun | 0 => 0 | 3 => 3 | 4 => 4 | 9 => 9 | 20 => 20 | 37 => 111 | 70 => 110 | 72 => 113 | 75 => 115 | 164 => 153 | 5 => 5 | 80 => 117 | n => n, fun | n => n⟩
theorem Try.lays167 : Go.Proofs.Lays.n167 Try.prog Try.lays167_ren := {
  mixed := by kernel_rfl
  f167 := Try.func85.trans (congrArg some (by kernel_rfl))
  f240 := Try.func117.trans (congrArg some (by kernel_rfl))
  f276 := Try.func139.trans (congrArg some (by kernel_rfl))
  t0 := Try.underlying0
  a0 := Try.isAgg0
  z0 := Try.sizeOf0
  v0 := Try.zeroValue0
  t4 := Try.underlying4
  a4 := Try.isAgg4
  z4 := Try.sizeOf4
  v4 := Try.zeroValue4
  t5 := Try.underlying5
  a5 := Try.isAgg5
  z5 := Try.sizeOf5
  v5 := Try.zeroValue5
  t9 := Try.underlying9
  a9 := Try.isAgg9
  z9 := Try.sizeOf9
  v9 := Try.zeroValue9
  t20 := Try.underlying20
  a20 := Try.isAgg20
  z20 := Try.sizeOf20
  v20 := Try.zeroValue20
  t37 := Try.underlying111
  a37 := Try.isAgg111
  z37 := Try.sizeOf111
  v37 := Try.zeroValue111
  t70 := Try.underlying110
  a70 := Try.isAgg110
  z70 := Try.sizeOf110
  v70 := Try.zeroValue110
  t72 := Try.underlying113
  a72 := Try.isAgg113
  z72 := Try.sizeOf113
  v72 := Try.zeroValue113
  t75 := Try.underlying115
  a75 := Try.isAgg115
  z75 := Try.sizeOf115
  v75 := Try.zeroValue115
  t164 := Try.underlying153
  a164 := Try.isAgg153
  z164 := Try.sizeOf153
  v164 := Try.zeroValue153 }
theorem Try.Builder_Extra_167 : Builder.Extra Try.prog Try.lays167_ren := {
  sizeBuilder := by kernel_rfl
  liesBuilder := by kernel_rfl
  t5 := Try.underlying5
  a5 := Try.isAgg5
  z5 := Try.sizeOf5
  v5 := Try.zeroValue5
  infoByte := by kernel_rfl
  cellsByte := by kernel_rfl
  sizeByte := by kernel_rfl
  neB5 := by decide }
theorem Try.Builder_WriteByte (B b : Nat) (bs : List Value) (c : Int) (w : World) (h : Lib.IsBuilder 113 5 B b bs w) (hlen : bs.length + 1 ≤ 140737488355328) (hBw : B ≤ w.heap.size) :
    Calls Try.prog 85 #[.pointer (some ⟨b, 0, none⟩), .int .u8 c] w fun e w' => e = .returned .nilIface ∧ (Lib.BuilderAt 113 5 B b (.pointer (some ⟨b, 0, none⟩)) (bs ++ [.int .u8 c]) w' ∧ Below B w w') := Any.Builder_WriteByte Try.lays167 Try.Builder_Extra_167 B b bs c w h hlen hBw
end Go.Proofs
namespace Go.Proofs.Ytjggjegjhcpjhaa
open Go.RowKit Rm

/-- The letter of a number. -/
def letT (k : Int) : UInt8 := UInt8.ofNat (97 + k.toNat)
/-- The text of the first j numbers. -/
def wtK (r : List Int) (j : Nat) : List UInt8 := (r.take j).map letT
def wtZ (r : List Int) : Bool := decide (r.length ≤ 20) && allIn 0 25 r
def wtT (r : List Int) : List UInt8 := match wtZ r with | true => r.map letT | false => []
theorem wtT_no {r : List Int} (h : wtZ r = false) : wtT r = [] := by unfold wtT; simp only [h]
theorem wtT_yes {r : List Int} (h : wtZ r = true) : wtT r = wtK r r.length := by unfold wtT wtK; simp only [h, List.take_length]
theorem wtK_sn {r : List Int} {j : Nat} (h : j < r.length) : wtK r (j + 1) = wtK r j ++ [letT (r.getD j 0)] := by
  unfold wtK
  rw [List.take_succ_eq_append_getElem h, List.map_append]
  simp [h]
theorem wtK_len {r : List Int} {j : Nat} (h : j ≤ r.length) : (wtK r j).length = j := by unfold wtK; rw [List.length_map, List.length_take]; omega
theorem wtZ_long {r : List Int} (h : ¬ r.length ≤ 20) : wtZ r = false := by unfold wtZ; rw [decide_eq_false h, Bool.false_and]
theorem wtZ_bad {r : List Int} {j : Nat} (hj : j < r.length) (h : ¬ (0 ≤ r.getD j 0 ∧ r.getD j 0 ≤ 25)) : wtZ r = false := by
  unfold wtZ
  have : allIn 0 25 r = false := by
    unfold allIn
    rw [List.all_eq_false]
    refine ⟨r.getD j 0, ?_, by simpa using h⟩
    rw [List.getD_eq_getElem?_getD, List.getElem?_eq_getElem hj]
    exact List.getElem_mem hj
  rw [this, Bool.and_false]
theorem wtZ_good {r : List Int} (h20 : r.length ≤ 20) (h : ∀ j, j < r.length → 0 ≤ r.getD j 0 ∧ r.getD j 0 ≤ 25) : wtZ r = true := by
  unfold wtZ
  rw [decide_eq_true h20, Bool.true_and]
  unfold allIn
  rw [List.all_eq_true]
  intro x hx
  obtain ⟨j, hj, rfl⟩ := List.mem_iff_getElem.1 hx
  have := h j hj
  rw [List.getD_eq_getElem?_getD, List.getElem?_eq_getElem hj, Option.getD_some] at this
  exact decide_eq_true this
theorem letT_nat {k : Int} (h : 0 ≤ k ∧ k ≤ 25) : ((letT k).toNat : Int) = 97 + k := by
  unfold letT
  rw [UInt8.toNat_ofNat']
  omega
theorem isb_on {T e : TypeId} {B b : Nat} {bs : List Value} {W W' : World} (h : Lib.IsBuilder T e B b bs W) (hb : Below W.heap.size W W') : Lib.IsBuilder T e B b bs W' := by
  have key : ∀ p, Lib.BuilderAt T e B b p bs W → Lib.BuilderAt T e B b p bs W' := by
    intro p h
    have hlt := h.lt
    obtain ⟨h1, v, h2, h3, h4⟩ := h
    exact ⟨h1, v, (hb.block b hlt).trans h2, own_below h3 hb, h4⟩
  exact h.imp (key _) (key _)

set_option maxRecDepth 100000 in
set_option maxHeartbeats 1600000 in
theorem iWordText_any (g n c base : Nat) (r : List Int) (w : World) (ha : w.ownsRow base 3 1 (.slice (some ⟨g, 0, none⟩) n c) n (ints r)) (hn : n ≤ 1048576) :
    Calls Try.prog 47 #[.slice (some ⟨g, 0, none⟩) n c] w fun e w' => e = .returned (.tuple #[.string ⟨(wtT r).toArray⟩, .bool (wtZ r)]) ∧ Below w.heap.size w w' := by
  have hrl : r.length = n := by have := ha.1; rw [ints_len] at this; omega
  have hw := WCells.own ha
  by_cases h20 : n ≤ 20
  · have d0 : decide ((n : Int) > 20) = false := decide_eq_false (by omega)
    obtain ⟨z, hz⟩ : ∃ z, z = wtZ r := ⟨_, rfl⟩
    obtain ⟨t, ht⟩ : ∃ t, t = wtT r := ⟨_, rfl⟩
    rw [← hz, ← ht]
    have HZ := Lib.hid hz; have HT := Lib.hid ht; have HW := hide hw; have HRL := Lib.hid hrl
    clear hz ht ha hw hrl
    go_enter Try.func47, Try.ntmps47
    go_wp2_with fail
    have hfb := hide (Lib.fresh_isBuilder 113 5 w)
    go_loopw [12] (fun i wr => ∃ k : Nat, i = .int .i64 k ∧ k ≤ n ∧ Hid (Lib.IsBuilder 113 5 w.heap.size w.heap.size (Lib.byteCells (wtK r k)) wr) ∧ Hid (∀ j, j < k → 0 ≤ r.getD j 0 ∧ r.getD j 0 ≤ 25) ∧ Below w.heap.size w wr) (fun i _ => n - (intOf i).toNat)
    case atStart => exact ⟨0, rfl, Nat.zero_le _, hfb, hide (fun j h => by omega), (by repeat (first | with_reducible exact Below.refl _ _ | with_reducible assumption | (with_reducible refine Below.trans ?_ (Below.mono (by assumption) (by first | omega | (simp <;> omega)))) | with_reducible apply Below.drew | with_reducible apply below_drewN | (with_reducible refine Below.alloc ?_ (by first | omega | (simp <;> omega)) _) | (with_reducible refine Below.setCell ?_ (by first | omega | (simp <;> omega)) _)))⟩
    case round =>
      obtain ⟨k, rfl, hk, HI, HG, hb⟩ := hrel
      have hzr := hb.size
      clear hfb
      by_cases hlt : k < n
      · have hc := ((unhide HW).below hb).cel k hlt
        have hgw := ((unhide HW).below hb).lt
        have hkr : k < r.length := by rw [HRL.out]; exact hlt
        have hsn := wtK_sn hkr
        have hls := wtK_len (r := r) (j := k) (by omega)
        have hbad : ¬ (0 ≤ r.getD k 0 ∧ r.getD k 0 ≤ 25) → z = false ∧ t = [] := fun h => ⟨HZ.out.trans (wtZ_bad hkr h), HT.out.trans (wtT_no (wtZ_bad hkr h))⟩
        have hgx : (0 ≤ r.getD k 0 ∧ r.getD k 0 ≤ 25) → ∀ j, j < k + 1 → 0 ≤ r.getD j 0 ∧ r.getD j 0 ≤ 25 := fun h j hj => by
          rcases Nat.lt_or_ge j k with h1 | h1
          · exact (unhide HG) j h1
          · obtain rfl : j = k := by omega
            exact h
        have hlt2 := fun h => letT_nat (k := r.getD k 0) h
        have HSN := Lib.hid hsn; have HBAD := hide hbad; have HGX := hide hgx; have HLT := hide hlt2; have HB := hide hb; have HLS := Lib.hid hls
        clear hsn hbad hgx hlt2 hb HG hls
        generalize letT (r.getD k 0) = lt at *
        generalize r.getD k 0 = x at *
        by_cases hx : 0 ≤ x ∧ x ≤ 25
        · have HG1 := hide ((unhide HGX) hx)
          have hle := (unhide HLT) hx
          have hx0 := hx.1
          have hx1 := hx.2
          have e1 : IntKind.i64.wrap (97 + x) = 97 + x := IntWalk.i64_in _ (by omega)
          have e2 : IntKind.u8.wrap (97 + x) = 97 + x := IntWalk.u8_in _ (by omega)
          have e3 : decide (x < 0) = false := decide_eq_false (by omega)
          have e4 : decide (x > 25) = false := decide_eq_false (by omega)
          clear hx HGX HBAD HLT
          go_wp2_with (go_at_call 85; refine (Try.Builder_WriteByte w.heap.size w.heap.size (Lib.byteCells (wtK r k)) (97 + x) _ (unhide HI) (by rw [Lib.byteCells_length, HLS.out]; omega) (by omega)).mono ?_; rintro e w5 ⟨rfl, hB5, hb5⟩)
          have hbz := (unhide HB).trans hb5
          have hap : Lib.byteCells (wtK r k) ++ [.int .u8 (97 + x)] = Lib.byteCells (wtK r (k + 1)) := by
            rw [HSN.out, Lib.byteCells_append, ← hle]
            rfl
          rw [hap] at hB5
          go_roundw
          case rel => exact ⟨k + 1, by go_num, by omega, hide (.inr hB5), HG1, hbz⟩
          case measure => (simp [intOf] <;> omega)
        · obtain ⟨rfl, rfl⟩ := (unhide HBAD) hx
          clear HGX HBAD HLT
          by_cases h0 : x < 0
          · have e3 : decide (x < 0) = true := decide_eq_true h0
            clear hx
            go_wp2_with fail
            go_ret2
            exact ⟨rfl, unhide HB⟩
          · have e3 : decide (x < 0) = false := decide_eq_false h0
            have e4 : decide (x > 25) = true := decide_eq_true (by omega)
            clear hx
            go_wp2_with fail
            go_ret2
            exact ⟨rfl, unhide HB⟩
      · obtain rfl : k = n := by omega
        have hgood : wtZ r = true := wtZ_good (by rw [HRL.out]; exact h20) (fun j hj => (unhide HG) j (by rw [← HRL.out]; exact hj))
        obtain rfl : z = true := HZ.out.trans hgood
        obtain rfl : t = wtK r k := by rw [HT.out, wtT_yes hgood, HRL.out]
        have HB := hide hb
        clear hb hgood HG
        go_wp2_with (go_at_call 86; refine (Try.Builder_String_any w.heap.size w.heap.size (wtK r k) _ (unhide HI) (by omega)).mono ?_; rintro e w6 ⟨rfl, hb6⟩)
        go_ret2
        exact ⟨rfl, (unhide HB).trans hb6⟩
  · have hz : wtZ r = false := wtZ_long (by rw [hrl]; exact h20)
    rw [hz, wtT_no hz]
    have d0 : decide ((n : Int) > 20) = true := decide_eq_true (by omega)
    clear hz ha hw hrl
    go_enter Try.func47, Try.ntmps47
    go_wp2_with fail
    go_ret2
    exact ⟨rfl, Below.refl _ _⟩
end Go.Proofs.Ytjggjegjhcpjhaa

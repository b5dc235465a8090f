/-
  A slice of fractions that came in: the law's copy of it, its size; a row's argument of it opened and shut.
-/
import Derived.Test.YtgkbogcmmedmbaaGreatRowP
import Derived.Test.YtgkbogcmmedmbaaGreatRs
namespace Go.Proofs.YtgkbogcmmedmbaaGreat
open Go.ChangeShapes Go.WideShapes Go.ChangeAt Go.RowKit Go.Joins Go.Deep Rm

/-- A slice of fractions that came in: the law's own, of whatever address. -/
def ArgR (w : World) (A : Option Addr) (n : Nat) (xs : List Fr) : Prop :=
  xs.length = n ∧ (0 < n → ∃ ad, A = some ad ∧ ad.block < w.heap.size ∧ ∀ i, i < n → w.cell? (ad.add (i * 2)) = some (.int .i64 (fAt xs i).1) ∧ w.cell? ((ad.add (i * 2)).add 1) = some (.int .i64 (fAt xs i).2))
theorem ArgR.below {w w' : World} {A : Option Addr} {n : Nat} {xs : List Fr} (h : ArgR w A n xs) (hb : Below w.heap.size w w') : ArgR w' A n xs :=
  ⟨h.1, fun hn => by
    obtain ⟨ad, e, hl, hc⟩ := h.2 hn
    refine ⟨ad, e, Nat.lt_of_lt_of_le hl hb.size, fun i hi => ?_⟩
    obtain ⟨h0, h1⟩ := hc i hi
    exact ⟨(hb.cell (by rw [block_add]; exact hl)).trans h0, (hb.cell (by rw [block_add, block_add]; exact hl)).trans h1⟩⟩
set_option maxHeartbeats 400000 in
theorem szRatS_any (A : Option Addr) (n c : Nat) (left : Int) (hn : n ≤ maxLen) (h0 : 0 ≤ left) (h1 : left ≤ 1048576) (w : World) :
    Calls Tryz.prog 20 #[.slice A n c, .int .i64 left] w fun e w' => e = .returned (.int .i64 (if (n : Int) ≤ left then left - (n : Int) else -1)) ∧ w = w' := by
  unfold maxLen at hn
  by_cases h : (n : Int) ≤ left
  · rw [if_pos h]
    go_enter Tryz.func20, Tryz.ntmps20
    go_wp2
    go_ret
    exact ⟨rfl, rfl⟩
  · rw [if_neg h]
    go_enter Tryz.func20, Tryz.ntmps20
    go_wp2
    go_ret
    exact ⟨rfl, rfl⟩
theorem iRats : (Tryz.prog.info? 38).map (fun i => (i.zero, i.size, i.bytes)) = some (some (.slice none 0 0), 1, 24) := by kernel_rfl
set_option maxHeartbeats 800000 in
set_option maxRecDepth 100000 in
theorem toRatS_any (A : Option Addr) (n c : Nat) (xs0 : List Fr) (w : World) (ha : ArgR w A n xs0) (hn : n ≤ 1048576) :
    Calls Tryz.prog 22 #[.slice A n c] w fun e w' => ∃ g : Nat, e = .returned (.slice (some ⟨g, 0, none⟩) n n) ∧ w'.ownsRow w.heap.size 46 2 (.slice (some ⟨g, 0, none⟩) n n) n (frcs xs0) ∧ Below w.heap.size w w' := by
  obtain ⟨i0, hi0, hz0, hz1, hz2⟩ := info_parts iRat
  have hmk := fun W : World => run_make_full (P := Tryz.prog) W W.heap.size 38 46 i0 _ 2 Tryz.underlying38 hi0 hz0 hz1 .i64 .i64 n (by rw [hz2]; omega) (by unfold maxLen; omega) (Nat.le_refl _)
  obtain ⟨w1, hr1, ho1, hg1⟩ := hmk w
  clear hmk
  have HA := hide ha
  have HO := hide ho1
  have HG := hide hg1
  clear ha ho1 hg1
  go_enter Tryz.func22, Tryz.ntmps22
  go_wp2
  go_loopw [4] (fun i wr => ∃ (k : Nat) (xs : List Value), i = .int .i64 k ∧ k ≤ n ∧ wr.ownsRow w.heap.size 46 2 (.slice (some ⟨w.heap.size, 0, none⟩) n n) n xs ∧ Hid (∀ j, j < k * 2 → xs[j]? = (frcs xs0)[j]?) ∧ Below w.heap.size w wr) (fun i _ => n - (intOf i).toNat)
  case atStart => exact ⟨0, _, rfl, Nat.zero_le _, HO.out, hide (fun j hj => absurd hj (by omega)), (Below.refl _ _).grown HG.out (Nat.le_refl _) (by simp)⟩
  case round =>
    obtain ⟨k, xs, rfl, hk, hown, hxs, hb⟩ := hrel
    by_cases hlt : k < n
    · obtain ⟨ad, rfl, hbl, hcell⟩ := (HA.out).2 (by omega)
      obtain ⟨h0, h1⟩ := hcell k hlt
      clear hcell
      rcases hp : fAt xs0 k with ⟨a, b⟩
      rw [hp] at h0 h1
      have HP := Lib.hid hp
      replace h0 : wr.cell? (ad.add (k * 2)) = some (.int .i64 a) := (hb.cell (by rw [block_add]; exact hbl)).trans h0
      replace h1 : wr.cell? ⟨(ad.add (k * 2)).block, (ad.add (k * 2)).off + 1, none⟩ = some (.int .i64 b) := (hb.cell (by show (ad.add (k * 2)).block < _; rw [block_add]; exact hbl)).trans h1
      clear hp hr1
      have HB := hide hb
      have HOW := hide hown
      have hbs := hb.size
      obtain ⟨hg0, hgl⟩ := hown.lt w.heap.size rfl
      have hff := fun j => hown.frozenAt (g := w.heap.size) (n := n) (cap := n) j
      have hc0 := hown.cellAt (g := w.heap.size) (n := n) (cap := n) (k * 2) (by omega)
      have hc1 := hown.cellAt (g := w.heap.size) (n := n) (cap := n) (k * 2 + 1) (by omega)
      have hlen := hown.1
      rw [List.getElem?_eq_getElem (by omega)] at hc0 hc1
      clear hb hown
      go_wp2_with (go_at_call 29; (with_reducible refine (toRat_any a b _).mono ?_); rintro e w2 ⟨rfl, hbw2⟩; obtain ⟨hcw2, hfw2⟩ := bcell hbw2; have hzw2 := hbw2.size; (try simp at hzw2))
      have hpl := (HA.out).1
      obtain ⟨k0, k1⟩ := frcs_at (by omega) HP.out
      have hb := unhide HB
      clear h0 h1 hc0 hc1 hff hcw2 hfw2
      go_roundw
      case rel => exact ⟨k + 1, _, by go_num, by omega, own_set2 (own_below (unhide HOW) hbw2) (k * 2) _ _, hide (set2_agree (unhide hxs) (by omega) k0 k1), (by repeat (first | with_reducible exact Below.refl _ _ | with_reducible assumption | (with_reducible refine Below.trans ?_ (Below.mono (by assumption) (by first | omega | (simp <;> omega)))) | with_reducible apply Below.drew | with_reducible apply below_drewN | (with_reducible refine Below.alloc ?_ (by first | omega | (simp <;> omega)) _) | (with_reducible refine Below.setCell ?_ (by first | omega | (simp <;> omega)) _)))⟩
      case measure => simp [intOf]; omega
    · obtain rfl : k = n := by omega
      have hpl := (HA.out).1
      have e : xs = frcs xs0 := agree_all (unhide hxs) hown.1 (by rw [frcs_len, hpl])
      subst e
      have HOW := hide hown
      have HB := hide hb
      clear hown hb
      go_wp2
      go_ret
      exact ⟨w.heap.size, rfl, unhide HOW, unhide HB⟩

set_option maxRecDepth 100000 in
/-- A slice of fractions that came in: what its cells are, and that it reads the same behind whatever makes new memory alone. -/
theorem open_rats {H : Type} {enc : TypeId × Value → H} {W : World} {v0 : Value} {d0 : DataW H} {p0 : List MemPlace} {r : Reach} {b : Nat}
    (hv : Value.okWide Tryz.prog W r b 35 v0) (h : DataW.Trod enc Tryz.prog W 0 (fun _ => true) true 35 v0 d0 p0) :
    ∃ (A : Option Addr) (n c : Nat) (xs : List Fr), v0 = .slice A n c ∧ n ≤ maxLen ∧ ArgR W A n xs ∧
      ∀ (W' : World) (sp : Nat → Bool), Below W.heap.size W W' → (∀ p ∈ p0, sp p.block = true) → DataW.Trod enc Tryz.prog W' 0 sp true 35 v0 d0 p0 := by
  obtain ⟨A, n, c, rfl⟩ := okWide_slice Tryz.underlying35 hv
  obtain ⟨fuel, hf⟩ := h
  have hf' : DataW.trod enc Tryz.prog W 0 (fun _ => true) true fuel 35 [.slice A n c] = some (d0, p0) := by simpa [Value.cells] using hf
  rcases open_slice Tryz.underlying35 hf' with ⟨hc, hx⟩ | ⟨a, len, cap, mm, m, D, Pl, hc, _, hl, hm, hmm, hx, hall⟩
  · simp at hc hx
    obtain ⟨rfl, rfl, rfl⟩ := hc
    obtain ⟨rfl, rfl⟩ := hx
    refine ⟨none, 0, 0, [], rfl, Nat.zero_le _, ⟨rfl, fun h => absurd h (by omega)⟩, fun W' sp _ _ => ⟨1, ?_⟩⟩
    simp [Value.cells, DataW.trod, Tryz.underlying35]
  · simp at hc
    obtain ⟨rfl, rfl, rfl⟩ := hc
    simp at hmm
    subst hmm
    simp only [Prod.mk.injEq] at hx
    obtain ⟨rfl, rfl⟩ := hx
    rw [cellsR] at hall
    have key : ∀ i, i < mm → ∃ q : Fr, (Lit.int .i64 q.1).wf = true ∧ (Lit.int .i64 q.2).wf = true ∧
        W.cells? 0 (a.add (i * 2)) 2 = some [.int .i64 q.1, .int .i64 q.2] ∧
        D i = .agg [.lit (.int .i64 q.1), .lit (.int .i64 q.2)] ∧ Pl i = [] := by
      intro i hi
      obtain ⟨cs', h1, h2⟩ := hall i hi
      obtain ⟨x, y, rfl, wx, wy, hx⟩ := fr_open h2
      simp only [Prod.mk.injEq] at hx
      exact ⟨(x, y), wx, wy, h1, hx.1, hx.2⟩
    obtain ⟨f, hfn⟩ := choose_lt key
    have hat : ∀ i, i < n → fAt ((List.range n).map f) i = f i := fun i hi => by simp [fAt, hi]
    refine ⟨some a, n, mm, (List.range n).map f, rfl, by omega, ⟨by simp, fun hn => ⟨a, rfl, ?_, fun i hi => ?_⟩⟩, fun W' sp hb hsp => ?_⟩
    · have h0 := (World.cells?_some (hfn 0 (by omega)).2.2.1).2.2 0 (by omega)
      have h1 : W.cell? (a.add (0 * 2)) = some (.int .i64 (f 0).1) := by simpa [Addr.add] using h0
      have := Clock.block_lt h1
      rwa [block_add] at this
    · rw [hat i hi]
      have h0 := (World.cells?_some (hfn i (by omega)).2.2.1).2.2
      refine ⟨by simpa [Addr.add] using h0 0 (by omega), h0 1 (by omega)⟩
    · have hD : ∀ i, i < mm → ∃ cs k, W'.cells? 0 (a.add (i * Tryz.prog.cellsOf 44)) (Tryz.prog.cellsOf 44) = some cs ∧ DataW.trod enc Tryz.prog W' 0 sp true k 44 cs = some (D i, Pl i) := by
        intro i hi
        obtain ⟨wx, wy, h1, h2, h3⟩ := hfn i hi
        rw [cellsR]
        refine ⟨_, 0 + 2, World.cells?_carry h1 fun p hp => ?_, ?_⟩
        · refine hb.same ?_
          obtain ⟨j, hj, rfl⟩ := MemPlace.mem_row.1 hp
          have h0 := (World.cells?_some h1).2.2 0 (by omega)
          have h1' : W.cell? (a.add (i * 2)) = some (.int .i64 (f i).1) := by simpa [Addr.add] using h0
          exact Clock.block_lt h1'
        · rw [h2, h3]; exact fr_shut wx wy 0
      rcases Nat.eq_zero_or_pos mm with h0 | h0
      · subst h0
        obtain rfl : n = 0 := by omega
        cases hs : sp a.block with
        | true =>
          have := shut_slice_whole (t := 35) (spare := sp) (held := true) (base := 0) Tryz.underlying35 (Nat.zero_le _) (Nat.le_refl 0) (Nat.zero_le _) hs D Pl hD
          simpa using this
        | false =>
          have := shut_slice (t := 35) (spare := sp) (held := true) (base := 0) Tryz.underlying35 (Nat.zero_le _) (Nat.le_refl 0) (Nat.zero_le _) hs D Pl hD
          simpa using this
      · have hs : sp a.block = true := by
          have : MemPlace.cell a.block a.off ∈ MemPlace.row a (mm * Tryz.prog.cellsOf 44) ++ (List.range mm).flatMap Pl := by
            refine List.mem_append_left _ (MemPlace.mem_row.2 ⟨0, by rw [cellsR]; omega, rfl⟩)
          exact hsp _ this
        exact shut_slice_whole (spare := sp) (held := true) (base := 0) Tryz.underlying35 (Nat.zero_le _) hl hm hs D Pl hD
end Go.Proofs.YtgkbogcmmedmbaaGreat

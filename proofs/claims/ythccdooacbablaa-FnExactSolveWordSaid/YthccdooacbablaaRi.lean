/-
  A slice of integers that came in: the law's copy of it; a row's argument of it opened and shut.
-/
import Derived.Test.YthccdooacbablaaRowP
import Derived.Test.YthccdooacbablaaNs
namespace Go.Proofs.Ythccdooacbablaa
open Go.ChangeShapes Go.WideShapes Go.ChangeAt Go.RowKit Go.Joins Go.Deep Rm

/-- A slice of integers that came in: the law's own, of whatever address. -/
def ArgI (w : World) (A : Option Addr) (n : Nat) (r : List Int) : Prop :=
  r.length = n ∧ (0 < n → ∃ ad, A = some ad ∧ ad.block < w.heap.size ∧ ∀ i, i < n → w.cell? (ad.add i) = some (.int .i64 (r.getD i 0)))
theorem ArgI.below {w w' : World} {A : Option Addr} {n : Nat} {r : List Int} (h : ArgI w A n r) (hb : Below w.heap.size w w') : ArgI w' A n r :=
  ⟨h.1, fun hn => by
    obtain ⟨ad, e, hl, hc⟩ := h.2 hn
    refine ⟨ad, e, Nat.lt_of_lt_of_le hl hb.size, fun i hi => ?_⟩
    exact (hb.cell (by rw [block_add]; exact hl)).trans (hc i hi)⟩
theorem set1_agree {xs ys : List Value} {k : Nat} {a : Value} (h : ∀ j, j < k → xs[j]? = ys[j]?) (hl : k < xs.length) (h0 : ys[k]? = some a) : ∀ j, j < k + 1 → (xs.set k a)[j]? = ys[j]? := by
  intro j hj
  rw [List.getElem?_set]
  by_cases e : k = j
  · subst e; rw [if_pos rfl, if_pos hl, h0]
  · rw [if_neg e]; exact h j (by omega)
theorem ints_getD {r : List Int} {k : Nat} (h : k < r.length) : (ints r)[k]? = some (.int .i64 (r.getD k 0)) := ints_at (by simp [h])

set_option maxHeartbeats 800000 in
set_option maxRecDepth 100000 in
theorem toIntS_any (A : Option Addr) (n c : Nat) (r : List Int) (w : World) (ha : ArgI w A n r) (hn : n ≤ 1048576) :
    Calls Try.prog 15 #[.slice A n c] w fun e w' => ∃ g : Nat, e = .returned (.slice (some ⟨g, 0, none⟩) n n) ∧ w'.ownsRow w.heap.size 3 1 (.slice (some ⟨g, 0, none⟩) n n) n (ints r) ∧ Below w.heap.size w w' := by
  obtain ⟨i0, hi0, hz0, hz1, hz2⟩ := info_parts iInt
  have hmk := fun W : World => run_make_full (P := Try.prog) W W.heap.size 23 3 i0 _ 1 Try.underlying23 hi0 hz0 hz1 .i64 .i64 n (by rw [hz2]; omega) (by unfold maxLen; omega) (Nat.le_refl _)
  obtain ⟨w1, hr1, ho1, hg1⟩ := hmk w
  clear hmk
  have HA := hide ha
  have HO := hide ho1
  have HG := hide hg1
  clear ha ho1 hg1
  go_enter Try.func15, Try.ntmps15
  go_wp2
  go_loopw [4] (fun i wr => ∃ (k : Nat) (xs : List Value), i = .int .i64 k ∧ k ≤ n ∧ wr.ownsRow w.heap.size 3 1 (.slice (some ⟨w.heap.size, 0, none⟩) n n) n xs ∧ Hid (∀ j, j < k → xs[j]? = (ints r)[j]?) ∧ Below w.heap.size w wr) (fun i _ => n - (intOf i).toNat)
  case atStart => exact ⟨0, _, rfl, Nat.zero_le _, HO.out, hide (fun j hj => absurd hj (by omega)), (Below.refl _ _).grown HG.out (Nat.le_refl _) (by simp)⟩
  case round =>
    obtain ⟨k, xs, rfl, hk, hown, hxs, hb⟩ := hrel
    by_cases hlt : k < n
    · obtain ⟨ad, rfl, hbl, hcell⟩ := (HA.out).2 (by omega)
      have h0 := hcell k hlt
      clear hcell
      obtain ⟨a, hp⟩ : ∃ a, a = r.getD k 0 := ⟨_, rfl⟩
      rw [← hp] at h0
      have HP := Lib.hid hp
      replace h0 : wr.cell? (ad.add k) = some (.int .i64 a) := (hb.cell (by rw [block_add]; exact hbl)).trans h0
      clear hp hr1
      have HB := hide hb
      have HOW := hide hown
      have hbs := hb.size
      obtain ⟨hg0, hgl⟩ := hown.lt w.heap.size rfl
      have hff := fun j => hown.frozenAt (g := w.heap.size) (n := n) (cap := n) j
      have hlen := hown.1
      have hc0 := hown.cellAt (g := w.heap.size) (n := n) (cap := n) k (by omega)
      rw [List.getElem?_eq_getElem (by omega)] at hc0
      clear hb hown
      go_wp2_with fail
      have hpl := (HA.out).1
      have k0 := ints_getD (r := r) (k := k) (by omega)
      rw [← HP.out] at k0
      have hb := unhide HB
      clear h0 hc0 hff
      go_roundw
      case rel => exact ⟨k + 1, _, by go_num, by omega, ((unhide HOW).stored k _).1, hide (set1_agree (unhide hxs) (by omega) k0), (by repeat (first | with_reducible exact Below.refl _ _ | with_reducible assumption | (with_reducible refine Below.trans ?_ (Below.mono (by assumption) (by first | omega | (simp <;> omega)))) | with_reducible apply Below.drew | with_reducible apply below_drewN | (with_reducible refine Below.alloc ?_ (by first | omega | (simp <;> omega)) _) | (with_reducible refine Below.setCell ?_ (by first | omega | (simp <;> omega)) _)))⟩
      case measure => simp [intOf]; omega
    · obtain rfl : k = n := by omega
      have hpl := (HA.out).1
      have e : xs = ints r := agree_all (unhide hxs) (by have := hown.1; omega) (by rw [ints_len, hpl])
      subst e
      have HOW := hide hown
      have HB := hide hb
      clear hown hb
      go_wp2
      go_ret
      exact ⟨w.heap.size, rfl, unhide HOW, unhide HB⟩

set_option maxRecDepth 100000 in
/-- A slice of integers that came in: what its cells are, and that it reads the same behind whatever makes new memory alone. -/
theorem open_words {H : Type} {enc : TypeId × Value → H} {W : World} {v0 : Value} {d0 : DataW H} {p0 : List MemPlace} {r : Reach} {b : Nat}
    (hv : Value.okWide Try.prog W r b 23 v0) (h : DataW.Trod enc Try.prog W 0 (fun _ => true) true 23 v0 d0 p0) :
    ∃ (A : Option Addr) (n c : Nat) (xs : List Int), v0 = .slice A n c ∧ n ≤ maxLen ∧ ArgI W A n xs ∧
      ∀ (W' : World) (sp : Nat → Bool), Below W.heap.size W W' → (∀ p ∈ p0, sp p.block = true) → DataW.Trod enc Try.prog W' 0 sp true 23 v0 d0 p0 := by
  obtain ⟨A, n, c, rfl⟩ := okWide_slice Try.underlying23 hv
  obtain ⟨fuel, hf⟩ := h
  have hf' : DataW.trod enc Try.prog W 0 (fun _ => true) true fuel 23 [.slice A n c] = some (d0, p0) := by simpa [Value.cells] using hf
  rcases open_slice Try.underlying23 hf' with ⟨hc, hx⟩ | ⟨a, len, cap, mm, m, D, Pl, hc, _, hl, hm, hmm, hx, hall⟩
  · simp at hc hx
    obtain ⟨rfl, rfl, rfl⟩ := hc
    obtain ⟨rfl, rfl⟩ := hx
    refine ⟨none, 0, 0, [], rfl, Nat.zero_le _, ⟨rfl, fun h => absurd h (by omega)⟩, fun W' sp _ _ => ⟨1, ?_⟩⟩
    simp [Value.cells, DataW.trod, Try.underlying23]
  · simp at hc
    obtain ⟨rfl, rfl, rfl⟩ := hc
    simp at hmm
    subst hmm
    simp only [Prod.mk.injEq] at hx
    obtain ⟨rfl, rfl⟩ := hx
    have hc1 : Try.prog.cellsOf 3 = 1 := by kernel_rfl
    rw [hc1] at hall
    have key : ∀ i, i < mm → ∃ q : Int, (Lit.int .i64 q).wf = true ∧ W.cells? 0 (a.add (i * 1)) 1 = some [.int .i64 q] ∧ D i = .lit (.int .i64 q) ∧ Pl i = [] := by
      intro i hi
      obtain ⟨cs', h1, h2⟩ := hall i hi
      obtain ⟨x, rfl, hx, wx⟩ := DataW.trod_int Try.underlying3 h2
      simp only [Prod.mk.injEq] at hx
      exact ⟨x, wx, h1, hx.1, hx.2⟩
    obtain ⟨f, hfn⟩ := choose_lt key
    have hat : ∀ i, i < n → ((List.range n).map f).getD i 0 = f i := fun i hi => by simp [hi]
    refine ⟨some a, n, mm, (List.range n).map f, rfl, by omega, ⟨by simp, fun hn => ⟨a, rfl, ?_, fun i hi => ?_⟩⟩, fun W' sp hb hsp => ?_⟩
    · have h0 := (World.cells?_some (hfn 0 (by omega)).2.1).2.2 0 (by omega)
      have h1 : W.cell? (a.add (0 * 1)) = some (.int .i64 (f 0)) := by simpa [Addr.add] using h0
      have := Clock.block_lt h1
      rwa [block_add] at this
    · rw [hat i hi]
      have h0 := (World.cells?_some (hfn i (by omega)).2.1).2.2 0 (by omega)
      simpa [Addr.add] using h0
    · have hD : ∀ i, i < mm → ∃ cs k, W'.cells? 0 (a.add (i * Try.prog.cellsOf 3)) (Try.prog.cellsOf 3) = some cs ∧ DataW.trod enc Try.prog W' 0 sp true k 3 cs = some (D i, Pl i) := by
        intro i hi
        obtain ⟨wx, h1, h2, h3⟩ := hfn i hi
        rw [hc1]
        refine ⟨_, 0 + 1, World.cells?_carry h1 fun p hp => ?_, ?_⟩
        · refine hb.same ?_
          obtain ⟨j, hj, rfl⟩ := MemPlace.mem_row.1 hp
          have h0 := (World.cells?_some h1).2.2 0 (by omega)
          have h1' : W.cell? (a.add (i * 1)) = some (.int .i64 (f i)) := by simpa [Addr.add] using h0
          exact Clock.block_lt h1'
        · rw [h2, h3]; exact trod_int_mk 0 Try.underlying3 wx
      rcases Nat.eq_zero_or_pos mm with h0 | h0
      · subst h0
        obtain rfl : n = 0 := by omega
        cases hs : sp a.block with
        | true =>
          have := shut_slice_whole (t := 23) (spare := sp) (held := true) (base := 0) Try.underlying23 (Nat.zero_le _) (Nat.le_refl 0) (Nat.zero_le _) hs D Pl hD
          simpa using this
        | false =>
          have := shut_slice (t := 23) (spare := sp) (held := true) (base := 0) Try.underlying23 (Nat.zero_le _) (Nat.le_refl 0) (Nat.zero_le _) hs D Pl hD
          simpa using this
      · have hs : sp a.block = true := by
          have : MemPlace.cell a.block a.off ∈ MemPlace.row a (mm * Try.prog.cellsOf 3) ++ (List.range mm).flatMap Pl := by
            refine List.mem_append_left _ (MemPlace.mem_row.2 ⟨0, by rw [hc1]; omega, rfl⟩)
          exact hsp _ this
        exact shut_slice_whole (spare := sp) (held := true) (base := 0) Try.underlying23 (Nat.zero_le _) hl hm hs D Pl hD
end Go.Proofs.Ythccdooacbablaa

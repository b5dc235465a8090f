/-
  A slice of fractions that is read, at any place of a block: what a model's answer is.
-/
import Derived.Test.YtldmgjeecomddaaLawS
namespace Go.Proofs.Ytldmgjeecomddaa
open Go.RowKit Rm

/-- The value is a slice of fractions that reads as the list; its block is none below base. -/
def RSl (w : World) (base : Nat) (A : Option Addr) (n : Nat) (xs : List Fr) : Prop :=
  xs.length = n ∧ ((n = 0 ∧ A = none) ∨ ∃ g o : Nat, A = some ⟨g, o, none⟩ ∧ base ≤ g ∧ g < w.heap.size ∧
    ∀ i, i < n → w.cell? ⟨g, o + i * 2, none⟩ = some (.int .i64 (fAt xs i).1) ∧ w.cell? ⟨g, o + i * 2 + 1, none⟩ = some (.int .i64 (fAt xs i).2))
theorem RSl.below {w w' : World} {base n : Nat} {A : Option Addr} {xs : List Fr} (h : RSl w base A n xs) (hb : Below w.heap.size w w') : RSl w' base A n xs := by
  obtain ⟨h1, h2 | ⟨g, o, rfl, hB, hl, hc⟩⟩ := h
  · exact ⟨h1, .inl h2⟩
  · exact ⟨h1, .inr ⟨g, o, rfl, hB, Nat.lt_of_lt_of_le hl hb.size, fun i hi => ⟨(hb.cell (p := ⟨g, o + i * 2, none⟩) hl).trans (hc i hi).1, (hb.cell (p := ⟨g, o + i * 2 + 1, none⟩) hl).trans (hc i hi).2⟩⟩⟩
theorem RSl.kept {w w' : World} {base n : Nat} {A : Option Addr} {xs : List Fr} {row : Option Nat} (h : RSl w base A n xs) (hg : w.grownBy w' row) (hne : ∀ k, row = some k → base ≤ k → k < w.heap.size → A.map (·.block) ≠ some k) : RSl w' base A n xs := by
  obtain ⟨h1, h2 | ⟨g, o, rfl, hB, hl, hc⟩⟩ := h
  · exact ⟨h1, .inl h2⟩
  · have hk : some g ≠ row := fun e => hne g e.symm hB hl rfl
    exact ⟨h1, .inr ⟨g, o, rfl, hB, Nat.lt_of_lt_of_le hl hg.size, fun i hi => ⟨(World.cell?_of_block (a := ⟨g, o + i * 2, none⟩) (hg.block g hl hk)).trans (hc i hi).1, (World.cell?_of_block (a := ⟨g, o + i * 2 + 1, none⟩) (hg.block g hl hk)).trans (hc i hi).2⟩⟩⟩
theorem RSl.mono {w : World} {base base' n : Nat} {A : Option Addr} {xs : List Fr} (h : RSl w base A n xs) (hb : base' ≤ base) : RSl w base' A n xs := by
  obtain ⟨h1, h2 | ⟨g, o, rfl, hB, hl, hc⟩⟩ := h
  · exact ⟨h1, .inl h2⟩
  · exact ⟨h1, .inr ⟨g, o, rfl, by omega, hl, hc⟩⟩
theorem RSl.lt {w : World} {base n : Nat} {A : Option Addr} {xs : List Fr} (h : RSl w base A n xs) {k : Nat} (hk : A.map (·.block) = some k) : base ≤ k ∧ k < w.heap.size := by
  obtain ⟨h1, ⟨_, rfl⟩ | ⟨g, o, rfl, hB, hl, hc⟩⟩ := h
  · cases hk
  · obtain rfl : g = k := Option.some.inj hk
    exact ⟨hB, hl⟩
theorem rsl_own {w : World} {base n c : Nat} {A : Option Addr} {xs : List Fr} (h : w.ownsRow base 34 2 (.slice A n c) n (frcs xs)) (hl : xs.length = n) : RSl w base A n xs := by
  refine ⟨hl, ?_⟩
  rcases Nat.eq_zero_or_pos n with h0 | h0
  · rcases h.2 with ⟨hv, _⟩ | ⟨g, cap, cur, hv, hB, hh, _⟩
    · left; injection hv with h1 _ _; exact ⟨h0, h1⟩
    · right
      injection hv with h1 _ _
      subst h1
      exact ⟨g, 0, rfl, hB, (h.lt g rfl).2, fun i hi => absurd hi (by omega)⟩
  · right
    obtain ⟨g, cap, hv, hB, hlt⟩ := h.form h0
    injection hv with h1 _ _
    subst h1
    refine ⟨g, 0, rfl, hB, hlt, fun i hi => ?_⟩
    obtain ⟨g', hA, _, _, c0, c1⟩ := frs_cells h hi (show fAt xs i = ((fAt xs i).1, (fAt xs i).2) from rfl)
    obtain rfl : g = g' := (Addr.mk.inj (Option.some.inj hA)).1
    rw [Nat.zero_add]
    exact ⟨c0, c1⟩
set_option maxRecDepth 100000 in
set_option maxHeartbeats 400000 in
theorem eqRatS_rs (A B : Option Addr) (n c d b1 b2 : Nat) (xs : List Fr) (w : World) (ha : w.ownsRow b1 34 2 (.slice A n c) n (frcs xs)) (hb : RSl w b2 B n xs) (hn : n ≤ 1048576) :
    Calls Try.prog 20 #[.slice A n c, .slice B n d] w fun e w' => e = .returned (.bool true) ∧ Below w.heap.size w w' := by
  have HA := hide ha
  have HB := hide hb
  clear ha hb
  go_enter Try.func20, Try.ntmps20
  go_wp2
  go_loopw [5] (fun i wr => ∃ k : Nat, i = .int .i64 k ∧ k ≤ n ∧ Below w.heap.size w wr) (fun i _ => n - (intOf i).toNat)
  case atStart => exact ⟨0, rfl, Nat.zero_le _, Below.refl _ _⟩
  case round =>
    obtain ⟨k, rfl, hk, hb⟩ := hrel
    by_cases hlt : k < n
    · rcases hp : fAt xs k with ⟨x, y⟩
      obtain ⟨g, rfl, hg, _, h0, h1⟩ := frs_cells (own_below (unhide HA) hb) hlt hp
      obtain ⟨_, ⟨h00, _⟩ | ⟨g', o, rfl, _, hg', hcc⟩⟩ := (unhide HB).below hb
      · omega
      obtain ⟨h0', h1'⟩ := hcc k hlt
      rw [hp] at h0' h1'
      have HP := Lib.hid hp; clear hp hcc
      have HBE := hide hb; clear hb
      go_upto_region 6 with fail
      go_cut [26] (fun s26 wx => s26 = .bool false ∧ Below wr.heap.size wr wx)
      case first =>
        go_region_held3 (fun w' => w'.cell? ⟨g, k * 2, none⟩ = some (.int .i64 x) ∧ w'.cell? ⟨g, k * 2 + 1, none⟩ = some (.int .i64 y) ∧ w'.cell? ⟨g', o + k * 2, none⟩ = some (.int .i64 x) ∧ w'.cell? ⟨g', o + k * 2 + 1, none⟩ = some (.int .i64 y)) (simp [go_sem, *])
          ((go_at_call 41; (with_reducible refine (eqRat_same x y _).mono ?_); rintro e w1 ⟨rfl, hbw1⟩; obtain ⟨hcw1, hfw1⟩ := bcell hbw1; have hzw1 := hbw1.size; (try simp at hzw1); (try ((have kw1gX0 := (bnew hbw1) (g) ?pf); (case pf => (first | omega | (simp; done) | (simp; omega))); obtain ⟨kcw1gX0, kfw1gX0, klw1gX0⟩ := kw1gX0)); (try ((have kw1g'X0 := (bnew hbw1) (g') ?pf); (case pf => (first | omega | (simp; done) | (simp; omega))); obtain ⟨kcw1g'X0, kfw1g'X0, klw1g'X0⟩ := kw1g'X0))))
        all_goals
          go_wp2_with fail
          go_meet
          exact ⟨rfl, (by repeat (first | with_reducible exact Below.refl _ _ | with_reducible assumption | (with_reducible refine Below.trans ?_ (Below.mono (by assumption) (by first | omega | (simp <;> omega)))) | with_reducible apply Below.drew | with_reducible apply below_drewN | (with_reducible refine Below.alloc ?_ (by first | omega | (simp <;> omega)) _) | (with_reducible refine Below.setCell ?_ (by first | omega | (simp <;> omega)) _)))⟩
      case rest =>
        obtain ⟨rfl, hbx⟩ := hcut
        have hb := unhide HBE
        have hz := hb.size
        go_wp2_with fail
        go_roundw
        case rel => exact ⟨k + 1, by go_num, by omega, (by repeat (first | with_reducible exact Below.refl _ _ | with_reducible assumption | (with_reducible refine Below.trans ?_ (Below.mono (by assumption) (by first | omega | (simp <;> omega)))) | with_reducible apply Below.drew | with_reducible apply below_drewN | (with_reducible refine Below.alloc ?_ (by first | omega | (simp <;> omega)) _) | (with_reducible refine Below.setCell ?_ (by first | omega | (simp <;> omega)) _)))⟩
        case measure => simp [intOf]; omega
    · have HB := hide hb
      clear hb
      go_wp2
      go_ret
      exact ⟨rfl, unhide HB⟩
/-- The answer of a model that gives a slice of fractions, whoever owns it, and whether the map is one. -/
def ReadsR (B : Nat) (xs : List Fr) (z : Bool) (e : Ending) (w' : World) : Prop :=
  ∃ (A : Option Addr) (d : Nat), e = .returned (.tuple #[.slice A xs.length d, .bool z]) ∧ RSl w' B A xs.length xs
end Go.Proofs.Ytldmgjeecomddaa

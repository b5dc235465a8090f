/-
  Chapter 2: PointsBefore of the model.
-/
import Derived.Test.YtgkbogcmmedmbaaPb
namespace Go.Proofs.Ytgkbogcmmedmbaa
open Go.RowKit Rm

theorem putL_mem {l : List Rat} {x z : Rat} (h : z ∈ putL l x) : z ∈ l ∨ z = x := by
  induction l with
  | nil => right; simpa [putL] using h
  | cons y l ih =>
    unfold putL at h
    split at h
    · rcases List.mem_cons.1 h with h | h
      · left; simp [h]
      · rcases ih h with h | h
        · left; simp [h]
        · exact .inr h
    · split at h
      · exact .inl h
      · rcases List.mem_cons.1 h with h | h
        · exact .inr h
        · exact .inl h
theorem putL_lens (l : List Rat) (x : Rat) : 1 ≤ (putL l x).length ∧ (putL l x).length ≤ l.length + 1 := by
  induction l with
  | nil => simp [putL]
  | cons y l ih =>
    unfold putL
    split
    · simp; omega
    · split <;> simp
theorem putL_fits {l : List Rat} {x : Rat} (h : ∀ z ∈ l, fits z = true) (hx : fits x = true) : ∀ z ∈ putL l x, fits z = true := fun z hz => by
  rcases putL_mem hz with h1 | h1
  · exact h z h1
  · rw [h1]; exact hx
theorem mwK_step {sd : QP → Int} {inn : QP → QP → Option Rat} {qs : List QP} {k : Nat} {l : List Rat} (h : mwK sd inn qs k = some l) : mwK sd inn qs (k + 1) = mStep sd inn l (qAt qs k) (qAt qs (k + 1)) := by
  simp only [mwK, h, Option.bind_some]
theorem mwK_none {sd : QP → Int} {inn : QP → QP → Option Rat} {qs : List QP} {k j : Nat} (h : mwK sd inn qs k = none) : ∀ d, j = k + d → mwK sd inn qs j = none := by
  intro d
  induction d generalizing j with
  | zero => rintro rfl; exact h
  | succ d ih =>
    rintro rfl
    have := ih (j := k + d) rfl
    show (mwK sd inn qs (k + d)).bind _ = none
    rw [this]; rfl
section
variable {sd : QP → Int} {inn : QP → QP → Option Rat} {l : List Rat} {p q : QP}
theorem mStep_00 (h1 : sd p = 0) (h2 : sd q = 0) : mStep sd inn l p q = some (putL (putL l p.1) q.1) := by
  simp [mStep, h1, h2]
theorem mStep_0n (h1 : sd p = 0) (h2 : ¬ sd q = 0) : mStep sd inn l p q = some (putL l p.1) := by
  simp [mStep, h1, h2]
theorem mStep_n0 (h1 : ¬ sd p = 0) (h2 : sd q = 0) : mStep sd inn l p q = some (putL l q.1) := by
  simp [mStep, h1, h2]
theorem mStep_nn (h1 : ¬ sd p = 0) (h2 : ¬ sd q = 0) (h3 : ¬ sd p * sd q < 0) : mStep sd inn l p q = some l := by
  simp [mStep, h1, h2, h3]
theorem mStep_in (h1 : ¬ sd p = 0) (h2 : ¬ sd q = 0) (h3 : sd p * sd q < 0) : mStep sd inn l p q = (inn p q).map (putL l) := by
  simp [mStep, h1, h2, h3]
end

theorem imPut_q (A : Option Addr) (n c base : Nat) (l : List Rat) (x : Rat) (f1 f2 : Int) (e1 : f1 = x.num) (e2 : f2 = (x.den : Int)) (w0 W : World) (ho : w0.ownsRow base 31 2 (.slice A n c) n (frcs (l.map qf))) (hb : Below w0.heap.size w0 W) (hbase : base ≤ w0.heap.size)
    (hn : n ≤ 1000) (hA : n = 0 → A = none ∧ c = 0) (hf : ∀ z ∈ l, fits z = true) (hx : fits x = true) :
    Calls Try.prog 72 #[.slice A n c, .agg #[.int .i64 (f1), .int .i64 (f2)]] W fun e w' => ∃ (A' : Option Addr) (c' : Nat), e = .returned (.slice A' (putL l x).length c') ∧ w'.ownsRow base 31 2 (.slice A' (putL l x).length c') (putL l x).length (frcs ((putL l x).map qf)) ∧ Below W.heap.size W w' := by
  subst e1 e2
  refine (imPut_any A n c base l x W (own_below ho hb) (Nat.le_trans hbase hb.size) hn hA hf hx).mono ?_
  rintro e w' ⟨v, rfl, ho', hb'⟩
  obtain ⟨A', c', rfl⟩ := own_slice ho'
  exact ⟨A', c', rfl, ho', hb'⟩

end Go.Proofs.Ytgkbogcmmedmbaa

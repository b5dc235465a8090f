/-
  Chapter 5: the model's composition.
-/
import Derived.Test.YtgkbogcmmedmbaaEb
import Derived.Test.YtgkbogcmmedmbaaDc
namespace Go.Proofs.Ytgkbogcmmedmbaa
open Go.RowKit Rm

/-- The composition, if there is one. -/
def cmO (fs gs : List QP) : Option (List QP) := (cmP fs gs).bind fun l => mmO (srt l) (vcm fs gs)
theorem cmP_pl {fs gs : List QP} (hF : GMap fs) (hG : GMap gs) {l : List Rat} (h : cmP fs gs = some l) : Pl (srt l) ∧ 1 ≤ l.length ∧ l.length ≤ 156 := by
  unfold cmP at h
  cases hb : bK (bqO gs) (xsOf fs) fs.length with
  | none => rw [hb] at h; cases h
  | some b =>
    rw [hb] at h
    injection h with h
    subst h
    have h1 := bK_len (N := 12) (bqO_len hG) hb
    have h2 := hF.hi
    have h3 := hG.hi
    have h4 := hG.lo
    refine ⟨srt_pl (fun x hx => ?_) (by simp [xsOf_zero hG]) (by simp [xsOf_one hG]), by rw [List.length_append, xsOf_len]; omega, by rw [List.length_append, xsOf_len]; omega⟩
    rcases List.mem_append.1 hx with h | h
    · exact xsOf_un hG x h
    · exact bK_all (p := Un) (bqO_un hG) hb x h
theorem vK_len {xs : List Rat} {vm : Rat → Option Rat} {k : Nat} {l : List QP} (h : vK xs vm k = some l) : l.length = k := (vK_some h).1
theorem vK_step {xs : List Rat} {vm : Rat → Option Rat} {k : Nat} {l : List QP} (h : vK xs vm k = some l) : vK xs vm (k + 1) = (vm (xs.getD k 0)).map fun y => l ++ [(xs.getD k 0, y)] := by simp only [vK, h]; rfl
theorem sK_step {bq : Rat → Option (List Rat)} {ys l0 l : List Rat} {k : Nat} (h : sK bq ys l0 k = some l) : sK bq ys l0 (k + 1) = (bq (ys.getD k 0)).map fun b => b.foldl putL l := by simp only [sK, h]; rfl

end Go.Proofs.Ytgkbogcmmedmbaa

/-
  For all arguments, impl.CompareWords returns what the model's CompareWords returns, and its arguments read afterwards as before. No condition.
-/
import Derived.Test.YtjggjegjhcpjhaaRows
import Derived.Test.YtjggjegjhcpjhaaLawWg
import Derived.Test.YtjggjegjhcpjhaaRowKit
import Derived.Test.YtjggjegjhcpjhaaRowP
import Derived.Test.YtjggjegjhcpjhaaRi
import Derived.WalkKit
import Derived.ProofKit
import Derived.OpenShut
import Derived.Lib.SmallJoins
namespace Go.Proofs.Ytjggjegjhcpjhaa
open Go.ChangeShapes Go.WideShapes Go.ChangeAt Go.RowKit Go.Joins
open Go.ChangeMaps (open_string shut_string)

set_option maxRecDepth 100000 in
theorem liftedCompareWords (os : Os) (started : os.Started) (H : Type) (enc : TypeId × Value → H) :
    ReturnsInHanded {} Try.checked os 7 .any (Rows.fnExactCompareWordsSpec.pre6 enc Try.prog Try.f7 Rows.fnExactCompareWordsRow.domain false) (Rows.fnExactCompareWordsSpec.post enc Try.prog Try.f7 false true false false) := by
  refine returnsInHanded_of_change (C := Try.checked) own started (by kernel_rfl) Try.func7
    (ChangeSpec.witness6 (enc := enc) (C := Try.checked) false ⟨#[], #[.slice none 0 0, .slice none 0 0, .slice none 0 0], []⟩ 8 (by kernel_rfl) (by kernel_rfl) (by kernel_rfl) (by kernel_rfl)) ?_
  intro W base args ds gs before hval0 hW hcnd _
  have hval : ∀ (j : Nat) t v, Try.f7.params[j]? = some t → args[j]? = some v → Value.okWide Try.prog W .any base t v := hval0
  have hW' := hW
  obtain ⟨p, q, hA0, hV, rfl, hfz, hnd⟩ := hW
  have hA : DataW.TrodAll enc Try.prog W 0 (fun _ => true) true Try.f7.params.toList args.toList ds p := hA0
  rw [Try.params7] at hA hval
  obtain ⟨v0, v1, v2, d0, d1, d2, p0, p1, p2, rfl, rfl, rfl, h0, h1, h2⟩ := trodAll_three hA
  obtain ⟨rfl, rfl⟩ := trodVars_none hV
  obtain ⟨A0, n0, c0, q0, rfl, hn0, ha0, hs0⟩ := open_points (hval 0 22 v0 rfl rfl) h0
  obtain ⟨A1, n1, c1, q1, rfl, hn1, ha1, hs1⟩ := open_words (hval 1 36 v1 rfl rfl) h1
  obtain ⟨A2, n2, c2, q2, rfl, hn2, ha2, hs2⟩ := open_words (hval 2 36 v2 rfl rfl) h2
  clear hA0 hval0
  simp only [List.append_nil] at hW'
  refine (lawCompareWords A0 n0 c0 q0 A1 n1 c1 q1 A2 n2 c2 q2 W ha0 hn0 ha1 hn1 ha2 hn2).mono fun e W' ⟨he, hg⟩ => ?_
  subst he
  exact ⟨_, rfl, post_of_below (pa := _) (pv := []) hW' (fun _ _ _ => trodAll_mk1 (shut_bool Try.underlying4 _)) (fun sp hsp => trodAll_mk3 (hs0 W' sp hg (fun p hp => hsp p (by simp [hp]))) (hs1 W' sp hg (fun p hp => hsp p (by simp [hp]))) (hs2 W' sp hg (fun p hp => hsp p (by simp [hp])))) (fun _ _ => rfl) (by simp)
    hg (ok_one (by kernel_rfl) rfl (okWide_bool_mk Try.underlying4 _))⟩

theorem FnExactCompareWords_holds : Rows.FnExactCompareWordsSaid :=
  OpenClaim.holds_of_wide 7 Try.f7 rfl rfl rfl rfl rfl rfl rfl ⟨rfl, rfl, rfl, rfl, rfl⟩ rfl rfl rfl rfl rfl (by kernel_rfl) Try.func7 (by kernel_rfl)
    (of_decide_eq_true (by kernel_rfl)) (by unfold Func.isWrapper; first | (rw [if_pos (by decide +kernel)]; kernel_rfl) | (rw [if_neg (by decide +kernel)]; exact ⟨rfl, rfl⟩))
    (fun os started H enc _ => liftedCompareWords os started H enc)
end Go.Proofs.Ytjggjegjhcpjhaa

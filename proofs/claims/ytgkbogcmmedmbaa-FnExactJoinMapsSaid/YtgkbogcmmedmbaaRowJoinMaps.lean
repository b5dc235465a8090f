/-
  For all arguments, impl.JoinMaps returns what the model's JoinMaps returns, and its arguments read afterwards as before. No condition.
-/
import Derived.Test.YtgkbogcmmedmbaaRows
import Derived.Test.YtgkbogcmmedmbaaLawKj
import Derived.Test.YtgkbogcmmedmbaaRowKit
import Derived.Test.YtgkbogcmmedmbaaRowP
import Derived.WalkKit
import Derived.ProofKit
import Derived.OpenShut
import Derived.Lib.SmallJoins
namespace Go.Proofs.Ytgkbogcmmedmbaa
open Go.ChangeShapes Go.WideShapes Go.ChangeAt Go.RowKit Go.Joins
open Go.ChangeMaps (open_string shut_string)

set_option maxRecDepth 100000 in
theorem liftedJoinMaps (os : Os) (started : os.Started) (H : Type) (enc : TypeId × Value → H) :
    ReturnsInHanded {} Try.checked os 5 .any (Rows.fnExactJoinMapsSpec.pre6 enc Try.prog Try.f5 Rows.fnExactJoinMapsRow.domain false) (Rows.fnExactJoinMapsSpec.post enc Try.prog Try.f5 false true false false) := by
  refine returnsInHanded_of_change (C := Try.checked) own started (by kernel_rfl) Try.func5
    (ChangeSpec.witness6 (enc := enc) (C := Try.checked) false ⟨#[], #[.slice none 0 0, .slice none 0 0, .agg #[.int .i64 0, .int .i64 0]], []⟩ 8 (by kernel_rfl) (by kernel_rfl) (by kernel_rfl) (by kernel_rfl)) ?_
  intro W base args ds gs before hval0 hW hcnd _
  have hval : ∀ (j : Nat) t v, Try.f5.params[j]? = some t → args[j]? = some v → Value.okWide Try.prog W .any base t v := hval0
  have hW' := hW
  obtain ⟨p, q, hA0, hV, rfl, hfz, hnd⟩ := hW
  have hA : DataW.TrodAll enc Try.prog W 0 (fun _ => true) true Try.f5.params.toList args.toList ds p := hA0
  rw [Try.params5] at hA hval
  obtain ⟨v0, v1, v2, d0, d1, d2, p0, p1, p2, rfl, rfl, rfl, h0, h1, h2⟩ := trodAll_three hA
  obtain ⟨rfl, rfl⟩ := trodVars_none hV
  obtain ⟨A0, n0, c0, q0, rfl, hn0, ha0, hs0⟩ := open_points (hval 0 22 v0 rfl rfl) h0
  obtain ⟨A1, n1, c1, q1, rfl, hn1, ha1, hs1⟩ := open_points (hval 1 22 v1 rfl rfl) h1
  obtain ⟨c2a, c2b, y2a, y2b, m2, rfl, rfl, rfl, g2a, g2b⟩ := open_agg2 Try.underlying35 (by kernel_rfl) cellsR (hval 2 35 v2 rfl rfl) h2
  obtain ⟨x2a, e2a, rfl, w2a⟩ := DataW.trod_int Try.underlying3 g2a
  obtain ⟨x2b, e2b, rfl, w2b⟩ := DataW.trod_int Try.underlying3 g2b
  simp at e2a e2b
  subst e2a e2b
  clear hA0 hval0
  simp only [List.append_nil] at hW'
  refine (lawJoinMaps A0 n0 c0 q0 A1 n1 c1 q1 x2a x2b W ha0 hn0 ha1 hn1).mono fun e W' ⟨he, hg⟩ => ?_
  subst he
  exact ⟨_, rfl, post_of_below (pa := _) (pv := []) hW' (fun _ _ _ => trodAll_mk1 (shut_bool Try.underlying4 _)) (fun sp hsp => trodAll_mk3 (hs0 W' sp hg (fun p hp => hsp p (by simp [hp]))) (hs1 W' sp hg (fun p hp => hsp p (by simp [hp]))) (ratReads x2a x2b w2a w2b _ sp)) (fun _ _ => rfl) (by simp)
    hg (ok_one (by kernel_rfl) rfl (okWide_bool_mk Try.underlying4 _))⟩

theorem FnExactJoinMaps_holds : Rows.FnExactJoinMapsSaid :=
  OpenClaim.holds_of_wide 5 Try.f5 rfl rfl rfl rfl rfl rfl rfl ⟨rfl, rfl, rfl, rfl, rfl⟩ rfl rfl rfl rfl rfl (by kernel_rfl) Try.func5 (by kernel_rfl)
    (of_decide_eq_true (by kernel_rfl)) (by unfold Func.isWrapper; first | (rw [if_pos (by decide +kernel)]; kernel_rfl) | (rw [if_neg (by decide +kernel)]; exact ⟨rfl, rfl⟩))
    (fun os started H enc _ => liftedJoinMaps os started H enc)
end Go.Proofs.Ytgkbogcmmedmbaa

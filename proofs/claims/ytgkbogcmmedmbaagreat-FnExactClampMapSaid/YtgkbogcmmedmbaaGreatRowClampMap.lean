/-
  For all arguments, impl.ClampMap returns what the model's ClampMap returns, and its arguments read afterwards as before. No condition.
-/
import Derived.Test.YtgkbogcmmedmbaaGreatRows
import Derived.Test.YtgkbogcmmedmbaaGreatLawKi
import Derived.Test.YtgkbogcmmedmbaaGreatRowKit
import Derived.Test.YtgkbogcmmedmbaaGreatRowP
import Derived.WalkKit
import Derived.ProofKit
import Derived.OpenShut
import Derived.Lib.SmallJoins
namespace Go.Proofs.YtgkbogcmmedmbaaGreat
open Go.ChangeShapes Go.WideShapes Go.ChangeAt Go.RowKit Go.Joins
open Go.ChangeMaps (open_string shut_string)

set_option maxRecDepth 100000 in
theorem liftedClampMap (os : Os) (started : os.Started) (H : Type) (enc : TypeId × Value → H) :
    ReturnsInHanded {} Tryz.checked os 8 .any (Rows.fnExactClampMapSpec.pre6 enc Tryz.prog Tryz.f8 Rows.fnExactClampMapRow.domain false) (Rows.fnExactClampMapSpec.post enc Tryz.prog Tryz.f8 false true false false) := by
  refine returnsInHanded_of_change (C := Tryz.checked) own started (by kernel_rfl) Tryz.func8
    (ChangeSpec.witness6 (enc := enc) (C := Tryz.checked) false ⟨#[], #[.slice none 0 0, .agg #[.int .i64 0, .int .i64 0], .agg #[.int .i64 0, .int .i64 0]], []⟩ 8 (by kernel_rfl) (by kernel_rfl) (by kernel_rfl) (by kernel_rfl)) ?_
  intro W base args ds gs before hval0 hW hcnd _
  have hval : ∀ (j : Nat) t v, Tryz.f8.params[j]? = some t → args[j]? = some v → Value.okWide Tryz.prog W .any base t v := hval0
  have hW' := hW
  obtain ⟨p, q, hA0, hV, rfl, hfz, hnd⟩ := hW
  have hA : DataW.TrodAll enc Tryz.prog W 0 (fun _ => true) true Tryz.f8.params.toList args.toList ds p := hA0
  rw [Tryz.params8] at hA hval
  obtain ⟨v0, v1, v2, d0, d1, d2, p0, p1, p2, rfl, rfl, rfl, h0, h1, h2⟩ := trodAll_three hA
  obtain ⟨rfl, rfl⟩ := trodVars_none hV
  obtain ⟨A0, n0, c0, q0, rfl, hn0, ha0, hs0⟩ := open_points (hval 0 22 v0 rfl rfl) h0
  obtain ⟨c1a, c1b, y1a, y1b, m1, rfl, rfl, rfl, g1a, g1b⟩ := open_agg2 Tryz.underlying44 (by kernel_rfl) cellsR (hval 1 44 v1 rfl rfl) h1
  obtain ⟨x1a, e1a, rfl, w1a⟩ := DataW.trod_int Tryz.underlying3 g1a
  obtain ⟨x1b, e1b, rfl, w1b⟩ := DataW.trod_int Tryz.underlying3 g1b
  simp at e1a e1b
  subst e1a e1b
  obtain ⟨c2a, c2b, y2a, y2b, m2, rfl, rfl, rfl, g2a, g2b⟩ := open_agg2 Tryz.underlying44 (by kernel_rfl) cellsR (hval 2 44 v2 rfl rfl) h2
  obtain ⟨x2a, e2a, rfl, w2a⟩ := DataW.trod_int Tryz.underlying3 g2a
  obtain ⟨x2b, e2b, rfl, w2b⟩ := DataW.trod_int Tryz.underlying3 g2b
  simp at e2a e2b
  subst e2a e2b
  clear hA0 hval0
  simp only [List.append_nil] at hW'
  refine (lawClampMap A0 n0 c0 q0 x1a x1b x2a x2b W ha0 hn0).mono fun e W' ⟨he, hg⟩ => ?_
  subst he
  exact ⟨_, rfl, post_of_below (pa := _) (pv := []) hW' (fun _ _ _ => trodAll_mk1 (shut_bool Tryz.underlying4 _)) (fun sp hsp => trodAll_mk3 (hs0 W' sp hg (fun p hp => hsp p (by simp [hp]))) (ratReads x1a x1b w1a w1b _ sp) (ratReads x2a x2b w2a w2b _ sp)) (fun _ _ => rfl) (by simp)
    hg (ok_one (by kernel_rfl) rfl (okWide_bool_mk Tryz.underlying4 _))⟩

theorem FnExactClampMap_holds : Rows.FnExactClampMapSaid :=
  OpenClaim.holds_of_wide 8 Tryz.f8 rfl rfl rfl rfl rfl rfl rfl ⟨rfl, rfl, rfl, rfl, rfl⟩ rfl rfl rfl rfl rfl (by kernel_rfl) Tryz.func8 (by kernel_rfl)
    (of_decide_eq_true (by kernel_rfl)) (by unfold Func.isWrapper; first | (rw [if_pos (by decide +kernel)]; kernel_rfl) | (rw [if_neg (by decide +kernel)]; exact ⟨rfl, rfl⟩))
    (fun os started H enc _ => liftedClampMap os started H enc)
end Go.Proofs.YtgkbogcmmedmbaaGreat

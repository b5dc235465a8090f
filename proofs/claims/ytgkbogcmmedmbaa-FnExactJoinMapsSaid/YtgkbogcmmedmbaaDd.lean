/-
  Chapter 5: which operation a value is: the tests of the type switch.
-/
import Derived.Test.YtgkbogcmmedmbaaCi
namespace Go.Proofs.Ytgkbogcmmedmbaa
open Go.RowKit Rm

theorem is_composition (v : Value) (W : World) : (Instr.typeAssert (.iface 95 v) 79 95 true).run Try.prog W = .ok (.tuple #[v, .bool true]) W := by kernel_rfl
theorem not_halfSum_composition (v : Value) (W : World) : (Instr.typeAssert (.iface 97 v) 79 95 true).run Try.prog W = .ok (.tuple #[.agg #[.slice none 0 0, .slice none 0 0], .bool false]) W := by kernel_rfl
theorem is_halfSum (v : Value) (W : World) : (Instr.typeAssert (.iface 97 v) 79 97 true).run Try.prog W = .ok (.tuple #[v, .bool true]) W := by kernel_rfl
theorem not_cut_composition (v : Value) (W : World) : (Instr.typeAssert (.iface 99 v) 79 95 true).run Try.prog W = .ok (.tuple #[.agg #[.slice none 0 0, .slice none 0 0], .bool false]) W := by kernel_rfl
theorem not_cut_halfSum (v : Value) (W : World) : (Instr.typeAssert (.iface 99 v) 79 97 true).run Try.prog W = .ok (.tuple #[.agg #[.slice none 0 0, .slice none 0 0], .bool false]) W := by kernel_rfl
theorem is_cut (v : Value) (W : World) : (Instr.typeAssert (.iface 99 v) 79 99 true).run Try.prog W = .ok (.tuple #[v, .bool true]) W := by kernel_rfl
theorem not_refinement_composition (v : Value) (W : World) : (Instr.typeAssert (.iface 101 v) 79 95 true).run Try.prog W = .ok (.tuple #[.agg #[.slice none 0 0, .slice none 0 0], .bool false]) W := by kernel_rfl
theorem not_refinement_halfSum (v : Value) (W : World) : (Instr.typeAssert (.iface 101 v) 79 97 true).run Try.prog W = .ok (.tuple #[.agg #[.slice none 0 0, .slice none 0 0], .bool false]) W := by kernel_rfl
theorem not_refinement_cut (v : Value) (W : World) : (Instr.typeAssert (.iface 101 v) 79 99 true).run Try.prog W = .ok (.tuple #[.agg #[.slice none 0 0, .int .i64 0, .int .i64 0, .int .i64 0, .int .i64 0], .bool false]) W := by kernel_rfl
theorem is_refinement (v : Value) (W : World) : (Instr.typeAssert (.iface 101 v) 79 101 true).run Try.prog W = .ok (.tuple #[v, .bool true]) W := by kernel_rfl
theorem not_junction_composition (v : Value) (W : World) : (Instr.typeAssert (.iface 67 v) 79 95 true).run Try.prog W = .ok (.tuple #[.agg #[.slice none 0 0, .slice none 0 0], .bool false]) W := by kernel_rfl
theorem not_junction_halfSum (v : Value) (W : World) : (Instr.typeAssert (.iface 67 v) 79 97 true).run Try.prog W = .ok (.tuple #[.agg #[.slice none 0 0, .slice none 0 0], .bool false]) W := by kernel_rfl
theorem not_junction_cut (v : Value) (W : World) : (Instr.typeAssert (.iface 67 v) 79 99 true).run Try.prog W = .ok (.tuple #[.agg #[.slice none 0 0, .int .i64 0, .int .i64 0, .int .i64 0, .int .i64 0], .bool false]) W := by kernel_rfl
theorem not_junction_refinement (v : Value) (W : World) : (Instr.typeAssert (.iface 67 v) 79 101 true).run Try.prog W = .ok (.tuple #[.agg #[.slice none 0 0, .slice none 0 0], .bool false]) W := by kernel_rfl
theorem is_junction (v : Value) (W : World) : (Instr.typeAssert (.iface 67 v) 79 67 true).run Try.prog W = .ok (.tuple #[v, .bool true]) W := by kernel_rfl
theorem at_composition (d : Nat) (x : Value) (w : World) : (method (d + 1) 95 x "loop.example/g01003/impl.places").run Try.prog w = .ok (128, x) w := by kernel_rfl
theorem at_halfSum (d : Nat) (x : Value) (w : World) : (method (d + 1) 97 x "loop.example/g01003/impl.places").run Try.prog w = .ok (135, x) w := by kernel_rfl
theorem at_cut (d : Nat) (x : Value) (w : World) : (method (d + 1) 99 x "loop.example/g01003/impl.places").run Try.prog w = .ok (136, x) w := by kernel_rfl
theorem at_refinement (d : Nat) (x : Value) (w : World) : (method (d + 1) 101 x "loop.example/g01003/impl.places").run Try.prog w = .ok (137, x) w := by kernel_rfl
theorem at_junction (d : Nat) (x : Value) (w : World) : (method (d + 1) 67 x "loop.example/g01003/impl.places").run Try.prog w = .ok (127, x) w := by kernel_rfl
end Go.Proofs.Ytgkbogcmmedmbaa

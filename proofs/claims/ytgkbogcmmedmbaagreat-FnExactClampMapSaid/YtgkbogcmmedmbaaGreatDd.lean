/-
  Chapter 5: which operation a value is: the tests of the type switch.
-/
import Derived.Test.YtgkbogcmmedmbaaGreatCi
namespace Go.Proofs.YtgkbogcmmedmbaaGreat
open Go.RowKit Rm

theorem is_composition (v : Value) (W : World) : (Instr.typeAssert (.iface 57 v) 83 57 true).run Tryz.prog W = .ok (.tuple #[v, .bool true]) W := by kernel_rfl
theorem not_halfSum_composition (v : Value) (W : World) : (Instr.typeAssert (.iface 76 v) 83 57 true).run Tryz.prog W = .ok (.tuple #[.agg #[.slice none 0 0, .slice none 0 0], .bool false]) W := by kernel_rfl
theorem is_halfSum (v : Value) (W : World) : (Instr.typeAssert (.iface 76 v) 83 76 true).run Tryz.prog W = .ok (.tuple #[v, .bool true]) W := by kernel_rfl
theorem not_cut_composition (v : Value) (W : World) : (Instr.typeAssert (.iface 81 v) 83 57 true).run Tryz.prog W = .ok (.tuple #[.agg #[.slice none 0 0, .slice none 0 0], .bool false]) W := by kernel_rfl
theorem not_cut_halfSum (v : Value) (W : World) : (Instr.typeAssert (.iface 81 v) 83 76 true).run Tryz.prog W = .ok (.tuple #[.agg #[.slice none 0 0, .slice none 0 0], .bool false]) W := by kernel_rfl
theorem is_cut (v : Value) (W : World) : (Instr.typeAssert (.iface 81 v) 83 81 true).run Tryz.prog W = .ok (.tuple #[v, .bool true]) W := by kernel_rfl
theorem not_refinement_composition (v : Value) (W : World) : (Instr.typeAssert (.iface 68 v) 83 57 true).run Tryz.prog W = .ok (.tuple #[.agg #[.slice none 0 0, .slice none 0 0], .bool false]) W := by kernel_rfl
theorem not_refinement_halfSum (v : Value) (W : World) : (Instr.typeAssert (.iface 68 v) 83 76 true).run Tryz.prog W = .ok (.tuple #[.agg #[.slice none 0 0, .slice none 0 0], .bool false]) W := by kernel_rfl
theorem not_refinement_cut (v : Value) (W : World) : (Instr.typeAssert (.iface 68 v) 83 81 true).run Tryz.prog W = .ok (.tuple #[.agg #[.slice none 0 0, .int .i64 0, .int .i64 0, .int .i64 0, .int .i64 0], .bool false]) W := by kernel_rfl
theorem is_refinement (v : Value) (W : World) : (Instr.typeAssert (.iface 68 v) 83 68 true).run Tryz.prog W = .ok (.tuple #[v, .bool true]) W := by kernel_rfl
theorem not_junction_composition (v : Value) (W : World) : (Instr.typeAssert (.iface 100 v) 83 57 true).run Tryz.prog W = .ok (.tuple #[.agg #[.slice none 0 0, .slice none 0 0], .bool false]) W := by kernel_rfl
theorem not_junction_halfSum (v : Value) (W : World) : (Instr.typeAssert (.iface 100 v) 83 76 true).run Tryz.prog W = .ok (.tuple #[.agg #[.slice none 0 0, .slice none 0 0], .bool false]) W := by kernel_rfl
theorem not_junction_cut (v : Value) (W : World) : (Instr.typeAssert (.iface 100 v) 83 81 true).run Tryz.prog W = .ok (.tuple #[.agg #[.slice none 0 0, .int .i64 0, .int .i64 0, .int .i64 0, .int .i64 0], .bool false]) W := by kernel_rfl
theorem not_junction_refinement (v : Value) (W : World) : (Instr.typeAssert (.iface 100 v) 83 68 true).run Tryz.prog W = .ok (.tuple #[.agg #[.slice none 0 0, .slice none 0 0], .bool false]) W := by kernel_rfl
theorem is_junction (v : Value) (W : World) : (Instr.typeAssert (.iface 100 v) 83 100 true).run Tryz.prog W = .ok (.tuple #[v, .bool true]) W := by kernel_rfl
theorem at_composition (d : Nat) (x : Value) (w : World) : (method (d + 1) 57 x "loop.example/g01003/impl.places").run Tryz.prog w = .ok (140, x) w := by kernel_rfl
theorem at_halfSum (d : Nat) (x : Value) (w : World) : (method (d + 1) 76 x "loop.example/g01003/impl.places").run Tryz.prog w = .ok (149, x) w := by kernel_rfl
theorem at_cut (d : Nat) (x : Value) (w : World) : (method (d + 1) 81 x "loop.example/g01003/impl.places").run Tryz.prog w = .ok (151, x) w := by kernel_rfl
theorem at_refinement (d : Nat) (x : Value) (w : World) : (method (d + 1) 68 x "loop.example/g01003/impl.places").run Tryz.prog w = .ok (148, x) w := by kernel_rfl
theorem at_junction (d : Nat) (x : Value) (w : World) : (method (d + 1) 100 x "loop.example/g01003/impl.places").run Tryz.prog w = .ok (152, x) w := by kernel_rfl
end Go.Proofs.YtgkbogcmmedmbaaGreat

/-
  Chapter 5: which operation a value is: the tests of the type switch.
-/
import Derived.Test.YtjggjegjhcpjhaaGreatCi
namespace Go.Proofs.YtjggjegjhcpjhaaGreat
open Go.RowKit Rm

theorem is_composition (v : Value) (W : World) : (Instr.typeAssert (.iface 70 v) 125 70 true).run Tryz.prog W = .ok (.tuple #[v, .bool true]) W := by kernel_rfl
theorem not_halfSum_composition (v : Value) (W : World) : (Instr.typeAssert (.iface 154 v) 125 70 true).run Tryz.prog W = .ok (.tuple #[.agg #[.slice none 0 0, .slice none 0 0], .bool false]) W := by kernel_rfl
theorem is_halfSum (v : Value) (W : World) : (Instr.typeAssert (.iface 154 v) 125 154 true).run Tryz.prog W = .ok (.tuple #[v, .bool true]) W := by kernel_rfl
theorem not_cut_composition (v : Value) (W : World) : (Instr.typeAssert (.iface 156 v) 125 70 true).run Tryz.prog W = .ok (.tuple #[.agg #[.slice none 0 0, .slice none 0 0], .bool false]) W := by kernel_rfl
theorem not_cut_halfSum (v : Value) (W : World) : (Instr.typeAssert (.iface 156 v) 125 154 true).run Tryz.prog W = .ok (.tuple #[.agg #[.slice none 0 0, .slice none 0 0], .bool false]) W := by kernel_rfl
theorem is_cut (v : Value) (W : World) : (Instr.typeAssert (.iface 156 v) 125 156 true).run Tryz.prog W = .ok (.tuple #[v, .bool true]) W := by kernel_rfl
theorem not_refinement_composition (v : Value) (W : World) : (Instr.typeAssert (.iface 159 v) 125 70 true).run Tryz.prog W = .ok (.tuple #[.agg #[.slice none 0 0, .slice none 0 0], .bool false]) W := by kernel_rfl
theorem not_refinement_halfSum (v : Value) (W : World) : (Instr.typeAssert (.iface 159 v) 125 154 true).run Tryz.prog W = .ok (.tuple #[.agg #[.slice none 0 0, .slice none 0 0], .bool false]) W := by kernel_rfl
theorem not_refinement_cut (v : Value) (W : World) : (Instr.typeAssert (.iface 159 v) 125 156 true).run Tryz.prog W = .ok (.tuple #[.agg #[.slice none 0 0, .int .i64 0, .int .i64 0, .int .i64 0, .int .i64 0], .bool false]) W := by kernel_rfl
theorem is_refinement (v : Value) (W : World) : (Instr.typeAssert (.iface 159 v) 125 159 true).run Tryz.prog W = .ok (.tuple #[v, .bool true]) W := by kernel_rfl
theorem not_junction_composition (v : Value) (W : World) : (Instr.typeAssert (.iface 161 v) 125 70 true).run Tryz.prog W = .ok (.tuple #[.agg #[.slice none 0 0, .slice none 0 0], .bool false]) W := by kernel_rfl
theorem not_junction_halfSum (v : Value) (W : World) : (Instr.typeAssert (.iface 161 v) 125 154 true).run Tryz.prog W = .ok (.tuple #[.agg #[.slice none 0 0, .slice none 0 0], .bool false]) W := by kernel_rfl
theorem not_junction_cut (v : Value) (W : World) : (Instr.typeAssert (.iface 161 v) 125 156 true).run Tryz.prog W = .ok (.tuple #[.agg #[.slice none 0 0, .int .i64 0, .int .i64 0, .int .i64 0, .int .i64 0], .bool false]) W := by kernel_rfl
theorem not_junction_refinement (v : Value) (W : World) : (Instr.typeAssert (.iface 161 v) 125 159 true).run Tryz.prog W = .ok (.tuple #[.agg #[.slice none 0 0, .slice none 0 0], .bool false]) W := by kernel_rfl
theorem is_junction (v : Value) (W : World) : (Instr.typeAssert (.iface 161 v) 125 161 true).run Tryz.prog W = .ok (.tuple #[v, .bool true]) W := by kernel_rfl
theorem at_composition (d : Nat) (x : Value) (w : World) : (method (d + 1) 70 x "loop.example/g01003/impl.places").run Tryz.prog w = .ok (191, x) w := by kernel_rfl
theorem at_halfSum (d : Nat) (x : Value) (w : World) : (method (d + 1) 154 x "loop.example/g01003/impl.places").run Tryz.prog w = .ok (203, x) w := by kernel_rfl
theorem at_cut (d : Nat) (x : Value) (w : World) : (method (d + 1) 156 x "loop.example/g01003/impl.places").run Tryz.prog w = .ok (205, x) w := by kernel_rfl
theorem at_refinement (d : Nat) (x : Value) (w : World) : (method (d + 1) 159 x "loop.example/g01003/impl.places").run Tryz.prog w = .ok (206, x) w := by kernel_rfl
theorem at_junction (d : Nat) (x : Value) (w : World) : (method (d + 1) 161 x "loop.example/g01003/impl.places").run Tryz.prog w = .ok (207, x) w := by kernel_rfl
end Go.Proofs.YtjggjegjhcpjhaaGreat

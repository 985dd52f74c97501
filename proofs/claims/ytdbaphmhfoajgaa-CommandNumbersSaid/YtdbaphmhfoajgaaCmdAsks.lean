/-
  What an assertion of a type answers, of a content of each type and of none.
-/
import Derived.Test.YtdbaphmhfoajgaaCmdValue
namespace Go.Proofs.Ytdbaphmhfoajgaa
open Go.RowKit
set_option linter.unusedVariables false
set_option linter.unusedSimpArgs false

theorem as_oo (v : Value) (w : World) : (Instr.typeAssert (.iface 48 v) 20 48 true).run Try.prog w = .ok (.tuple #[v, .bool true]) w := by kernel_rfl
theorem as_ow (v : Value) (w : World) : (Instr.typeAssert (.iface 48 v) 20 58 true).run Try.prog w = .ok (.tuple #[(.agg #[.int .i64 0]), .bool false]) w := by kernel_rfl
theorem as_oc (v : Value) (w : World) : (Instr.typeAssert (.iface 48 v) 20 42 true).run Try.prog w = .ok (.tuple #[(.agg #[.int .i64 0, .int .i64 0]), .bool false]) w := by kernel_rfl
theorem as_oh (v : Value) (w : World) : (Instr.typeAssert (.iface 48 v) 20 45 true).run Try.prog w = .ok (.tuple #[(.agg #[.int .i64 0, .int .i64 0, .int .i64 0]), .bool false]) w := by kernel_rfl
theorem as_no (w : World) : (Instr.typeAssert .nilIface 20 48 true).run Try.prog w = .ok (.tuple #[(.agg #[.int .i64 0, .int .i64 0, .int .i64 0, .int .i64 0, .int .i64 0, .int .i64 0, .int .i64 0, .string (str [])]), .bool false]) w := by kernel_rfl
theorem as_wo (v : Value) (w : World) : (Instr.typeAssert (.iface 58 v) 20 48 true).run Try.prog w = .ok (.tuple #[(.agg #[.int .i64 0, .int .i64 0, .int .i64 0, .int .i64 0, .int .i64 0, .int .i64 0, .int .i64 0, .string (str [])]), .bool false]) w := by kernel_rfl
theorem as_ww (v : Value) (w : World) : (Instr.typeAssert (.iface 58 v) 20 58 true).run Try.prog w = .ok (.tuple #[v, .bool true]) w := by kernel_rfl
theorem as_wc (v : Value) (w : World) : (Instr.typeAssert (.iface 58 v) 20 42 true).run Try.prog w = .ok (.tuple #[(.agg #[.int .i64 0, .int .i64 0]), .bool false]) w := by kernel_rfl
theorem as_wh (v : Value) (w : World) : (Instr.typeAssert (.iface 58 v) 20 45 true).run Try.prog w = .ok (.tuple #[(.agg #[.int .i64 0, .int .i64 0, .int .i64 0]), .bool false]) w := by kernel_rfl
theorem as_nw (w : World) : (Instr.typeAssert .nilIface 20 58 true).run Try.prog w = .ok (.tuple #[(.agg #[.int .i64 0]), .bool false]) w := by kernel_rfl
theorem as_co (v : Value) (w : World) : (Instr.typeAssert (.iface 42 v) 20 48 true).run Try.prog w = .ok (.tuple #[(.agg #[.int .i64 0, .int .i64 0, .int .i64 0, .int .i64 0, .int .i64 0, .int .i64 0, .int .i64 0, .string (str [])]), .bool false]) w := by kernel_rfl
theorem as_cw (v : Value) (w : World) : (Instr.typeAssert (.iface 42 v) 20 58 true).run Try.prog w = .ok (.tuple #[(.agg #[.int .i64 0]), .bool false]) w := by kernel_rfl
theorem as_cc (v : Value) (w : World) : (Instr.typeAssert (.iface 42 v) 20 42 true).run Try.prog w = .ok (.tuple #[v, .bool true]) w := by kernel_rfl
theorem as_ch (v : Value) (w : World) : (Instr.typeAssert (.iface 42 v) 20 45 true).run Try.prog w = .ok (.tuple #[(.agg #[.int .i64 0, .int .i64 0, .int .i64 0]), .bool false]) w := by kernel_rfl
theorem as_nc (w : World) : (Instr.typeAssert .nilIface 20 42 true).run Try.prog w = .ok (.tuple #[(.agg #[.int .i64 0, .int .i64 0]), .bool false]) w := by kernel_rfl
theorem as_ho (v : Value) (w : World) : (Instr.typeAssert (.iface 45 v) 20 48 true).run Try.prog w = .ok (.tuple #[(.agg #[.int .i64 0, .int .i64 0, .int .i64 0, .int .i64 0, .int .i64 0, .int .i64 0, .int .i64 0, .string (str [])]), .bool false]) w := by kernel_rfl
theorem as_hw (v : Value) (w : World) : (Instr.typeAssert (.iface 45 v) 20 58 true).run Try.prog w = .ok (.tuple #[(.agg #[.int .i64 0]), .bool false]) w := by kernel_rfl
theorem as_hc (v : Value) (w : World) : (Instr.typeAssert (.iface 45 v) 20 42 true).run Try.prog w = .ok (.tuple #[(.agg #[.int .i64 0, .int .i64 0]), .bool false]) w := by kernel_rfl
theorem as_hh (v : Value) (w : World) : (Instr.typeAssert (.iface 45 v) 20 45 true).run Try.prog w = .ok (.tuple #[v, .bool true]) w := by kernel_rfl
theorem as_nh (w : World) : (Instr.typeAssert .nilIface 20 45 true).run Try.prog w = .ok (.tuple #[(.agg #[.int .i64 0, .int .i64 0, .int .i64 0]), .bool false]) w := by kernel_rfl
theorem as_must (v : Value) (w : World) : (Instr.typeAssert (.iface 48 v) 20 48 false).run Try.prog w = .ok v w := by kernel_rfl
end Go.Proofs.Ytdbaphmhfoajgaa

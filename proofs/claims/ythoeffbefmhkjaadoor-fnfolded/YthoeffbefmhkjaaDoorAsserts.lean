/- What a record does is told apart by its type. -/
import Derived.Test.YthoeffbefmhkjaaDoorChecked
import Derived.WalkKit
namespace Go.Proofs.YthoeffbefmhkjaaDoor
open Go Go.RowKit
theorem ta_ww (v : Value) (w : World) : (Instr.typeAssert (.iface 87 v) 71 87 true).run Tryd.prog w = .ok (.tuple #[v, .bool true]) w := by kernel_rfl
theorem ta_wt (v : Value) (w : World) : (Instr.typeAssert (.iface 89 v) 71 87 true).run Tryd.prog w = .ok (.tuple #[.agg #[.int .i64 0, .int .i64 0, .string ⟨#[]⟩], .bool false]) w := by kernel_rfl
theorem ta_wm (v : Value) (w : World) : (Instr.typeAssert (.iface 91 v) 71 87 true).run Tryd.prog w = .ok (.tuple #[.agg #[.int .i64 0, .int .i64 0, .string ⟨#[]⟩], .bool false]) w := by kernel_rfl
theorem ta_tt (v : Value) (w : World) : (Instr.typeAssert (.iface 89 v) 71 89 true).run Tryd.prog w = .ok (.tuple #[v, .bool true]) w := by kernel_rfl
theorem ta_tm (v : Value) (w : World) : (Instr.typeAssert (.iface 91 v) 71 89 true).run Tryd.prog w = .ok (.tuple #[.agg #[.int .i64 0, .int .i64 0], .bool false]) w := by kernel_rfl
end Go.Proofs.YthoeffbefmhkjaaDoor

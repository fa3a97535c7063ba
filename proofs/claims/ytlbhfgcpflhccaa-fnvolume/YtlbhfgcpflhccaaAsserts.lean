/- What a record does is told apart by its type. -/
import Derived.Test.YtlbhfgcpflhccaaChecked
import Derived.WalkKit
namespace Go.Proofs.Ytlbhfgcpflhccaa
open Go Go.RowKit
theorem ta_ww (v : Value) (w : World) : (Instr.typeAssert (.iface 94 v) 73 94 true).run Try.prog w = .ok (.tuple #[v, .bool true]) w := by kernel_rfl
theorem ta_wt (v : Value) (w : World) : (Instr.typeAssert (.iface 96 v) 73 94 true).run Try.prog w = .ok (.tuple #[.agg #[.int .i64 0, .int .i64 0, .string ⟨#[]⟩], .bool false]) w := by kernel_rfl
theorem ta_wm (v : Value) (w : World) : (Instr.typeAssert (.iface 98 v) 73 94 true).run Try.prog w = .ok (.tuple #[.agg #[.int .i64 0, .int .i64 0, .string ⟨#[]⟩], .bool false]) w := by kernel_rfl
theorem ta_tt (v : Value) (w : World) : (Instr.typeAssert (.iface 96 v) 73 96 true).run Try.prog w = .ok (.tuple #[v, .bool true]) w := by kernel_rfl
theorem ta_tm (v : Value) (w : World) : (Instr.typeAssert (.iface 98 v) 73 96 true).run Try.prog w = .ok (.tuple #[.agg #[.int .i64 0, .int .i64 0], .bool false]) w := by kernel_rfl
end Go.Proofs.Ytlbhfgcpflhccaa

/- What a record does is told apart by its type. -/
import Derived.Test.YtlaafcmfddidnaaChecked
import Derived.WalkKit
namespace Go.Proofs.Ytlaafcmfddidnaa
open Go Go.RowKit
theorem ta_ww (v : Value) (w : World) : (Instr.typeAssert (.iface 84 v) 79 84 true).run Try.prog w = .ok (.tuple #[v, .bool true]) w := by kernel_rfl
theorem ta_wt (v : Value) (w : World) : (Instr.typeAssert (.iface 86 v) 79 84 true).run Try.prog w = .ok (.tuple #[.agg #[.int .i64 0, .int .i64 0, .string ⟨#[]⟩], .bool false]) w := by kernel_rfl
theorem ta_wm (v : Value) (w : World) : (Instr.typeAssert (.iface 88 v) 79 84 true).run Try.prog w = .ok (.tuple #[.agg #[.int .i64 0, .int .i64 0, .string ⟨#[]⟩], .bool false]) w := by kernel_rfl
theorem ta_tt (v : Value) (w : World) : (Instr.typeAssert (.iface 86 v) 79 86 true).run Try.prog w = .ok (.tuple #[v, .bool true]) w := by kernel_rfl
theorem ta_tm (v : Value) (w : World) : (Instr.typeAssert (.iface 88 v) 79 86 true).run Try.prog w = .ok (.tuple #[.agg #[.int .i64 0, .int .i64 0], .bool false]) w := by kernel_rfl
end Go.Proofs.Ytlaafcmfddidnaa

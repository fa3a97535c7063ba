/- Walks of the program's GoodRecord. -/
import Derived.Test.YtlbhfgcpflhccaaChgA
namespace Go.Proofs.Ytlbhfgcpflhccaa
set_option maxRecDepth 100000
open Go.ChangeShapes Go.WideShapes Go.ChangeAt Go.RowKit G00541
set_option maxHeartbeats 400000 in
theorem igood_any (k p n : Int) (D : ByteArray) (w : World) : Calls Try.prog 35 #[.agg #[.int .i64 k, .int .i64 p, .int .i64 n, .string D]] w fun e w' => e = .returned (.bool (goodR ⟨k, p, n, D.data.toList⟩)) ∧ Below w.heap.size w w' := by
  have HC : Hid (∀ v, Calls Try.prog 39 #[.agg #[.int .i64 k, .int .i64 p, .int .i64 n, .string D]] v fun e w' => e = .returned (.tuple #[chgV k p n D, .bool (goodR ⟨k, p, n, D.data.toList⟩)]) ∧ Below v.heap.size v w') := fun v => change_any k p n D v
  generalize chgV k p n D = c at *
  generalize goodR ⟨k, p, n, D.data.toList⟩ = g at *
  go_enter Try.func35, Try.ntmps35
  go_wp2_with fail
  refine (HC.out _).mono ?_
  rintro e w1 ⟨rfl, b1⟩
  have HB : Hid (Below w.heap.size w w1) := below_in b1
  clear b1
  go_wp2
  go_ret
  exact ⟨rfl, HB.out⟩
end Go.Proofs.Ytlbhfgcpflhccaa

/- Walk of the laws' eqRecord. -/
import Derived.Test.YtlaafcmfddidnaaTwo
namespace Go.Proofs.Ytlaafcmfddidnaa
set_option maxRecDepth 100000
open Go.ChangeShapes Go.WideShapes Go.ChangeAt Go.RowKit G00541
set_option maxHeartbeats 400000 in
theorem eqRecord_same (k p n : Int) (D : ByteArray) (w : World) :
    Calls Try.prog 44 #[.agg #[.int .i64 k, .int .i64 p, .int .i64 n, .string D], .agg #[.int .i64 k, .int .i64 p, .int .i64 n, .string D]] w fun e w' => e = .returned (.bool true) ∧ Below w.heap.size w w' := by
  go_enter Try.func44, Try.ntmps44
  go_wp2
  go_ret
  exact ⟨rfl, ((Below.refl _ _).alloc (Nat.le_refl _) _).alloc (by simp) _⟩
end Go.Proofs.Ytlaafcmfddidnaa

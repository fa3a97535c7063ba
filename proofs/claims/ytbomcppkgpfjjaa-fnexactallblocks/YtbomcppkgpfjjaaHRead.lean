/- Walks of the model's l5Live, l5There, LiveIn, FreeSegs. -/
import Derived.Test.YtbomcppkgpfjjaaSGh
namespace Go.Proofs.Ytbomcppkgpfjjaa
set_option maxRecDepth 100000
open Go.ChangeShapes Go.WideShapes Go.ChangeAt Go.RowKit G00541
theorem boxB (w : World) (o : Obj) : Below w.heap.size w (w.alloc o) := (Below.refl _ _).alloc (Nat.le_refl _) _
theorem cnt_step (v : List Bool) (n : Nat) (h : n < v.length) : (v.take (n + 1)).countP id = (v.take n).countP id + (if v[n] then 1 else 0) := by
  rw [List.take_succ_eq_append_getElem h, List.countP_append]
  cases v[n] <;> simp
theorem ret_i {a b : Int} (h : a = b) : Ending.returned (.int .i64 a) = .returned (.int .i64 b) := by rw [h]
end Go.Proofs.Ytbomcppkgpfjjaa

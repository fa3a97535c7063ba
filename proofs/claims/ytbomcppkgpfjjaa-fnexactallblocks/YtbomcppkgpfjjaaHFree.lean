/- Walks of the model's LiveIn and FreeSegs. -/
import Derived.Test.YtbomcppkgpfjjaaHWhere
namespace Go.Proofs.Ytbomcppkgpfjjaa
set_option maxRecDepth 100000
open Go.ChangeShapes Go.WideShapes Go.ChangeAt Go.RowKit G00541
theorem ret_ib {a b : Int} {c : Bool} (h : a = b) : Ending.returned (.tuple #[.int .i64 a, .bool c]) = .returned (.tuple #[.int .i64 b, .bool c]) := by rw [h]
def freeN (S : List Sg) : Nat := S.countP fun s => s.bl.length == 0
theorem free_step (S : List Sg) (k : Nat) (h : k < S.length) : freeN (S.take (k + 1)) = freeN (S.take k) + (if S[k].bl.length == 0 then 1 else 0) := by
  unfold freeN
  rw [List.take_succ_eq_append_getElem h, List.countP_append]
  cases hq : (S[k].bl.length == 0) <;> simp [hq]
end Go.Proofs.Ytbomcppkgpfjjaa

/- Walk of the model's l5Better. -/
import Derived.Test.YtbomcppkgpfjjaaHFree
namespace Go.Proofs.Ytbomcppkgpfjjaa
set_option maxRecDepth 100000
open Go.ChangeShapes Go.WideShapes Go.ChangeAt Go.RowKit G00541
theorem mul_bd {a b A B : Int} (a0 : 0 ≤ a) (a1 : a ≤ A) (b0 : 0 ≤ b) (b1 : b ≤ B) : 0 ≤ a * b ∧ a * b ≤ A * B :=
  ⟨Int.mul_nonneg a0 b0, Int.mul_le_mul a1 b1 b0 (by omega)⟩
/-- one full segment ahead of another one -/
def betH (how x y ax ay : Int) : Bool := if how = 1 then decide (x < y) else decide ((6 - y) * (ay + 1) * (x + 6) < (6 - x) * (ax + 1) * (y + 6))
end Go.Proofs.Ytbomcppkgpfjjaa

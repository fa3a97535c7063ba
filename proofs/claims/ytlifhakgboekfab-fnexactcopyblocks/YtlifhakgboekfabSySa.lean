/- The model's SameAt. -/
import Derived.Test.YtlifhakgboekfabSyR
import Derived.Deep.DeepCutAuto
namespace Go.Proofs.Ytlifhakgboekfab
set_option maxRecDepth 100000
open Go Go.ChangeShapes Go.WideShapes Go.ChangeAt Go.RowKit
/-- what SameAt answers -/
def saV (A B : List Ly) (m : Int) : Bool := if BothOk A B m then sameK A B m else false
end Go.Proofs.Ytlifhakgboekfab

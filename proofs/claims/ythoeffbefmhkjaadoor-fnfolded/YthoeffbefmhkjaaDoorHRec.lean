/- Walks of the laws' helpers over a record. -/
import Derived.Test.YthoeffbefmhkjaaDoorQA
namespace Go.Proofs.YthoeffbefmhkjaaDoor
set_option maxRecDepth 100000
open Go.ChangeShapes Go.WideShapes Go.ChangeAt Go.RowKit G00541
end Go.Proofs.YthoeffbefmhkjaaDoor

/- Walks of the laws' helpers over a record. -/
import Derived.Test.YtlaafcmfddidnaaGood
namespace Go.Proofs.Ytlaafcmfddidnaa
set_option maxRecDepth 100000
open Go.ChangeShapes Go.WideShapes Go.ChangeAt Go.RowKit G00541
end Go.Proofs.Ytlaafcmfddidnaa

/- Walks of the laws' own measures of volumes. -/
import Derived.Test.YtlaafcmfddidnaaVBase
import Derived.Test.YtlaafcmfddidnaaStrR
import Derived.Test.YtlaafcmfddidnaaHRec
namespace Go.Proofs.Ytlaafcmfddidnaa
set_option maxRecDepth 100000
open Go.ChangeShapes Go.WideShapes Go.ChangeAt Go.RowKit G00541
/-- a volume whose lists a law takes -/
def FitV (B : List ByteArray) (L : List Rc) : Prop := B.length ≤ 1048576 ∧ L.length ≤ 1048576
end Go.Proofs.Ytlaafcmfddidnaa

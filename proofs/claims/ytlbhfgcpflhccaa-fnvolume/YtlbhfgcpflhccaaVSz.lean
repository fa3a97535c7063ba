/- Walks of the laws' own measures of volumes. -/
import Derived.Test.YtlbhfgcpflhccaaVBase
import Derived.Test.YtlbhfgcpflhccaaStrR
import Derived.Test.YtlbhfgcpflhccaaHRec
namespace Go.Proofs.Ytlbhfgcpflhccaa
set_option maxRecDepth 100000
open Go.ChangeShapes Go.WideShapes Go.ChangeAt Go.RowKit G00541
/-- a volume whose lists a law takes -/
def FitV (B : List ByteArray) (L : List Rc) : Prop := B.length ≤ 1048576 ∧ L.length ≤ 1048576
end Go.Proofs.Ytlbhfgcpflhccaa

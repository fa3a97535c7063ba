/- Parts of packets listed, and both sides' GoodPackets. -/
import Derived.Test.YteakdhlloollfaaPApp
import Derived.Test.YteakdhlloollfaaPMs
namespace Go.Proofs.Yteakdhlloollfaa
set_option maxRecDepth 100000
open Go Go.ChangeShapes Go.WideShapes Go.ChangeAt Go.RowKit
/-- packets -/
def goodPk (many : Int) (p : List Pk) : Bool := maskOk many (p.map Pk.ms) && likeL (p.map Pk.tx)
end Go.Proofs.Yteakdhlloollfaa

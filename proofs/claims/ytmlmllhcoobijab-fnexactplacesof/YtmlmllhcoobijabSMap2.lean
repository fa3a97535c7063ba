/- Walks of the model's PutStretch, TrimMap. -/
import Derived.Test.YtmlmllhcoobijabSMap
import Derived.Test.YtmlmllhcoobijabSPl
import Derived.Test.YtmlmllhcoobijabSGm
import Derived.Test.YtmlmllhcoobijabIMap
namespace Go.Proofs.Ytmlmllhcoobijab
set_option maxRecDepth 100000
open Go.ChangeShapes Go.WideShapes Go.ChangeAt Go.RowKit G00541
end Go.Proofs.Ytmlmllhcoobijab

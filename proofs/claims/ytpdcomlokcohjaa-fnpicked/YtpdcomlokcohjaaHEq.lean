/- Walks of the laws' own compare of heaps. -/
import Derived.Test.YtpdcomlokcohjaaHRoom
import Derived.Deep.RegionWith
namespace Go.Proofs.Ytpdcomlokcohjaa
set_option maxRecDepth 100000
open Go.ChangeShapes Go.WideShapes Go.ChangeAt Go.RowKit G00541
end Go.Proofs.Ytpdcomlokcohjaa

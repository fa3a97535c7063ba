/- Slices of texts: held against each other, marks laid and held. -/
import Derived.Test.YtlbhfgcpflhccaaStrR
import Derived.Test.YtlbhfgcpflhccaaMarkT
import Derived.Test.YtlbhfgcpflhccaaR
import Derived.Deep.RegionWith
import Derived.RegionTactic
namespace Go.Proofs.Ytlbhfgcpflhccaa
set_option maxRecDepth 100000
open Go.ChangeShapes Go.WideShapes Go.ChangeAt Go.RowKit
def smarks (n k : Nat) : List ByteArray := (List.range n).map fun (i : Nat) => markT (k + i)
theorem smarks_len (n k : Nat) : (smarks n k).length = n := by simp [smarks]
theorem smarks_at (n k i : Nat) (h : i < (smarks n k).length) : (smarks n k)[i] = markT (k + i) := by simp [smarks]
end Go.Proofs.Ytlbhfgcpflhccaa

/- The seat's program does not call reverse. -/
import Derived.Lib.SlKeysI
namespace Go.Proofs.Ytjcacjpadjacnab
end Go.Proofs.Ytjcacjpadjacnab

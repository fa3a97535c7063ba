/- The seat's program does not call compact. -/
import Derived.Lib.SlKeysI
namespace Go.Proofs.Ytlifhakgboekfab
end Go.Proofs.Ytlifhakgboekfab

/- maps.Clone over a map of blocks. -/
import Derived.Test.YtmbkdollakbigaaKOver
import Derived.Test.YtmbkdollakbigaaAMcl
namespace Go.Proofs.Ytmbkdollakbigaa
set_option maxRecDepth 100000
open Go Go.ChangeShapes Go.WideShapes Go.ChangeAt Go.RowKit Go.Shelf Go.Maps
theorem cloneMK (b n : Nat) (D : DataW Unit) (w : World) (hown : w.ownsMap Try.prog 3 keptE b n D) :
    Calls Try.prog 26 #[.map (some b)] w fun e w' => e = .returned (.map (some w.heap.size)) ∧ w'.ownsMap Try.prog 3 keptE w.heap.size n D ∧ w'.ownsMap Try.prog 3 keptE b n D ∧ Below w.heap.size w w' := AnyW.maps_Clone_owns mclays 3 keptE b n D w hown
end Go.Proofs.Ytmbkdollakbigaa

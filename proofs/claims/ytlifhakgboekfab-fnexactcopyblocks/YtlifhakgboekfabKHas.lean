/- Walks of the program's layerWith and hasMark. -/
import Derived.Test.YtlifhakgboekfabKFind
namespace Go.Proofs.Ytlifhakgboekfab
set_option maxRecDepth 100000
open Go Go.ChangeShapes Go.WideShapes Go.ChangeAt Go.RowKit
theorem fk_bd (S : List Ly) (x : Int) : decide (0 ≤ fk S x) = decide (fndK S x < S.length) := by
  by_cases h : fndK S x < S.length
  · rw [fk_at h, decide_eq_true h]; exact decide_eq_true (by omega)
  · rw [fk_none h, decide_eq_false h]; rfl
end Go.Proofs.Ytlifhakgboekfab

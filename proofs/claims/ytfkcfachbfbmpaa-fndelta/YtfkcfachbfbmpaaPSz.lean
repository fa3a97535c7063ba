/- Texts and packets measured and made over. -/
import Derived.Test.YtfkcfachbfbmpaaPkK
import Derived.Test.YtfkcfachbfbmpaaAApp
namespace Go.Proofs.Ytfkcfachbfbmpaa
set_option maxRecDepth 100000
open Go.ChangeShapes Go.WideShapes Go.ChangeAt Go.RowKit
theorem kbox {w : World} {R : Nat} {o : Obj} (h : w.heap[R]? = some o) : R < w.heap.size := by
  obtain ⟨h1, _⟩ := Array.getElem?_eq_some_iff.1 h
  exact h1
end Go.Proofs.Ytfkcfachbfbmpaa

/- Walk of the model's l5Room. -/
import Derived.Test.YtbomcppkgpfjjaaHRead
import Derived.Test.YtbomcppkgpfjjaaHFind
namespace Go.Proofs.Ytbomcppkgpfjjaa
set_option maxRecDepth 100000
open Go.ChangeShapes Go.WideShapes Go.ChangeAt Go.RowKit G00541
/-- the box of a heap that a call keeps -/
structure Bx (w : World) (o : Obj) (wr : World) : Prop where
  below : Below w.heap.size w wr
  box : wr.heap[w.heap.size]? = some o
theorem Bx.start (w : World) (o : Obj) : Bx w o (w.alloc o) := ⟨boxB w o, heap_last w o⟩
theorem Bx.lt {w : World} {o : Obj} {wr : World} (h : Bx w o wr) : w.heap.size < wr.heap.size := by
  rcases Nat.lt_or_ge w.heap.size wr.heap.size with h' | h'
  · exact h'
  · have := h.box
    rw [Array.getElem?_eq_none h'] at this; cases this
theorem Bx.on {w : World} {o : Obj} {wr w' : World} (h : Bx w o wr) (g : Below wr.heap.size wr w') : Bx w o w' :=
  ⟨h.below.trans (g.mono (Nat.le_of_lt h.lt)), (g.block _ h.lt).trans h.box⟩
end Go.Proofs.Ytbomcppkgpfjjaa

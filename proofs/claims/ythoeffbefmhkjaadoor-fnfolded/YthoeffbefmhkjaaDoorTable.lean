/- What the row's list gives a walk: the cells of the table of sixteen numbers; a world for the witness. -/
import Derived.Test.YthoeffbefmhkjaaDoorQA
import Derived.Test.YthoeffbefmhkjaaDoorRows
import Derived.Deep.DeepHandedRow
import Derived.Lib.LaidTab
namespace Go.Proofs.YthoeffbefmhkjaaDoor
open Go.ChangeShapes Go.WideShapes Go.ChangeAt Go.RowKit
set_option maxRecDepth 100000
theorem own : ownKnob Tryd.prog.godebug = none := by kernel_rfl
theorem laidOut : laidOutB Tryd.prog = true := by kernel_rfl
theorem gTab : Tryd.prog.globalNamed "loop.example/g00541/impl.outTable" = some 0 := by kernel_rfl
theorem gTabType : (Tryd.prog.globals[0]?).map (·.type) = some 98 := by kernel_rfl
theorem cellsTab : Tryd.prog.cellsOf 98 = 16 := by kernel_rfl
theorem cells3 : Tryd.prog.cellsOf 3 = 1 := by kernel_rfl
theorem table {W : World} (h : laidMetH Tryd.prog [("loop.example/g00541/impl.outTable", Rows.laid_loop_example_g00541_impl_outTable)] W) : Tab W := by
  have hT : Lib.TabIs Tryd.prog W "loop.example/g00541/impl.outTable" .i64 (G00541.tab.map Int.ofNat) :=
    Lib.tabIs_of_head (rest := []) gTab gTabType Tryd.underlying98 Tryd.underlying3 cells3 cellsTab h
  intro i hi
  have := hT.cell gTab i (by simpa [G00541.tab] using hi)
  rw [this]
  simp only [List.getD_eq_getElem?_getD, List.getElem?_map]
  cases G00541.tab[i]? <;> rfl
/-- A world for the witness: the settled one, the tables as their initialisers lay them. -/
def laidWorldOf (P : Program) (os : Os) : World :=
  { World.holding P os ⟨#[], #[], []⟩ with heap := (World.holding P os ⟨#[], #[], []⟩).heap.modify 0 fun
      | .cells _ t frozen => .cells #[.int .i64 0, .int .i64 4129, .int .i64 8258, .int .i64 12387, .int .i64 16516, .int .i64 20645, .int .i64 24774, .int .i64 28903, .int .i64 33032, .int .i64 37161, .int .i64 41290, .int .i64 45419, .int .i64 49548, .int .i64 53677, .int .i64 57806, .int .i64 61935] t frozen
      | o => o }
end Go.Proofs.YthoeffbefmhkjaaDoor

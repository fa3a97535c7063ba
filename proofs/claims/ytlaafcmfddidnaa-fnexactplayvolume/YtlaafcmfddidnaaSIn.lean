/- Walks of the model's l6In, BlocksIn. -/
import Derived.Test.YtlaafcmfddidnaaVApp
import Derived.Test.YtlaafcmfddidnaaSGv
namespace Go.Proofs.Ytlaafcmfddidnaa
set_option maxRecDepth 100000
open Go.ChangeShapes Go.WideShapes Go.ChangeAt Go.RowKit G00541
theorem doL_all (B : List ByteArray) (L : List Rc) : doL B (L.take L.length) = doL B L := by rw [List.take_length]
/-- a volume's blocks and true, in memory of its own, or nothing and false -/
def BlOut (B : List ByteArray) (F : Int) (L : List Rc) (s : Int) (w : World) (e : Ending) (w' : World) : Prop :=
  (goodV B F L s = true ∧ ∃ R c, e = .returned (.tuple #[.slice (some ⟨R, 0, none⟩) 16 c, .bool true]) ∧ w.heap.size ≤ R ∧ SRow R (doL B L) w' ∧ Below w.heap.size w w' ∧ 16 ≤ c) ∨
  (goodV B F L s = false ∧ e = .returned (.tuple #[.slice none 0 0, .bool false]) ∧ Below w.heap.size w w')
end Go.Proofs.Ytlaafcmfddidnaa

/- What a function that tells numbers tells. -/
import Derived.Test.YtgipkpldlkmdkaaSMap2
namespace Go.Proofs.Ytgipkpldlkmdkaa
set_option maxRecDepth 100000
open Go.ChangeShapes Go.WideShapes Go.ChangeAt Go.RowKit G00541
/-- what a function that tells numbers tells: in memory of its own -/
def IntOut (V : List Int) (ok : Bool) (w : World) (e : Ending) (w' : World) : Prop := ∃ b c, e = .returned (.tuple #[.slice b V.length c, .bool ok]) ∧ OwnI w.heap.size w'.heap.size b V w' ∧ Below w.heap.size w w'
theorem IntOut.no {w w' : World} (hb : Below w.heap.size w w') : IntOut [] false w (.returned (.tuple #[.slice none 0 0, .bool false])) w' := ⟨none, 0, rfl, Or.inl rfl, hb⟩
theorem IntOut.of {V : List Int} {w w' : World} {v : Value} (h : w'.ownsRow w.heap.size 3 1 v V.length (ivals V)) (hb : Below w.heap.size w w') : IntOut V true w (.returned (.tuple #[v, .bool true])) w' := by
  obtain ⟨b, c, rfl, ho⟩ := own_ints h rfl
  exact ⟨b, c, rfl, ho, hb⟩
end Go.Proofs.Ytgipkpldlkmdkaa

/- Walk of the model's ReadAt. -/
import Derived.Test.YtmbkdollakbigaaKAt
import Derived.Deep.RegionHeld
namespace Go.Proofs.Ytmbkdollakbigaa
set_option maxRecDepth 100000
open Go Go.ChangeShapes Go.WideShapes Go.ChangeAt Go.RowKit
/-- ReadAt answers -/
def RdOk (S : List Ly) (m x : Int) : Prop := GoodK S ∧ (0 ≤ x ∧ x ≤ 15) ∧ fndK S m < S.length
instance (S : List Ly) (m x : Int) : Decidable (RdOk S m x) := by unfold RdOk; infer_instance
def rdB (S : List Ly) (m x : Int) : Bool := decide (RdOk S m x)
def rdT (S : List Ly) (m x : Int) : ByteArray := if RdOk S m x then atL S x (fndK S m + 1) else ⟨#[]⟩
theorem rd_no {S : List Ly} {m x : Int} (h : ¬ RdOk S m x) : Ending.returned (.tuple #[.string ⟨#[]⟩, .bool false]) = .returned (.tuple #[.string (rdT S m x), .bool (rdB S m x)]) := by
  unfold rdT rdB; rw [if_neg h, decide_eq_false h]
theorem rd_yes {S : List Ly} {m x : Int} (h : RdOk S m x) : Ending.returned (.tuple #[.string (atL S x (fndK S m + 1)), .bool true]) = .returned (.tuple #[.string (rdT S m x), .bool (rdB S m x)]) := by
  unfold rdT rdB; rw [if_pos h, decide_eq_true h]
end Go.Proofs.Ytmbkdollakbigaa

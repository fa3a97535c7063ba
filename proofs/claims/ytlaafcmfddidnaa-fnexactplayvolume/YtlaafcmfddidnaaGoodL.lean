/- Lists of records that are good: the model's l3Good. -/
import Derived.Test.YtlaafcmfddidnaaTwo
namespace Go.Proofs.Ytlaafcmfddidnaa
set_option maxRecDepth 100000
open Go.ChangeShapes Go.WideShapes Go.ChangeAt Go.RowKit G00541
def goodL (l : List Rc) : Bool := l.all goodR
theorem goodL_bad (l : List Rc) (k : Nat) (h : k < l.length) (hb : goodR l[k] = false) : goodL l = false := by
  unfold goodL
  rw [List.all_eq_false]
  exact ⟨l[k], List.getElem_mem h, by rw [hb]; decide⟩
theorem good_at {l : List Rc} (h : goodL l = true) (k : Nat) (hk : k < l.length) : goodR l[k] = true := List.all_eq_true.1 h _ (List.getElem_mem hk)
end Go.Proofs.Ytlaafcmfddidnaa

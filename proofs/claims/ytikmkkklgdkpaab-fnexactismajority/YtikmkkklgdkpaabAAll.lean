/- Walk of l1All. -/
import Derived.Test.YtikmkkklgdkpaabIn
import Derived.Test.YtikmkkklgdkpaabIntR
import Derived.WalkKit
namespace Go.Proofs.Ytikmkkklgdkpaab
set_option maxRecDepth 100000
open Go.ChangeShapes Go.WideShapes Go.ChangeAt Go.RowKit
theorem ret_b2 {a b : Bool} (h : a = b) : Ending.returned (.bool a) = .returned (.bool b) := by rw [h]
/-- each number in lo .. hi -/
def allIn (l : List Int) (lo hi : Int) : Bool := l.all fun x => decide (lo ≤ x ∧ x ≤ hi)
theorem allIn_bad (l : List Int) (lo hi : Int) (k : Nat) (h : k < l.length) (hb : ¬ (lo ≤ l[k] ∧ l[k] ≤ hi)) : allIn l lo hi = false := by
  unfold allIn
  rw [List.all_eq_false]
  exact ⟨l[k], List.getElem_mem h, by rw [decide_eq_false hb]; decide⟩
theorem allIn_all (l : List Int) (lo hi : Int) (h : ∀ j (hj : j < l.length), lo ≤ l[j] ∧ l[j] ≤ hi) : allIn l lo hi = true := by
  unfold allIn
  rw [List.all_eq_true]
  intro x hx
  obtain ⟨j, hj, rfl⟩ := List.getElem_of_mem hx
  exact decide_eq_true (h j hj)
theorem allIn_at (l : List Int) (lo hi : Int) (h : allIn l lo hi = true) (j : Nat) (hj : j < l.length) : lo ≤ l[j] ∧ l[j] ≤ hi := by
  unfold allIn at h
  rw [List.all_eq_true] at h
  exact of_decide_eq_true (h _ (List.getElem_mem hj))
end Go.Proofs.Ytikmkkklgdkpaab

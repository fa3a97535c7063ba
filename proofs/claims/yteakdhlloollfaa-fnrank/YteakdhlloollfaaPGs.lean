/- Sources: texts of one length, and both sides' GoodSources. -/
import Derived.Test.YteakdhlloollfaaPOpen
namespace Go.Proofs.Yteakdhlloollfaa
set_option maxRecDepth 100000
open Go Go.ChangeShapes Go.WideShapes Go.ChangeAt Go.RowKit
/-- a text as long as the first one, and short -/
def likeOk (l : List ByteArray) (s : ByteArray) : Bool := decide (s.size = (l.headD ⟨#[]⟩).size) && decide (s.size ≤ 20)
def likeL (l : List ByteArray) : Bool := l.all (likeOk l)
/-- sources -/
def goodSr (l : List ByteArray) : Bool := decide (1 ≤ l.length ∧ l.length ≤ 10) && likeL l
theorem headD_zero (l : List ByteArray) (h : 0 < l.length) : l.headD ⟨#[]⟩ = l[0] := by
  cases l with
  | nil => simp at h
  | cons a t => rfl
theorem likeL_bad (l : List ByteArray) (k : Nat) (h : k < l.length) (hb : likeOk l l[k] = false) : likeL l = false := by
  unfold likeL
  rw [List.all_eq_false]
  exact ⟨l[k], List.getElem_mem h, by rw [hb]; decide⟩
theorem likeL_all (l : List ByteArray) (h : ∀ j (hj : j < l.length), likeOk l l[j] = true) : likeL l = true := by
  unfold likeL
  rw [List.all_eq_true]
  intro x hx
  obtain ⟨j, hj, rfl⟩ := List.getElem_of_mem hx
  exact h j hj
theorem likeL_at (l : List ByteArray) (h : likeL l = true) (j : Nat) (hj : j < l.length) : l[j].size = (l.headD ⟨#[]⟩).size ∧ l[j].size ≤ 20 := by
  unfold likeL at h
  rw [List.all_eq_true] at h
  have := h _ (List.getElem_mem hj)
  unfold likeOk at this
  rw [Bool.and_eq_true] at this
  exact ⟨of_decide_eq_true this.1, of_decide_eq_true this.2⟩
/-- how many sources there may be -/
def manyB (n : Int) : Bool := decide (1 ≤ n ∧ n ≤ 10)
set_option maxHeartbeats 400000 in
theorem isMany_any (n : Int) (w : World) : Calls Try.prog 27 #[.int .i64 n] w fun e w' => e = .returned (.bool (manyB n)) ∧ w' = w := by
  by_cases h1 : 1 ≤ n
  · have d1 : decide ((1 : Int) ≤ n) = true := decide_eq_true h1
    go_enter Try.func27, Try.ntmps27
    go_wp2
    go_ret
    exact ⟨ret_b2 (by unfold manyB; simp [h1]), rfl⟩
  · have d1 : decide ((1 : Int) ≤ n) = false := decide_eq_false h1
    go_enter Try.func27, Try.ntmps27
    go_wp2
    go_ret
    exact ⟨ret_b2 (by unfold manyB; rw [decide_eq_false (by omega)]), rfl⟩
end Go.Proofs.Yteakdhlloollfaa

/- Walk of the program's needlessAreZero. -/
import Derived.Test.YtlbhfgcpflhccaaOPlain
import Derived.Laws.StructEq
namespace Go.Proofs.Ytlbhfgcpflhccaa
set_option maxRecDepth 100000
open Go.ChangeShapes Go.WideShapes Go.ChangeAt Go.RowKit G00541
theorem two_boxes (w : World) (o p : Obj) : Below w.heap.size w ((w.alloc o).alloc p) := ((Below.refl _ _).alloc (Nat.le_refl _) _).alloc (by simp) _
theorem need_yes {o : Op} (h : needP o) : Ending.returned (.bool true) = .returned (.bool (needOk o)) := by rw [show needOk o = true from decide_eq_true h]
theorem need_no {o : Op} (h : ¬ needP o) : Ending.returned (.bool false) = .returned (.bool (needOk o)) := by rw [show needOk o = false from decide_eq_false h]
set_option maxHeartbeats 4000000 in
theorem need_any (k p n m : Int) (D : ByteArray) (w : World) : Calls Try.prog 34 #[.agg #[.int .i64 k, .int .i64 p, .int .i64 n, .string D, .int .i64 m]] w fun e w' => e = .returned (.bool (needOk ⟨k, p, n, D, m⟩)) ∧ Below w.heap.size w w' := by
  have hD : (D.toList = []) ↔ D.data.toList = [] := empty_iff D
  by_cases k1 : k = 1
  · subst k1
    go_enter Try.func34, Try.ntmps34
    go_wp2_with fail
    all_goals
      go_ret
      refine ⟨?_, two_boxes _ _ _⟩
      first
        | refine need_yes ?_
        | refine need_no ?_
      simp_all [needP]
  by_cases k2 : k = 2
  · subst k2
    go_enter Try.func34, Try.ntmps34
    go_wp2_with fail
    all_goals
      go_ret
      refine ⟨?_, two_boxes _ _ _⟩
      first
        | refine need_yes ?_
        | refine need_no ?_
      simp_all [needP]
  by_cases k3 : k = 3
  · subst k3
    go_enter Try.func34, Try.ntmps34
    go_wp2_with fail
    all_goals
      go_ret
      refine ⟨?_, two_boxes _ _ _⟩
      first
        | refine need_yes ?_
        | refine need_no ?_
      simp_all [needP]
  by_cases k5 : k = 5
  · subst k5
    go_enter Try.func34, Try.ntmps34
    go_wp2_with fail
    all_goals
      go_ret
      refine ⟨?_, two_boxes _ _ _⟩
      first
        | refine need_yes ?_
        | refine need_no ?_
      simp_all [needP]
  · have d1 : decide (k = 1) = false := decide_eq_false k1
    have d2 : decide (k = 2) = false := decide_eq_false k2
    have d3 : decide (k = 3) = false := decide_eq_false k3
    have d5 : decide (k = 5) = false := decide_eq_false k5
    have e1 : (k == 1) = false := beq_eq_false_iff_ne.2 k1
    have e2 : (k == 2) = false := beq_eq_false_iff_ne.2 k2
    have e3 : (k == 3) = false := beq_eq_false_iff_ne.2 k3
    have e5 : (k == 5) = false := beq_eq_false_iff_ne.2 k5
    go_enter Try.func34, Try.ntmps34
    go_wp2_with fail
    all_goals
      go_ret
      refine ⟨?_, two_boxes _ _ _⟩
      first
        | refine need_yes ?_
        | refine need_no ?_
      simp_all [needP]
end Go.Proofs.Ytlbhfgcpflhccaa

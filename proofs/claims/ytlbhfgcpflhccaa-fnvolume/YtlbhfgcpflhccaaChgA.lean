/- The program's changeOf, at every record. -/
import Derived.Test.YtlbhfgcpflhccaaIChg
namespace Go.Proofs.Ytlbhfgcpflhccaa
set_option maxRecDepth 100000
open Go.ChangeShapes Go.WideShapes Go.ChangeAt Go.RowKit G00541
/-- what a record does, as the program has it -/
def chgV (k p n : Int) (D : ByteArray) : Value :=
  if k = 1 then .iface 94 (.agg #[.int .i64 p, .int .i64 n, .string D])
  else if k = 2 then .iface 96 (.agg #[.int .i64 p, .int .i64 n])
  else if k = 3 then .iface 98 (.agg #[.int .i64 p])
  else .nilIface
theorem change_any (k p n : Int) (D : ByteArray) (w : World) : Calls Try.prog 39 #[.agg #[.int .i64 k, .int .i64 p, .int .i64 n, .string D]] w fun e w' => e = .returned (.tuple #[chgV k p n D, .bool (goodR ⟨k, p, n, D.data.toList⟩)]) ∧ Below w.heap.size w w' := by
  by_cases k1 : k = 1
  · subst k1
    have hc : chgV 1 p n D = .iface 94 (.agg #[.int .i64 p, .int .i64 n, .string D]) := rfl
    rw [hc]
    cases h : goodR ⟨1, p, n, D.data.toList⟩
    · exact change_one_no p n D w h
    · exact change_one_yes p n D w h
  by_cases k2 : k = 2
  · subst k2
    have hc : chgV 2 p n D = .iface 96 (.agg #[.int .i64 p, .int .i64 n]) := rfl
    rw [hc, good_two]
    cases h : spanR p n
    · exact change_two_no p n D w h
    · exact change_two_yes p n D w h _ rfl
  by_cases k3 : k = 3
  · subst k3
    have hc : chgV 3 p n D = .iface 98 (.agg #[.int .i64 p]) := rfl
    have hg : goodR ⟨3, p, n, D.data.toList⟩ = (markR p && decide (n = 0 ∧ D.data.toList = [])) := by
      rw [good_three]; unfold markR; rw [← Bool.decide_and, decide_eq_decide]; constructor <;> intro h <;> simp_all
    rw [hc, hg]
    cases h : markR p
    · exact change_three_no p n D w h
    · exact change_three_yes p n D w h _ rfl
  · have hc : chgV k p n D = .nilIface := by unfold chgV; rw [if_neg k1, if_neg k2, if_neg k3]
    rw [hc, good_other k1 k2 k3]
    exact change_other k p n D w k1 k2 k3
end Go.Proofs.Ytlbhfgcpflhccaa

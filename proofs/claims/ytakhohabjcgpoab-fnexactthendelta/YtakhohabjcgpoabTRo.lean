/- Sums of texts: both sides' walks. -/
import Derived.Test.YtakhohabjcgpoabTPl
import Derived.Test.YtakhohabjcgpoabPSz
import Derived.Test.YtakhohabjcgpoabBut
import Derived.Test.YtakhohabjcgpoabIn
namespace Go.Proofs.Ytakhohabjcgpoab
set_option maxRecDepth 100000
open Go Go.ChangeShapes Go.WideShapes Go.ChangeAt Go.RowKit
set_option maxHeartbeats 400000 in
theorem long_any (s : ByteArray) (w : World) : Calls Try.prog 24 #[.string s] w fun e w' => e = .returned (.bool (decide (s.size ≤ 120))) ∧ w' = w := by
  by_cases h : s.size ≤ 120
  · have hd : decide ((s.size : Int) ≤ 120) = true := decide_eq_true (by omega)
    rw [decide_eq_true h]
    go_enter Try.func24, Try.ntmps24
    go_wp2
    go_ret
    exact ⟨rfl, rfl⟩
  · have hd : decide ((s.size : Int) ≤ 120) = false := decide_eq_false (by omega)
    rw [decide_eq_false h]
    go_enter Try.func24, Try.ntmps24
    go_wp2
    go_ret
    exact ⟨rfl, rfl⟩
set_option maxHeartbeats 400000 in
theorem isText_any (s : ByteArray) (w : World) : Calls Try.prog 28 #[.string s] w fun e w' => e = .returned (.bool (decide (s.size ≤ 120))) ∧ w' = w := by
  by_cases h : s.size ≤ 120
  · have hd : decide ((s.size : Int) ≤ 120) = true := decide_eq_true (by omega)
    rw [decide_eq_true h]
    go_enter Try.func28, Try.ntmps28
    go_wp2
    go_ret
    exact ⟨rfl, rfl⟩
  · have hd : decide ((s.size : Int) ≤ 120) = false := decide_eq_false (by omega)
    rw [decide_eq_false h]
    go_enter Try.func28, Try.ntmps28
    go_wp2
    go_ret
    exact ⟨rfl, rfl⟩
theorem ret_in {k : IntKind} {a b : Int} (h : a = b) : Ending.returned (.int k a) = .returned (.int k b) := by rw [h]
end Go.Proofs.Ytakhohabjcgpoab

/- Walks of the laws' helpers over a record. -/
import Derived.Test.YtbipbihjaeobkaaGood
namespace Go.Proofs.Ytbipbihjaeobkaa
set_option maxRecDepth 100000
open Go.ChangeShapes Go.WideShapes Go.ChangeAt Go.RowKit G00541
set_option maxHeartbeats 400000 in
theorem szRecord_any (k p n : Int) (D : ByteArray) (left : Int) (w : World) (h0 : 0 ≤ left) (h1 : left ≤ 1048576) (hz : D.size ≤ 9223372036854775807) :
    Calls Try.prog 67 #[.agg #[.int .i64 k, .int .i64 p, .int .i64 n, .string D], .int .i64 left] w fun e w' => (∃ r : Int, e = .returned (.int .i64 r) ∧ r ≤ 1048576 ∧ (0 ≤ r → D.size ≤ 1048576)) ∧ Below w.heap.size w w' := by
  by_cases g : (D.size : Int) ≤ left
  · have hd : decide (left - (D.size : Int) < 0) = false := by simp; omega
    go_enter Try.func67, Try.ntmps67
    go_wp2
    go_ret
    exact ⟨⟨_, rfl, by omega, fun _ => by omega⟩, (Below.refl _ _).alloc (Nat.le_refl _) _⟩
  · have hd : decide (left - (D.size : Int) < 0) = true := by simp; omega
    go_enter Try.func67, Try.ntmps67
    go_wp2
    go_ret
    exact ⟨⟨-1, rfl, by omega, fun h => by omega⟩, (Below.refl _ _).alloc (Nat.le_refl _) _⟩
set_option maxHeartbeats 400000 in
theorem toRecord_any (k p n : Int) (D : ByteArray) (w : World) :
    Calls Try.prog 69 #[.agg #[.int .i64 k, .int .i64 p, .int .i64 n, .string D]] w fun e w' => e = .returned (.agg #[.int .i64 k, .int .i64 p, .int .i64 n, .string D]) ∧ Below w.heap.size w w' := by
  go_enter Try.func69, Try.ntmps69
  go_wp2
  refine bodyPost_ret (v := .agg #[.int .i64 k, .int .i64 p, .int .i64 n, .string D]) (by simp [results, Try.results69, go_sem]) rfl ⟨rfl, ?_⟩
  exact (((Below.refl _ _).alloc (Nat.le_refl _) _).alloc (by simp) _).alloc (by simp; omega) _
end Go.Proofs.Ytbipbihjaeobkaa

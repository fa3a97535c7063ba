/- Walks of the program's GoodRecord: what a record does, behind an interface. -/
import Derived.Test.YtlbhfgcpflhccaaGood
import Derived.Laws.StructEq
import Derived.Deep.RegionWith
namespace Go.Proofs.Ytlbhfgcpflhccaa
set_option maxRecDepth 100000
open Go.ChangeShapes Go.WideShapes Go.ChangeAt Go.RowKit G00541
set_option maxHeartbeats 400000 in
theorem goodSpan_any (p n : Int) (w : World) : Calls Try.prog 53 #[.int .i64 p, .int .i64 n] w fun e w' => e = .returned (.bool (spanR p n)) ∧ w' = w := by
  by_cases h1 : 1 ≤ n
  · have d1 : decide (1 ≤ n) = true := decide_eq_true h1
    by_cases h2 : n ≤ 4
    · have d2 : decide (n ≤ 4) = true := decide_eq_true h2
      by_cases h3 : 0 ≤ p
      · have d3 : decide (0 ≤ p) = true := decide_eq_true h3
        by_cases h4 : p ≤ 16 - n
        · have d4 : decide (p ≤ 16 - n) = true := decide_eq_true h4
          rw [span_yes ⟨h1, h2, h3, h4⟩]
          go_enter Try.func53, Try.ntmps53
          go_wp2
          go_ret
          exact ⟨rfl, rfl⟩
        · have d4 : decide (p ≤ 16 - n) = false := decide_eq_false h4
          rw [span_no (fun h => h4 h.2.2.2)]
          go_enter Try.func53, Try.ntmps53
          go_wp2
          go_ret
          exact ⟨rfl, rfl⟩
      · have d3 : decide (0 ≤ p) = false := decide_eq_false h3
        rw [span_no (fun h => h3 h.2.2.1)]
        go_enter Try.func53, Try.ntmps53
        go_wp2
        go_ret
        exact ⟨rfl, rfl⟩
    · have d2 : decide (n ≤ 4) = false := decide_eq_false h2
      rw [span_no (fun h => h2 h.2.1)]
      go_enter Try.func53, Try.ntmps53
      go_wp2
      go_ret
      exact ⟨rfl, rfl⟩
  · have d1 : decide (1 ≤ n) = false := decide_eq_false h1
    rw [span_no (fun h => h1 h.1)]
    go_enter Try.func53, Try.ntmps53
    go_wp2
    go_ret
    exact ⟨rfl, rfl⟩
set_option maxHeartbeats 400000 in
theorem wgood_any (p n : Int) (D : ByteArray) (w : World) : Calls Try.prog 90 #[.agg #[.int .i64 p, .int .i64 n, .string D]] w fun e w' => e = .returned (.bool (goodR ⟨1, p, n, D.data.toList⟩)) ∧ Below w.heap.size w w' := by
  rw [good_one, bytes_size]
  have HW : Hid (∀ v, Calls Try.prog 53 #[.int .i64 p, .int .i64 n] v fun e w' => e = .returned (.bool (spanR p n)) ∧ w' = v) := fun v => goodSpan_any p n v
  cases hs : spanR p n
  · rw [hs] at HW
    clear hs
    go_enter Try.func90, Try.ntmps90
    go_wp2_with (go_at_call 53; refine (HW.out _).mono ?_; rintro e w' ⟨rfl, rfl⟩)
    go_ret
    exact ⟨rfl, (Below.refl _ _).alloc (Nat.le_refl _) _⟩
  · have h4 := of_decide_eq_true hs
    rw [hs] at HW
    clear hs
    have hq : ∀ b, decide ((D.size : Int) = 2 * n) = b → ((D.size : Int) == 2 * n) = b := fun b hb => by rw [← hb]; rfl
    cases hb : decide ((D.size : Int) = 2 * n)
    all_goals
      have hq' := hq _ hb
      clear hq hb
      go_enter Try.func90, Try.ntmps90
      go_wp2_with (go_at_call 53; refine (HW.out _).mono ?_; rintro e w' ⟨rfl, rfl⟩)
      go_ret
      exact ⟨rfl, (Below.refl _ _).alloc (Nat.le_refl _) _⟩
set_option maxHeartbeats 400000 in
theorem tgood_any (p n : Int) (w : World) : Calls Try.prog 92 #[.agg #[.int .i64 p, .int .i64 n]] w fun e w' => e = .returned (.bool (spanR p n)) ∧ Below w.heap.size w w' := by
  have HW : Hid (∀ v, Calls Try.prog 53 #[.int .i64 p, .int .i64 n] v fun e w' => e = .returned (.bool (spanR p n)) ∧ w' = v) := fun v => goodSpan_any p n v
  go_enter Try.func92, Try.ntmps92
  go_wp2_with (go_at_call 53; refine (HW.out _).mono ?_; rintro e w' ⟨rfl, rfl⟩)
  go_ret
  exact ⟨rfl, (Below.refl _ _).alloc (Nat.le_refl _) _⟩
def markR (p : Int) : Bool := decide (0 ≤ p ∧ p ≤ 200)
set_option maxHeartbeats 400000 in
theorem mgood_any (p : Int) (w : World) : Calls Try.prog 94 #[.agg #[.int .i64 p]] w fun e w' => e = .returned (.bool (markR p)) ∧ Below w.heap.size w w' := by
  by_cases h1 : 0 ≤ p
  · have d1 : decide (0 ≤ p) = true := decide_eq_true h1
    by_cases h2 : p ≤ 200
    · have d2 : decide (p ≤ 200) = true := decide_eq_true h2
      rw [show markR p = true from decide_eq_true ⟨h1, h2⟩]
      go_enter Try.func94, Try.ntmps94
      go_wp2
      go_ret
      exact ⟨rfl, (Below.refl _ _).alloc (Nat.le_refl _) _⟩
    · have d2 : decide (p ≤ 200) = false := decide_eq_false h2
      rw [show markR p = false from decide_eq_false (fun h => h2 h.2)]
      go_enter Try.func94, Try.ntmps94
      go_wp2
      go_ret
      exact ⟨rfl, (Below.refl _ _).alloc (Nat.le_refl _) _⟩
  · have d1 : decide (0 ≤ p) = false := decide_eq_false h1
    rw [show markR p = false from decide_eq_false (fun h => h1 h.1)]
    go_enter Try.func94, Try.ntmps94
    go_wp2
    go_ret
    exact ⟨rfl, (Below.refl _ _).alloc (Nat.le_refl _) _⟩
set_option maxHeartbeats 400000 in
theorem wrec_any (p n : Int) (D : ByteArray) (w : World) : Calls Try.prog 91 #[.agg #[.int .i64 p, .int .i64 n, .string D]] w fun e w' => e = .returned (.agg #[.int .i64 1, .int .i64 p, .int .i64 n, .string D]) ∧ Below w.heap.size w w' := by
  go_enter Try.func91, Try.ntmps91
  go_wp2
  refine bodyPost_ret (v := .agg #[.int .i64 1, .int .i64 p, .int .i64 n, .string D]) (by simp [results, Try.results91, go_sem]) rfl ⟨rfl, ?_⟩
  exact ((Below.refl _ _).alloc (Nat.le_refl _) _).alloc (by simp) _
set_option maxHeartbeats 400000 in
theorem trec_any (p n : Int) (w : World) : Calls Try.prog 93 #[.agg #[.int .i64 p, .int .i64 n]] w fun e w' => e = .returned (.agg #[.int .i64 2, .int .i64 p, .int .i64 n, .string ⟨#[]⟩]) ∧ Below w.heap.size w w' := by
  go_enter Try.func93, Try.ntmps93
  go_wp2
  refine bodyPost_ret (v := .agg #[.int .i64 2, .int .i64 p, .int .i64 n, .string ⟨#[]⟩]) (by simp [results, Try.results93, go_sem]) rfl ⟨rfl, ?_⟩
  exact ((Below.refl _ _).alloc (Nat.le_refl _) _).alloc (by simp) _
set_option maxHeartbeats 400000 in
theorem mrec_any (p : Int) (w : World) : Calls Try.prog 95 #[.agg #[.int .i64 p]] w fun e w' => e = .returned (.agg #[.int .i64 3, .int .i64 p, .int .i64 0, .string ⟨#[]⟩]) ∧ Below w.heap.size w w' := by
  go_enter Try.func95, Try.ntmps95
  go_wp2
  refine bodyPost_ret (v := .agg #[.int .i64 3, .int .i64 p, .int .i64 0, .string ⟨#[]⟩]) (by simp [results, Try.results95, go_sem]) rfl ⟨rfl, ?_⟩
  exact ((Below.refl _ _).alloc (Nat.le_refl _) _).alloc (by simp) _
set_option maxHeartbeats 400000 in
theorem change_other (k p n : Int) (D : ByteArray) (w : World) (k1 : k ≠ 1) (k2 : k ≠ 2) (k3 : k ≠ 3) : Calls Try.prog 39 #[.agg #[.int .i64 k, .int .i64 p, .int .i64 n, .string D]] w fun e w' => e = .returned (.tuple #[.nilIface, .bool false]) ∧ Below w.heap.size w w' := by
  have q1 : (k == 1) = false := by rw [beq_eq_false_iff_ne]; exact k1
  have q2 : (k == 2) = false := by rw [beq_eq_false_iff_ne]; exact k2
  have q3 : (k == 3) = false := by rw [beq_eq_false_iff_ne]; exact k3
  clear k1 k2 k3
  go_enter Try.func39, Try.ntmps39
  go_wp2
  go_ret2
  exact ⟨rfl, (Below.refl _ _).alloc (Nat.le_refl _) _⟩
end Go.Proofs.Ytlbhfgcpflhccaa

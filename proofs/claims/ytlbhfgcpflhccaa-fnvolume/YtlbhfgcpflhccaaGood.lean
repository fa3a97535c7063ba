/- Walks of the model's GoodRecord. -/
import Derived.Test.YtlbhfgcpflhccaaIn
import Derived.Test.YtlbhfgcpflhccaaR
namespace Go.Proofs.Ytlbhfgcpflhccaa
set_option maxRecDepth 100000
open Go.ChangeShapes Go.WideShapes Go.ChangeAt Go.RowKit G00541
theorem ret_bool {a b : Bool} (h : a = b) : Ending.returned (.bool a) = .returned (.bool b) := by rw [h]
theorem span_yes {p n : Int} (h : 1 ≤ n ∧ n ≤ 4 ∧ 0 ≤ p ∧ p ≤ 16 - n) : spanR p n = true := decide_eq_true h
theorem span_no {p n : Int} (h : ¬ (1 ≤ n ∧ n ≤ 4 ∧ 0 ≤ p ∧ p ≤ 16 - n)) : spanR p n = false := decide_eq_false h
theorem empty_iff (D : ByteArray) : D.toList = [] ↔ D.data.toList = [] := by rw [ByteArray.toList_eq]
theorem not_empty {D : ByteArray} (h : ¬ D.data.toList = []) : D.toList.isEmpty = false := by
  cases hq : D.toList.isEmpty
  · rfl
  · exact absurd ((empty_iff D).1 (List.isEmpty_iff.1 hq)) h
set_option maxHeartbeats 400000 in
theorem where_any (k p n : Int) (D : ByteArray) (w : World) : Calls Try.prog 69 #[.agg #[.int .i64 k, .int .i64 p, .int .i64 n, .string D]] w fun e w' => e = .returned (.bool (spanR p n)) ∧ Below w.heap.size w w' := by
  by_cases h1 : 1 ≤ n ∧ n ≤ 4
  · obtain ⟨h1, h2⟩ := h1
    by_cases h3 : 0 ≤ p ∧ p ≤ 16 - n
    · rw [span_yes ⟨h1, h2, h3.1, h3.2⟩]
      obtain ⟨h3, h4⟩ := h3
      go_enter Try.func69, Try.ntmps69
      go_wp2_with (go_at_call 51; refine (l1In_yes _ _ _ _ (by omega) (by omega)).mono ?_; rintro e w' ⟨rfl, rfl⟩)
      go_ret
      exact ⟨rfl, (Below.refl _ _).alloc (Nat.le_refl _) _⟩
    · rw [span_no (fun h => h3 ⟨h.2.2.1, h.2.2.2⟩)]
      have h4 : p < 0 ∨ 16 - n < p := by omega
      clear h3
      go_enter Try.func69, Try.ntmps69
      go_wp2_with fail
      refine (l1In_yes _ _ _ _ (by omega) (by omega)).mono ?_
      rintro e w' ⟨rfl, rfl⟩
      go_wp2_with fail
      refine (l1In_no _ _ _ _ h4).mono ?_
      rintro e w' ⟨rfl, rfl⟩
      go_wp2
      go_ret
      exact ⟨rfl, (Below.refl _ _).alloc (Nat.le_refl _) _⟩
  · rw [span_no (fun h => h1 ⟨h.1, h.2.1⟩)]
    have h4 : n < 1 ∨ 4 < n := by omega
    clear h1
    go_enter Try.func69, Try.ntmps69
    go_wp2_with fail
    refine (l1In_no _ _ _ _ h4).mono ?_
    rintro e w' ⟨rfl, rfl⟩
    go_wp2
    go_ret
    exact ⟨rfl, (Below.refl _ _).alloc (Nat.le_refl _) _⟩
theorem good_one {p n : Int} {d : List UInt8} : goodR ⟨1, p, n, d⟩ = (spanR p n && decide ((d.length : Int) = 2 * n)) := rfl
theorem good_two {p n : Int} {d : List UInt8} : goodR ⟨2, p, n, d⟩ = (spanR p n && decide (d = [])) := rfl
theorem good_three {p n : Int} {d : List UInt8} : goodR ⟨3, p, n, d⟩ = decide (0 ≤ p ∧ p ≤ 200 ∧ n = 0 ∧ d = []) := rfl
theorem good_other {k p n : Int} {d : List UInt8} (h1 : k ≠ 1) (h2 : k ≠ 2) (h3 : k ≠ 3) : goodR ⟨k, p, n, d⟩ = false := by
  unfold goodR
  rw [if_neg h1, if_neg h2, if_neg h3]
theorem below_in {w w' : World} {o : Obj} (b : Below (w.alloc o).heap.size (w.alloc o) w') : Below w.heap.size w w' := ((Below.refl _ _).alloc (Nat.le_refl _) _).trans (b.mono (by simp))
set_option maxHeartbeats 400000 in
theorem sgood_out (k p n : Int) (D : ByteArray) (w : World) (hk : k = 1 ∨ k = 2) (hs : spanR p n = false) : Calls Try.prog 57 #[.agg #[.int .i64 k, .int .i64 p, .int .i64 n, .string D]] w fun e w' => e = .returned (.bool false) ∧ Below w.heap.size w w' := by
  have HW : Hid (∀ v, Calls Try.prog 69 #[.agg #[.int .i64 k, .int .i64 p, .int .i64 n, .string D]] v fun e w' => e = .returned (.bool false) ∧ Below v.heap.size v w') := fun v => by rw [← hs]; exact where_any k p n D v
  clear hs
  rcases hk with rfl | rfl
  all_goals
    go_enter Try.func57, Try.ntmps57
    go_wp2_with fail
    refine (HW.out _).mono ?_
    rintro e w1 ⟨rfl, b1⟩
    have HB : Hid (Below w.heap.size w w1) := below_in b1
    clear b1
    go_wp2
    go_ret
    exact ⟨rfl, HB.out⟩
set_option maxHeartbeats 400000 in
theorem sgood_one (p n : Int) (D : ByteArray) (w : World) (hs : spanR p n = true) (b : Bool) (hb : decide ((D.size : Int) = 2 * n) = b) : Calls Try.prog 57 #[.agg #[.int .i64 1, .int .i64 p, .int .i64 n, .string D]] w fun e w' => e = .returned (.bool b) ∧ Below w.heap.size w w' := by
  have h4 := of_decide_eq_true hs
  have HW : Hid (∀ v, Calls Try.prog 69 #[.agg #[.int .i64 1, .int .i64 p, .int .i64 n, .string D]] v fun e w' => e = .returned (.bool true) ∧ Below v.heap.size v w') := fun v => by rw [← hs]; exact where_any 1 p n D v
  have hq : ((D.size : Int) == 2 * n) = b := by rw [← hb]; rfl
  clear hs hb
  go_enter Try.func57, Try.ntmps57
  go_wp2_with fail
  refine (HW.out _).mono ?_
  rintro e w1 ⟨rfl, b1⟩
  have c2 : w1.cell? ⟨w.heap.size, 2, none⟩ = some (.int .i64 n) := by rw [b1.cell (p := ⟨w.heap.size, 2, none⟩) (by simp)]; go_simp
  have c3 : w1.cell? ⟨w.heap.size, 3, none⟩ = some (.string D) := by rw [b1.cell (p := ⟨w.heap.size, 3, none⟩) (by simp)]; go_simp
  have HB : Hid (Below w.heap.size w w1) := below_in b1
  clear b1
  go_wp2
  go_ret
  exact ⟨rfl, HB.out⟩
set_option maxHeartbeats 400000 in
theorem sgood_two (p n : Int) (D : ByteArray) (w : World) (hs : spanR p n = true) (b : Bool) (hb : decide (D.data.toList = []) = b) : Calls Try.prog 57 #[.agg #[.int .i64 2, .int .i64 p, .int .i64 n, .string D]] w fun e w' => e = .returned (.bool b) ∧ Below w.heap.size w w' := by
  have HW : Hid (∀ v, Calls Try.prog 69 #[.agg #[.int .i64 2, .int .i64 p, .int .i64 n, .string D]] v fun e w' => e = .returned (.bool true) ∧ Below v.heap.size v w') := fun v => by rw [← hs]; exact where_any 2 p n D v
  clear hs
  cases b
  · have hq := not_empty (of_decide_eq_false hb)
    clear hb
    go_enter Try.func57, Try.ntmps57
    go_wp2_with fail
    refine (HW.out _).mono ?_
    rintro e w1 ⟨rfl, b1⟩
    have c3 : w1.cell? ⟨w.heap.size, 3, none⟩ = some (.string D) := by rw [b1.cell (p := ⟨w.heap.size, 3, none⟩) (by simp)]; go_simp
    have HB : Hid (Below w.heap.size w w1) := below_in b1
    clear b1
    go_wp2
    go_ret
    exact ⟨rfl, HB.out⟩
  · have hq : D.toList = [] := (empty_iff D).2 (of_decide_eq_true hb)
    clear hb
    go_enter Try.func57, Try.ntmps57
    go_wp2_with fail
    refine (HW.out _).mono ?_
    rintro e w1 ⟨rfl, b1⟩
    have c3 : w1.cell? ⟨w.heap.size, 3, none⟩ = some (.string D) := by rw [b1.cell (p := ⟨w.heap.size, 3, none⟩) (by simp)]; go_simp
    have HB : Hid (Below w.heap.size w w1) := below_in b1
    clear b1
    go_wp2
    go_ret
    exact ⟨rfl, HB.out⟩
set_option maxHeartbeats 400000 in
theorem sgood_three (p n : Int) (D : ByteArray) (w : World) : Calls Try.prog 57 #[.agg #[.int .i64 3, .int .i64 p, .int .i64 n, .string D]] w fun e w' => e = .returned (.bool (goodR ⟨3, p, n, D.data.toList⟩)) ∧ Below w.heap.size w w' := by
  rw [good_three]
  by_cases hp : 0 ≤ p ∧ p ≤ 200
  · by_cases hn : n = 0
    · subst hn
      by_cases hd : D.data.toList = []
      · have hq : D.toList = [] := (empty_iff D).2 hd
        rw [decide_eq_true ⟨hp.1, hp.2, rfl, hd⟩]
        clear hd
        go_enter Try.func57, Try.ntmps57
        go_wp2_with (go_at_call 51; refine (l1In_yes _ _ _ _ hp.1 hp.2).mono ?_; rintro e w' ⟨rfl, rfl⟩)
        go_ret
        exact ⟨rfl, (Below.refl _ _).alloc (Nat.le_refl _) _⟩
      · have hq := not_empty hd
        rw [decide_eq_false (fun h => hd h.2.2.2)]
        clear hd
        go_enter Try.func57, Try.ntmps57
        go_wp2_with (go_at_call 51; refine (l1In_yes _ _ _ _ hp.1 hp.2).mono ?_; rintro e w' ⟨rfl, rfl⟩)
        go_ret
        exact ⟨rfl, (Below.refl _ _).alloc (Nat.le_refl _) _⟩
    · have hq : (n == 0) = false := by rw [beq_eq_false_iff_ne]; exact hn
      rw [decide_eq_false (fun h => hn h.2.2.1)]
      go_enter Try.func57, Try.ntmps57
      go_wp2_with (go_at_call 51; refine (l1In_yes _ _ _ _ hp.1 hp.2).mono ?_; rintro e w' ⟨rfl, rfl⟩)
      go_ret
      exact ⟨rfl, (Below.refl _ _).alloc (Nat.le_refl _) _⟩
  · rw [decide_eq_false (fun h => hp ⟨h.1, h.2.1⟩)]
    have h4 : p < 0 ∨ 200 < p := by omega
    clear hp
    go_enter Try.func57, Try.ntmps57
    go_wp2_with (go_at_call 51; refine (l1In_no _ _ _ _ h4).mono ?_; rintro e w' ⟨rfl, rfl⟩)
    go_ret
    exact ⟨rfl, (Below.refl _ _).alloc (Nat.le_refl _) _⟩
set_option maxHeartbeats 400000 in
theorem sgood_other (k p n : Int) (D : ByteArray) (w : World) (k1 : k ≠ 1) (k2 : k ≠ 2) (k3 : k ≠ 3) : Calls Try.prog 57 #[.agg #[.int .i64 k, .int .i64 p, .int .i64 n, .string D]] w fun e w' => e = .returned (.bool false) ∧ Below w.heap.size w w' := by
  have q1 : (k == 1) = false := by rw [beq_eq_false_iff_ne]; exact k1
  have q2 : (k == 2) = false := by rw [beq_eq_false_iff_ne]; exact k2
  have q3 : (k == 3) = false := by rw [beq_eq_false_iff_ne]; exact k3
  clear k1 k2 k3
  go_enter Try.func57, Try.ntmps57
  go_wp2
  go_ret
  exact ⟨rfl, (Below.refl _ _).alloc (Nat.le_refl _) _⟩
theorem sgood_any (k p n : Int) (D : ByteArray) (w : World) : Calls Try.prog 57 #[.agg #[.int .i64 k, .int .i64 p, .int .i64 n, .string D]] w fun e w' => e = .returned (.bool (goodR ⟨k, p, n, D.data.toList⟩)) ∧ Below w.heap.size w w' := by
  by_cases k1 : k = 1
  · subst k1
    rw [good_one, bytes_size]
    cases hs : spanR p n
    · exact sgood_out 1 p n D w (Or.inl rfl) hs
    · exact sgood_one p n D w hs _ rfl
  by_cases k2 : k = 2
  · subst k2
    rw [good_two]
    cases hs : spanR p n
    · exact sgood_out 2 p n D w (Or.inr rfl) hs
    · exact sgood_two p n D w hs _ rfl
  by_cases k3 : k = 3
  · subst k3
    exact sgood_three p n D w
  · rw [good_other k1 k2 k3]
    exact sgood_other k p n D w k1 k2 k3
end Go.Proofs.Ytlbhfgcpflhccaa

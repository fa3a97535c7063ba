/- Walks of the program's changeOf. -/
import Derived.Test.YtlbhfgcpflhccaaIRec
namespace Go.Proofs.Ytlbhfgcpflhccaa
set_option maxRecDepth 100000
open Go.ChangeShapes Go.WideShapes Go.ChangeAt Go.RowKit G00541
theorem meth_wg (p n : Int) (D : ByteArray) (w : World) : (method 231 94 (.agg #[.int .i64 p, .int .i64 n, .string D]) "loop.example/g00541/impl.good").run Try.prog w = .ok (90, .agg #[.int .i64 p, .int .i64 n, .string D]) w := by kernel_rfl
theorem meth_wr (p n : Int) (D : ByteArray) (w : World) : (method 231 94 (.agg #[.int .i64 p, .int .i64 n, .string D]) "loop.example/g00541/impl.record").run Try.prog w = .ok (91, .agg #[.int .i64 p, .int .i64 n, .string D]) w := by kernel_rfl
set_option maxHeartbeats 1000000 in
theorem change_one_no (p n : Int) (D : ByteArray) (w : World) (h : goodR ⟨1, p, n, D.data.toList⟩ = false) : Calls Try.prog 39 #[.agg #[.int .i64 1, .int .i64 p, .int .i64 n, .string D]] w fun e w' => e = .returned (.tuple #[.iface 94 (.agg #[.int .i64 p, .int .i64 n, .string D]), .bool false]) ∧ Below w.heap.size w w' := by
  have HG : Hid (∀ v, Calls Try.prog 90 #[.agg #[.int .i64 p, .int .i64 n, .string D]] v fun e w' => e = .returned (.bool false) ∧ Below v.heap.size v w') := fun v => by rw [← h]; exact wgood_any p n D v
  have hm := meth_wg p n D
  clear h
  go_enter Try.func39, Try.ntmps39
  go_wp2_with fail
  first | go_region_with (go_at_call 90; refine (HG.out _).mono ?_; rintro e w1 ⟨rfl, b1⟩) | fail
  all_goals
    have HB : Hid (Below w.heap.size w w1) := below_in (show Below (w.alloc (.cells #[.int .i64 1, .int .i64 p, .int .i64 n, .string D] 37)).heap.size (w.alloc (.cells #[.int .i64 1, .int .i64 p, .int .i64 n, .string D] 37)) w1 from ⟨b1.os, b1.tape, b1.output, b1.size, b1.block⟩)
    clear b1
    go_wp2
    go_ret2
    exact ⟨rfl, HB.out⟩
set_option maxHeartbeats 2000000 in
theorem change_one_yes (p n : Int) (D : ByteArray) (w : World) (h : goodR ⟨1, p, n, D.data.toList⟩ = true)  : Calls Try.prog 39 #[.agg #[.int .i64 1, .int .i64 p, .int .i64 n, .string D]] w fun e w' => e = .returned (.tuple #[.iface 94 (.agg #[.int .i64 p, .int .i64 n, .string D]), .bool true]) ∧ Below w.heap.size w w' := by
  have HG : Hid (∀ v, Calls Try.prog 90 #[.agg #[.int .i64 p, .int .i64 n, .string D]] v fun e w' => e = .returned (.bool true) ∧ Below v.heap.size v w') := fun v => by rw [← h]; exact wgood_any p n D v
  have hm := meth_wg p n D
  have hr := meth_wr p n D
  clear h
  go_enter Try.func39, Try.ntmps39
  go_wp2_with fail
  first | go_region_with (first | (go_at_call 90; refine (HG.out _).mono ?_; rintro e w1 ⟨rfl, b1⟩; have c0 := (b1.cell (p := ⟨w.heap.size, 0, none⟩) (by go_simp)).trans (show _ = some (.int .i64 1) by go_simp); have c1 := (b1.cell (p := ⟨w.heap.size, 1, none⟩) (by go_simp)).trans (show _ = some (.int .i64 p) by go_simp); have c2 := (b1.cell (p := ⟨w.heap.size, 2, none⟩) (by go_simp)).trans (show _ = some (.int .i64 n) by go_simp); have c3 := (b1.cell (p := ⟨w.heap.size, 3, none⟩) (by go_simp)).trans (show _ = some (.string D) by go_simp)) | (go_at_call 91; refine (wrec_any p n D _).mono ?_; rintro e w2 ⟨rfl, b2⟩; have hlt := Nat.lt_of_lt_of_le (show w.heap.size < _ by go_simp) b1.size; have e0 := (b2.cell (p := ⟨w.heap.size, 0, none⟩) hlt).trans c0; have e1 := (b2.cell (p := ⟨w.heap.size, 1, none⟩) hlt).trans c1; have e2 := (b2.cell (p := ⟨w.heap.size, 2, none⟩) hlt).trans c2; have e3 := (b2.cell (p := ⟨w.heap.size, 3, none⟩) hlt).trans c3)) | fail
  all_goals
    have HB : Hid (Below w.heap.size w w2) := below_in ((show Below (w.alloc (.cells #[.int .i64 1, .int .i64 p, .int .i64 n, .string D] 37)).heap.size (w.alloc (.cells #[.int .i64 1, .int .i64 p, .int .i64 n, .string D] 37)) w1 from ⟨b1.os, b1.tape, b1.output, b1.size, b1.block⟩).trans (b2.mono (by simpa using b1.size)))
    clear b1 b2
    go_wp2
    go_ret2
    exact ⟨rfl, HB.out⟩
theorem meth_tg (p n : Int) (w : World) : (method 231 96 (.agg #[.int .i64 p, .int .i64 n]) "loop.example/g00541/impl.good").run Try.prog w = .ok (92, .agg #[.int .i64 p, .int .i64 n]) w := by kernel_rfl
theorem meth_tr (p n : Int) (w : World) : (method 231 96 (.agg #[.int .i64 p, .int .i64 n]) "loop.example/g00541/impl.record").run Try.prog w = .ok (93, .agg #[.int .i64 p, .int .i64 n]) w := by kernel_rfl
set_option maxHeartbeats 1000000 in
theorem change_two_no (p n : Int) (D : ByteArray) (w : World) (h : spanR p n = false) : Calls Try.prog 39 #[.agg #[.int .i64 2, .int .i64 p, .int .i64 n, .string D]] w fun e w' => e = .returned (.tuple #[.iface 96 (.agg #[.int .i64 p, .int .i64 n]), .bool false]) ∧ Below w.heap.size w w' := by
  have HG : Hid (∀ v, Calls Try.prog 92 #[.agg #[.int .i64 p, .int .i64 n]] v fun e w' => e = .returned (.bool false) ∧ Below v.heap.size v w') := fun v => by rw [← h]; exact tgood_any p n v
  have hm := meth_tg p n
  clear h
  go_enter Try.func39, Try.ntmps39
  go_wp2_with fail
  first | go_region_with (go_at_call 92; refine (HG.out _).mono ?_; rintro e w1 ⟨rfl, b1⟩) | fail
  all_goals
    have HB : Hid (Below w.heap.size w w1) := below_in (show Below (w.alloc (.cells #[.int .i64 2, .int .i64 p, .int .i64 n, .string D] 37)).heap.size (w.alloc (.cells #[.int .i64 2, .int .i64 p, .int .i64 n, .string D] 37)) w1 from ⟨b1.os, b1.tape, b1.output, b1.size, b1.block⟩)
    clear b1
    go_wp2
    go_ret2
    exact ⟨rfl, HB.out⟩
set_option maxHeartbeats 2000000 in
theorem change_two_yes (p n : Int) (D : ByteArray) (w : World) (h : spanR p n = true) (b : Bool) (hb : decide (D.data.toList = []) = b) : Calls Try.prog 39 #[.agg #[.int .i64 2, .int .i64 p, .int .i64 n, .string D]] w fun e w' => e = .returned (.tuple #[.iface 96 (.agg #[.int .i64 p, .int .i64 n]), .bool b]) ∧ Below w.heap.size w w' := by
  have HG : Hid (∀ v, Calls Try.prog 92 #[.agg #[.int .i64 p, .int .i64 n]] v fun e w' => e = .returned (.bool true) ∧ Below v.heap.size v w') := fun v => by rw [← h]; exact tgood_any p n v
  have hm := meth_tg p n
  have hr := meth_tr p n
  clear h
  cases b
  · have hq := not_empty (of_decide_eq_false hb)
    clear hb
    go_enter Try.func39, Try.ntmps39
    go_wp2_with fail
    first | go_region_with (first | (go_at_call 92; refine (HG.out _).mono ?_; rintro e w1 ⟨rfl, b1⟩; have c0 := (b1.cell (p := ⟨w.heap.size, 0, none⟩) (by go_simp)).trans (show _ = some (.int .i64 2) by go_simp); have c1 := (b1.cell (p := ⟨w.heap.size, 1, none⟩) (by go_simp)).trans (show _ = some (.int .i64 p) by go_simp); have c2 := (b1.cell (p := ⟨w.heap.size, 2, none⟩) (by go_simp)).trans (show _ = some (.int .i64 n) by go_simp); have c3 := (b1.cell (p := ⟨w.heap.size, 3, none⟩) (by go_simp)).trans (show _ = some (.string D) by go_simp)) | (go_at_call 93; refine (trec_any p n _).mono ?_; rintro e w2 ⟨rfl, b2⟩; have hlt := Nat.lt_of_lt_of_le (show w.heap.size < _ by go_simp) b1.size; have e0 := (b2.cell (p := ⟨w.heap.size, 0, none⟩) hlt).trans c0; have e1 := (b2.cell (p := ⟨w.heap.size, 1, none⟩) hlt).trans c1; have e2 := (b2.cell (p := ⟨w.heap.size, 2, none⟩) hlt).trans c2; have e3 := (b2.cell (p := ⟨w.heap.size, 3, none⟩) hlt).trans c3)) | fail
    all_goals
      have HB : Hid (Below w.heap.size w w2) := below_in ((show Below (w.alloc (.cells #[.int .i64 2, .int .i64 p, .int .i64 n, .string D] 37)).heap.size (w.alloc (.cells #[.int .i64 2, .int .i64 p, .int .i64 n, .string D] 37)) w1 from ⟨b1.os, b1.tape, b1.output, b1.size, b1.block⟩).trans (b2.mono (by simpa using b1.size)))
      clear b1 b2
      go_wp2
      go_ret2
      exact ⟨rfl, HB.out⟩
  · have hq : D.toList = [] := (empty_iff D).2 (of_decide_eq_true hb)
    clear hb
    go_enter Try.func39, Try.ntmps39
    go_wp2_with fail
    first | go_region_with (first | (go_at_call 92; refine (HG.out _).mono ?_; rintro e w1 ⟨rfl, b1⟩; have c0 := (b1.cell (p := ⟨w.heap.size, 0, none⟩) (by go_simp)).trans (show _ = some (.int .i64 2) by go_simp); have c1 := (b1.cell (p := ⟨w.heap.size, 1, none⟩) (by go_simp)).trans (show _ = some (.int .i64 p) by go_simp); have c2 := (b1.cell (p := ⟨w.heap.size, 2, none⟩) (by go_simp)).trans (show _ = some (.int .i64 n) by go_simp); have c3 := (b1.cell (p := ⟨w.heap.size, 3, none⟩) (by go_simp)).trans (show _ = some (.string D) by go_simp)) | (go_at_call 93; refine (trec_any p n _).mono ?_; rintro e w2 ⟨rfl, b2⟩; have hlt := Nat.lt_of_lt_of_le (show w.heap.size < _ by go_simp) b1.size; have e0 := (b2.cell (p := ⟨w.heap.size, 0, none⟩) hlt).trans c0; have e1 := (b2.cell (p := ⟨w.heap.size, 1, none⟩) hlt).trans c1; have e2 := (b2.cell (p := ⟨w.heap.size, 2, none⟩) hlt).trans c2; have e3 := (b2.cell (p := ⟨w.heap.size, 3, none⟩) hlt).trans c3)) | fail
    all_goals
      have HB : Hid (Below w.heap.size w w2) := below_in ((show Below (w.alloc (.cells #[.int .i64 2, .int .i64 p, .int .i64 n, .string D] 37)).heap.size (w.alloc (.cells #[.int .i64 2, .int .i64 p, .int .i64 n, .string D] 37)) w1 from ⟨b1.os, b1.tape, b1.output, b1.size, b1.block⟩).trans (b2.mono (by simpa using b1.size)))
      clear b1 b2
      go_wp2
      go_ret2
      exact ⟨rfl, HB.out⟩
theorem meth_mg (p : Int) (w : World) : (method 231 98 (.agg #[.int .i64 p]) "loop.example/g00541/impl.good").run Try.prog w = .ok (94, .agg #[.int .i64 p]) w := by kernel_rfl
theorem meth_mr (p : Int) (w : World) : (method 231 98 (.agg #[.int .i64 p]) "loop.example/g00541/impl.record").run Try.prog w = .ok (95, .agg #[.int .i64 p]) w := by kernel_rfl
set_option maxHeartbeats 1000000 in
theorem change_three_no (p n : Int) (D : ByteArray) (w : World) (h : markR p = false) : Calls Try.prog 39 #[.agg #[.int .i64 3, .int .i64 p, .int .i64 n, .string D]] w fun e w' => e = .returned (.tuple #[.iface 98 (.agg #[.int .i64 p]), .bool false]) ∧ Below w.heap.size w w' := by
  have HG : Hid (∀ v, Calls Try.prog 94 #[.agg #[.int .i64 p]] v fun e w' => e = .returned (.bool false) ∧ Below v.heap.size v w') := fun v => by rw [← h]; exact mgood_any p v
  have hm := meth_mg p
  clear h
  go_enter Try.func39, Try.ntmps39
  go_wp2_with fail
  first | go_region_with (go_at_call 94; refine (HG.out _).mono ?_; rintro e w1 ⟨rfl, b1⟩) | fail
  all_goals
    have HB : Hid (Below w.heap.size w w1) := below_in (show Below (w.alloc (.cells #[.int .i64 3, .int .i64 p, .int .i64 n, .string D] 37)).heap.size (w.alloc (.cells #[.int .i64 3, .int .i64 p, .int .i64 n, .string D] 37)) w1 from ⟨b1.os, b1.tape, b1.output, b1.size, b1.block⟩)
    clear b1
    go_wp2
    go_ret2
    exact ⟨rfl, HB.out⟩
set_option maxHeartbeats 2000000 in
theorem change_three_yes (p n : Int) (D : ByteArray) (w : World) (h : markR p = true) (b : Bool) (hb : decide (n = 0 ∧ D.data.toList = []) = b) : Calls Try.prog 39 #[.agg #[.int .i64 3, .int .i64 p, .int .i64 n, .string D]] w fun e w' => e = .returned (.tuple #[.iface 98 (.agg #[.int .i64 p]), .bool b]) ∧ Below w.heap.size w w' := by
  have HG : Hid (∀ v, Calls Try.prog 94 #[.agg #[.int .i64 p]] v fun e w' => e = .returned (.bool true) ∧ Below v.heap.size v w') := fun v => by rw [← h]; exact mgood_any p v
  have hm := meth_mg p
  have hr := meth_mr p
  clear h
  by_cases hn : n = 0
  · subst hn
    cases b
    · have hq := not_empty (fun h => of_decide_eq_false hb ⟨rfl, h⟩)
      clear hb
      go_enter Try.func39, Try.ntmps39
      go_wp2_with fail
      first | go_region_with (first | (go_at_call 94; refine (HG.out _).mono ?_; rintro e w1 ⟨rfl, b1⟩; have c0 := (b1.cell (p := ⟨w.heap.size, 0, none⟩) (by go_simp)).trans (show _ = some (.int .i64 3) by go_simp); have c1 := (b1.cell (p := ⟨w.heap.size, 1, none⟩) (by go_simp)).trans (show _ = some (.int .i64 p) by go_simp); have c2 := (b1.cell (p := ⟨w.heap.size, 2, none⟩) (by go_simp)).trans (show _ = some (.int .i64 0) by go_simp); have c3 := (b1.cell (p := ⟨w.heap.size, 3, none⟩) (by go_simp)).trans (show _ = some (.string D) by go_simp)) | (go_at_call 95; refine (mrec_any p _).mono ?_; rintro e w2 ⟨rfl, b2⟩; have hlt := Nat.lt_of_lt_of_le (show w.heap.size < _ by go_simp) b1.size; have e0 := (b2.cell (p := ⟨w.heap.size, 0, none⟩) hlt).trans c0; have e1 := (b2.cell (p := ⟨w.heap.size, 1, none⟩) hlt).trans c1; have e2 := (b2.cell (p := ⟨w.heap.size, 2, none⟩) hlt).trans c2; have e3 := (b2.cell (p := ⟨w.heap.size, 3, none⟩) hlt).trans c3)) | fail
      all_goals
        have HB : Hid (Below w.heap.size w w2) := below_in ((show Below (w.alloc (.cells #[.int .i64 3, .int .i64 p, .int .i64 0, .string D] 37)).heap.size (w.alloc (.cells #[.int .i64 3, .int .i64 p, .int .i64 0, .string D] 37)) w1 from ⟨b1.os, b1.tape, b1.output, b1.size, b1.block⟩).trans (b2.mono (by simpa using b1.size)))
        clear b1 b2
        go_wp2
        go_ret2
        exact ⟨rfl, HB.out⟩
    · have hq : D.toList = [] := (empty_iff D).2 (of_decide_eq_true hb).2
      clear hb
      go_enter Try.func39, Try.ntmps39
      go_wp2_with fail
      first | go_region_with (first | (go_at_call 94; refine (HG.out _).mono ?_; rintro e w1 ⟨rfl, b1⟩; have c0 := (b1.cell (p := ⟨w.heap.size, 0, none⟩) (by go_simp)).trans (show _ = some (.int .i64 3) by go_simp); have c1 := (b1.cell (p := ⟨w.heap.size, 1, none⟩) (by go_simp)).trans (show _ = some (.int .i64 p) by go_simp); have c2 := (b1.cell (p := ⟨w.heap.size, 2, none⟩) (by go_simp)).trans (show _ = some (.int .i64 0) by go_simp); have c3 := (b1.cell (p := ⟨w.heap.size, 3, none⟩) (by go_simp)).trans (show _ = some (.string D) by go_simp)) | (go_at_call 95; refine (mrec_any p _).mono ?_; rintro e w2 ⟨rfl, b2⟩; have hlt := Nat.lt_of_lt_of_le (show w.heap.size < _ by go_simp) b1.size; have e0 := (b2.cell (p := ⟨w.heap.size, 0, none⟩) hlt).trans c0; have e1 := (b2.cell (p := ⟨w.heap.size, 1, none⟩) hlt).trans c1; have e2 := (b2.cell (p := ⟨w.heap.size, 2, none⟩) hlt).trans c2; have e3 := (b2.cell (p := ⟨w.heap.size, 3, none⟩) hlt).trans c3)) | fail
      all_goals
        have HB : Hid (Below w.heap.size w w2) := below_in ((show Below (w.alloc (.cells #[.int .i64 3, .int .i64 p, .int .i64 0, .string D] 37)).heap.size (w.alloc (.cells #[.int .i64 3, .int .i64 p, .int .i64 0, .string D] 37)) w1 from ⟨b1.os, b1.tape, b1.output, b1.size, b1.block⟩).trans (b2.mono (by simpa using b1.size)))
        clear b1 b2
        go_wp2
        go_ret2
        exact ⟨rfl, HB.out⟩
  · have hq : (0 == n) = false := by rw [beq_eq_false_iff_ne]; exact fun h => hn h.symm
    have hq2 : (n == 0) = false := by rw [beq_eq_false_iff_ne]; exact hn
    obtain rfl : b = false := by rw [← hb]; exact decide_eq_false (fun h => hn h.1)
    clear hb
    go_enter Try.func39, Try.ntmps39
    go_wp2_with fail
    first | go_region_with (first | (go_at_call 94; refine (HG.out _).mono ?_; rintro e w1 ⟨rfl, b1⟩; have c0 := (b1.cell (p := ⟨w.heap.size, 0, none⟩) (by go_simp)).trans (show _ = some (.int .i64 3) by go_simp); have c1 := (b1.cell (p := ⟨w.heap.size, 1, none⟩) (by go_simp)).trans (show _ = some (.int .i64 p) by go_simp); have c2 := (b1.cell (p := ⟨w.heap.size, 2, none⟩) (by go_simp)).trans (show _ = some (.int .i64 n) by go_simp); have c3 := (b1.cell (p := ⟨w.heap.size, 3, none⟩) (by go_simp)).trans (show _ = some (.string D) by go_simp)) | (go_at_call 95; refine (mrec_any p _).mono ?_; rintro e w2 ⟨rfl, b2⟩; have hlt := Nat.lt_of_lt_of_le (show w.heap.size < _ by go_simp) b1.size; have e0 := (b2.cell (p := ⟨w.heap.size, 0, none⟩) hlt).trans c0; have e1 := (b2.cell (p := ⟨w.heap.size, 1, none⟩) hlt).trans c1; have e2 := (b2.cell (p := ⟨w.heap.size, 2, none⟩) hlt).trans c2; have e3 := (b2.cell (p := ⟨w.heap.size, 3, none⟩) hlt).trans c3)) | fail
    all_goals
      have HB : Hid (Below w.heap.size w w2) := below_in ((show Below (w.alloc (.cells #[.int .i64 3, .int .i64 p, .int .i64 n, .string D] 37)).heap.size (w.alloc (.cells #[.int .i64 3, .int .i64 p, .int .i64 n, .string D] 37)) w1 from ⟨b1.os, b1.tape, b1.output, b1.size, b1.block⟩).trans (b2.mono (by simpa using b1.size)))
      clear b1 b2
      go_wp2
      go_ret2
      exact ⟨rfl, HB.out⟩
end Go.Proofs.Ytlbhfgcpflhccaa

/- The exact law of GoodRecord: its walk. -/
import Derived.Test.YtbbnbkofomaefaaHRec
import Derived.Test.YtbbnbkofomaefaaIGoodR
namespace Go.Proofs.Ytbbnbkofomaefaa
set_option maxRecDepth 100000
open Go.ChangeShapes Go.WideShapes Go.ChangeAt Go.RowKit G00541
set_option maxHeartbeats 1000000 in
theorem walk_GoodRecord (r : Rc) (w : World) (hz : r.data.length ≤ 9223372036854775807) :
    Calls Try.prog 3 #[rval r] w fun e w' => e = .returned (.bool true) ∧ Below w.heap.size w w' := by
  obtain ⟨k, p, n, d⟩ := r
  have hz' : (str d).size ≤ 9223372036854775807 := by rw [str_size]; exact hz
  show Calls Try.prog 3 #[.agg #[.int .i64 k, .int .i64 p, .int .i64 n, .string (str d)]] w _
  generalize str d = D at *
  clear hz
  have HG : Hid (∀ v, Calls Try.prog 7 #[.agg #[.int .i64 k, .int .i64 p, .int .i64 n, .string D]] v fun e w' => e = .returned (.bool (goodR ⟨k, p, n, D.data.toList⟩)) ∧ Below v.heap.size v w') := fun v => igood_any k p n D v
  have HS : Hid (∀ v, Calls Try.prog 5 #[.agg #[.int .i64 k, .int .i64 p, .int .i64 n, .string D]] v fun e w' => e = .returned (.bool (goodR ⟨k, p, n, D.data.toList⟩)) ∧ Below v.heap.size v w') := fun v => sgood_any k p n D v
  generalize goodR ⟨k, p, n, D.data.toList⟩ = g at *
  go_enter Try.func3, Try.ntmps3
  go_wp2_with fail
  refine (szRecord_any k p n D _ _ (by omega) (by omega) hz').mono ?_
  rintro e w1 ⟨⟨r, rfl, r1, hr⟩, b1⟩
  have c0 := (b1.cell (p := ⟨w.heap.size, 0, none⟩) (by simp)).trans (show _ = some (.int .i64 k) by go_simp)
  have c1 := (b1.cell (p := ⟨w.heap.size, 1, none⟩) (by simp)).trans (show _ = some (.int .i64 p) by go_simp)
  have c2 := (b1.cell (p := ⟨w.heap.size, 2, none⟩) (by simp)).trans (show _ = some (.int .i64 n) by go_simp)
  have c3 := (b1.cell (p := ⟨w.heap.size, 3, none⟩) (by simp)).trans (show _ = some (.string D) by go_simp)
  have hs1 := b1.size
  rw [heap_size] at hs1
  have HB1 : Hid (Below w.heap.size w w1) := below_in b1
  clear b1 hr
  by_cases r0 : 0 ≤ r
  case neg =>
    have hd1 : decide (r < 0) = true := by simp; omega
    go_wp2
    go_ret
    exact ⟨rfl, HB1.out⟩
  have hd1 : decide (r < 0) = false := by simp; omega
  go_wp2_with fail
  refine (toRecord_any k p n D _).mono ?_
  rintro e w2 ⟨rfl, b2⟩
  have hs2 := b2.size
  have e0 := (b2.cell (p := ⟨w.heap.size, 0, none⟩) (by show w.heap.size < _; omega)).trans c0
  have e1 := (b2.cell (p := ⟨w.heap.size, 1, none⟩) (by show w.heap.size < _; omega)).trans c1
  have e2 := (b2.cell (p := ⟨w.heap.size, 2, none⟩) (by show w.heap.size < _; omega)).trans c2
  have e3 := (b2.cell (p := ⟨w.heap.size, 3, none⟩) (by show w.heap.size < _; omega)).trans c3
  have HB2 : Hid (Below w.heap.size w w2) := HB1.out.trans (b2.mono (by omega))
  clear b2 c0 c1 c2 c3 HB1
  go_wp2_with fail
  refine (HS.out _).mono ?_
  rintro e w3 ⟨rfl, b3⟩
  have hs3 := b3.size
  have c0 := (b3.cell (p := ⟨w.heap.size, 0, none⟩) (by show w.heap.size < _; omega)).trans e0
  have c1 := (b3.cell (p := ⟨w.heap.size, 1, none⟩) (by show w.heap.size < _; omega)).trans e1
  have c2 := (b3.cell (p := ⟨w.heap.size, 2, none⟩) (by show w.heap.size < _; omega)).trans e2
  have c3 := (b3.cell (p := ⟨w.heap.size, 3, none⟩) (by show w.heap.size < _; omega)).trans e3
  have HB3 : Hid (Below w.heap.size w w3) := HB2.out.trans (b3.mono (by omega))
  clear b3 e0 e1 e2 e3 HB2
  go_wp2_with fail
  refine (toRecord_any k p n D _).mono ?_
  rintro e w4 ⟨rfl, b4⟩
  have hs4 := b4.size
  have HB4 : Hid (Below w.heap.size w w4) := HB3.out.trans (b4.mono (by omega))
  clear b4 c0 c1 c2 c3 HB3
  go_wp2_with fail
  refine (HG.out _).mono ?_
  rintro e w5 ⟨rfl, b5⟩
  have HB5 : Hid (Below w.heap.size w w5) := HB4.out.trans (b5.mono (by omega))
  clear b5 HB4
  go_wp2
  go_ret
  exact ⟨rfl, HB5.out⟩
end Go.Proofs.Ytbbnbkofomaefaa

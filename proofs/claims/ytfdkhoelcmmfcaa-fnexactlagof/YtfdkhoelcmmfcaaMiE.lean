/- Mirror held against each other: the laws' own walk. -/
import Derived.Test.YtfdkhoelcmmfcaaMiW
namespace Go.Proofs.Ytfdkhoelcmmfcaa
set_option maxRecDepth 100000
open Go Go.ChangeShapes Go.WideShapes Go.ChangeAt Go.RowKit
set_option maxHeartbeats 8000000 in
theorem eqMirror_same (A C : MiA) (X : Mi) (w : World) (hf : MiFit X) (h : MiR w.heap.size A X w) (g : MiR w.heap.size C X w) :
    Calls Try.prog 9 #[.agg #[.slice A.s X.S.length A.ks, .slice A.r X.R.length A.kr, .slice A.t X.st.length A.kt, .slice A.d X.dt.length A.kd, .int .i64 X.tx, .int .i64 X.he], .agg #[.slice C.s X.S.length C.ks, .slice C.r X.R.length C.kr, .slice C.t X.st.length C.kt, .slice C.d X.dt.length C.kd, .int .i64 X.tx, .int .i64 X.he]] w fun e w' => e = .returned (.bool true) ∧ Below w.heap.size w w' := by
  have HB0 : Hid (Below w.heap.size w ((w.alloc (.cells #[.slice A.s X.S.length A.ks, .slice A.r X.R.length A.kr, .slice A.t X.st.length A.kt, .slice A.d X.dt.length A.kd, .int .i64 X.tx, .int .i64 X.he] 28)).alloc (.cells #[.slice C.s X.S.length C.ks, .slice C.r X.R.length C.kr, .slice C.t X.st.length C.kt, .slice C.d X.dt.length C.kd, .int .i64 X.tx, .int .i64 X.he] 28))) := ((Below.refl _ _).alloc (Nat.le_refl _) _).alloc (by simp) _
  have HX0 : Hid (((w.alloc (.cells #[.slice A.s X.S.length A.ks, .slice A.r X.R.length A.kr, .slice A.t X.st.length A.kt, .slice A.d X.dt.length A.kd, .int .i64 X.tx, .int .i64 X.he] 28)).alloc (.cells #[.slice C.s X.S.length C.ks, .slice C.r X.R.length C.kr, .slice C.t X.st.length C.kt, .slice C.d X.dt.length C.kd, .int .i64 X.tx, .int .i64 X.he] 28)).heap[w.heap.size]? = some (.cells #[.slice A.s X.S.length A.ks, .slice A.r X.R.length A.kr, .slice A.t X.st.length A.kt, .slice A.d X.dt.length A.kd, .int .i64 X.tx, .int .i64 X.he] 28)) := heap_mid2 _ _ _
  have HY0 : Hid (((w.alloc (.cells #[.slice A.s X.S.length A.ks, .slice A.r X.R.length A.kr, .slice A.t X.st.length A.kt, .slice A.d X.dt.length A.kd, .int .i64 X.tx, .int .i64 X.he] 28)).alloc (.cells #[.slice C.s X.S.length C.ks, .slice C.r X.R.length C.kr, .slice C.t X.st.length C.kt, .slice C.d X.dt.length C.kd, .int .i64 X.tx, .int .i64 X.he] 28)).heap[w.heap.size + 1]? = some (.cells #[.slice C.s X.S.length C.ks, .slice C.r X.R.length C.kr, .slice C.t X.st.length C.kt, .slice C.d X.dt.length C.kd, .int .i64 X.tx, .int .i64 X.he] 28)) := heap_last2 _ _ _
  have HZ : Hid (∀ v, Below w.heap.size w v → MiR v.heap.size A X v ∧ MiR v.heap.size C X v) := fun v b => ⟨(h.below b).mono b.size, (g.below b).mono b.size⟩
  have HF := hid hf
  clear h g hf
  go_enter Try.func9, Try.ntmps9
  go_wp2_with fail
  generalize ((w.alloc (.cells #[.slice A.s X.S.length A.ks, .slice A.r X.R.length A.kr, .slice A.t X.st.length A.kt, .slice A.d X.dt.length A.kd, .int .i64 X.tx, .int .i64 X.he] 28)).alloc (.cells #[.slice C.s X.S.length C.ks, .slice C.r X.R.length C.kr, .slice C.t X.st.length C.kt, .slice C.d X.dt.length C.kd, .int .i64 X.tx, .int .i64 X.he] 28)) = v0 at *
  refine (eqMarks_same A.s C.s A.ks C.ks X.S v0 HF.out.s (HZ.out _ HB0.out).1.s (HZ.out _ HB0.out).2.s).mono ?_
  rintro e v1 ⟨rfl, b⟩
  have HB1 : Hid (Below w.heap.size w v1) := HB0.out.trans (b.mono HB0.out.size)
  have HX1 := hid ((b.block _ (kbox HX0.out)).trans HX0.out)
  have HY1 := hid ((b.block _ (kbox HY0.out)).trans HY0.out)
  clear b HB0 HX0 HY0
  have x1 : v1.cell? ⟨w.heap.size, 1, none⟩ = some (.slice A.r X.R.length A.kr) := box_cell HX1.out 1
  have y1 : v1.cell? ⟨w.heap.size + 1, 1, none⟩ = some (.slice C.r X.R.length C.kr) := box_cell HY1.out 1
  go_wp2_with fail
  refine (eqMarks_same A.r C.r A.kr C.kr X.R v1 HF.out.r (HZ.out _ HB1.out).1.r (HZ.out _ HB1.out).2.r).mono ?_
  rintro e v2 ⟨rfl, b⟩
  have HB2 : Hid (Below w.heap.size w v2) := HB1.out.trans (b.mono HB1.out.size)
  have HX2 := hid ((b.block _ (kbox HX1.out)).trans HX1.out)
  have HY2 := hid ((b.block _ (kbox HY1.out)).trans HY1.out)
  clear b HB1 HX1 HY1 x1 y1
  have x2 : v2.cell? ⟨w.heap.size, 2, none⟩ = some (.slice A.t X.st.length A.kt) := box_cell HX2.out 2
  have y2 : v2.cell? ⟨w.heap.size + 1, 2, none⟩ = some (.slice C.t X.st.length C.kt) := box_cell HY2.out 2
  go_wp2_with fail
  refine (eqIntS_same A.t C.t A.kt C.kt X.st v2 HF.out.t (HZ.out _ HB2.out).1.t (HZ.out _ HB2.out).2.t).mono ?_
  rintro e v3 ⟨rfl, b⟩
  have HB3 : Hid (Below w.heap.size w v3) := HB2.out.trans (b.mono HB2.out.size)
  have HX3 := hid ((b.block _ (kbox HX2.out)).trans HX2.out)
  have HY3 := hid ((b.block _ (kbox HY2.out)).trans HY2.out)
  clear b HB2 HX2 HY2 x2 y2
  have x3 : v3.cell? ⟨w.heap.size, 3, none⟩ = some (.slice A.d X.dt.length A.kd) := box_cell HX3.out 3
  have y3 : v3.cell? ⟨w.heap.size + 1, 3, none⟩ = some (.slice C.d X.dt.length C.kd) := box_cell HY3.out 3
  go_wp2_with fail
  refine (eqStringS_same A.d C.d A.kd C.kd X.dt v3 HF.out.d (HZ.out _ HB3.out).1.d (HZ.out _ HB3.out).2.d).mono ?_
  rintro e v4 ⟨rfl, b⟩
  have HB4 : Hid (Below w.heap.size w v4) := HB3.out.trans (b.mono HB3.out.size)
  have HX4 := hid ((b.block _ (kbox HX3.out)).trans HX3.out)
  have HY4 := hid ((b.block _ (kbox HY3.out)).trans HY3.out)
  clear b HB3 HX3 HY3 x3 y3
  have x4 : v4.cell? ⟨w.heap.size, 4, none⟩ = some (.int .i64 X.tx) := box_cell HX4.out 4
  have y4 : v4.cell? ⟨w.heap.size + 1, 4, none⟩ = some (.int .i64 X.tx) := box_cell HY4.out 4
  have x5 : v4.cell? ⟨w.heap.size, 5, none⟩ = some (.int .i64 X.he) := box_cell HX4.out 5
  have y5 : v4.cell? ⟨w.heap.size + 1, 5, none⟩ = some (.int .i64 X.he) := box_cell HY4.out 5
  go_wp2_with fail
  go_ret
  exact ⟨rfl, HB4.out⟩
end Go.Proofs.Ytfdkhoelcmmfcaa

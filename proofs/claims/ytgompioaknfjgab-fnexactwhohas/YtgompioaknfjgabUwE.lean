/- Works held against each other: the laws' own walk. -/
import Derived.Test.YtgompioaknfjgabUwW
namespace Go.Proofs.Ytgompioaknfjgab
set_option maxRecDepth 100000
open Go Go.ChangeShapes Go.WideShapes Go.ChangeAt Go.RowKit
set_option maxHeartbeats 8000000 in
theorem eqWorks_same (A C : UwA) (X : Uw) (w : World) (hf : UwFit X) (h : UwR w.heap.size A X w) (g : UwR w.heap.size C X w) :
    Calls Try.prog 8 #[.agg #[.slice A.c X.cl.length A.kc, .slice A.d X.dk.length A.kd, .slice A.l X.lg.length A.kl, .int .i64 X.sr, .slice A.o X.op.length A.ko], .agg #[.slice C.c X.cl.length C.kc, .slice C.d X.dk.length C.kd, .slice C.l X.lg.length C.kl, .int .i64 X.sr, .slice C.o X.op.length C.ko]] w fun e w' => e = .returned (.bool true) ∧ Below w.heap.size w w' := by
  have HB0 : Hid (Below w.heap.size w ((w.alloc (.cells #[.slice A.c X.cl.length A.kc, .slice A.d X.dk.length A.kd, .slice A.l X.lg.length A.kl, .int .i64 X.sr, .slice A.o X.op.length A.ko] 31)).alloc (.cells #[.slice C.c X.cl.length C.kc, .slice C.d X.dk.length C.kd, .slice C.l X.lg.length C.kl, .int .i64 X.sr, .slice C.o X.op.length C.ko] 31))) := ((Below.refl _ _).alloc (Nat.le_refl _) _).alloc (by simp) _
  have HX0 : Hid (((w.alloc (.cells #[.slice A.c X.cl.length A.kc, .slice A.d X.dk.length A.kd, .slice A.l X.lg.length A.kl, .int .i64 X.sr, .slice A.o X.op.length A.ko] 31)).alloc (.cells #[.slice C.c X.cl.length C.kc, .slice C.d X.dk.length C.kd, .slice C.l X.lg.length C.kl, .int .i64 X.sr, .slice C.o X.op.length C.ko] 31)).heap[w.heap.size]? = some (.cells #[.slice A.c X.cl.length A.kc, .slice A.d X.dk.length A.kd, .slice A.l X.lg.length A.kl, .int .i64 X.sr, .slice A.o X.op.length A.ko] 31)) := heap_mid2 _ _ _
  have HY0 : Hid (((w.alloc (.cells #[.slice A.c X.cl.length A.kc, .slice A.d X.dk.length A.kd, .slice A.l X.lg.length A.kl, .int .i64 X.sr, .slice A.o X.op.length A.ko] 31)).alloc (.cells #[.slice C.c X.cl.length C.kc, .slice C.d X.dk.length C.kd, .slice C.l X.lg.length C.kl, .int .i64 X.sr, .slice C.o X.op.length C.ko] 31)).heap[w.heap.size + 1]? = some (.cells #[.slice C.c X.cl.length C.kc, .slice C.d X.dk.length C.kd, .slice C.l X.lg.length C.kl, .int .i64 X.sr, .slice C.o X.op.length C.ko] 31)) := heap_last2 _ _ _
  have HZ : Hid (∀ v, Below w.heap.size w v → UwR v.heap.size A X v ∧ UwR v.heap.size C X v) := fun v b => ⟨(h.below b).mono b.size, (g.below b).mono b.size⟩
  have HF := hid hf
  clear h g hf
  go_enter Try.func8, Try.ntmps8
  go_wp2_with fail
  generalize ((w.alloc (.cells #[.slice A.c X.cl.length A.kc, .slice A.d X.dk.length A.kd, .slice A.l X.lg.length A.kl, .int .i64 X.sr, .slice A.o X.op.length A.ko] 31)).alloc (.cells #[.slice C.c X.cl.length C.kc, .slice C.d X.dk.length C.kd, .slice C.l X.lg.length C.kl, .int .i64 X.sr, .slice C.o X.op.length C.ko] 31)) = v0 at *
  refine (eqIntS_same A.c C.c A.kc C.kc X.cl v0 HF.out.c (HZ.out _ HB0.out).1.c (HZ.out _ HB0.out).2.c).mono ?_
  rintro e v1 ⟨rfl, b⟩
  have HB1 : Hid (Below w.heap.size w v1) := HB0.out.trans (b.mono HB0.out.size)
  have HX1 := hid ((b.block _ (kbox HX0.out)).trans HX0.out)
  have HY1 := hid ((b.block _ (kbox HY0.out)).trans HY0.out)
  clear b HB0 HX0 HY0
  have x1 : v1.cell? ⟨w.heap.size, 1, none⟩ = some (.slice A.d X.dk.length A.kd) := box_cell HX1.out 1
  have y1 : v1.cell? ⟨w.heap.size + 1, 1, none⟩ = some (.slice C.d X.dk.length C.kd) := box_cell HY1.out 1
  go_wp2_with fail
  refine (eqIntS_same A.d C.d A.kd C.kd X.dk v1 HF.out.d (HZ.out _ HB1.out).1.d (HZ.out _ HB1.out).2.d).mono ?_
  rintro e v2 ⟨rfl, b⟩
  have HB2 : Hid (Below w.heap.size w v2) := HB1.out.trans (b.mono HB1.out.size)
  have HX2 := hid ((b.block _ (kbox HX1.out)).trans HX1.out)
  have HY2 := hid ((b.block _ (kbox HY1.out)).trans HY1.out)
  clear b HB1 HX1 HY1 x1 y1
  have x2 : v2.cell? ⟨w.heap.size, 2, none⟩ = some (.slice A.l X.lg.length A.kl) := box_cell HX2.out 2
  have y2 : v2.cell? ⟨w.heap.size + 1, 2, none⟩ = some (.slice C.l X.lg.length C.kl) := box_cell HY2.out 2
  go_wp2_with fail
  refine (eqNoteS_same A.l C.l A.kl C.kl X.lg v2 HF.out.l (HZ.out _ HB2.out).1.l (HZ.out _ HB2.out).2.l).mono ?_
  rintro e v3 ⟨rfl, b⟩
  have HB3 : Hid (Below w.heap.size w v3) := HB2.out.trans (b.mono HB2.out.size)
  have HX3 := hid ((b.block _ (kbox HX2.out)).trans HX2.out)
  have HY3 := hid ((b.block _ (kbox HY2.out)).trans HY2.out)
  clear b HB2 HX2 HY2 x2 y2
  have x4 : v3.cell? ⟨w.heap.size, 4, none⟩ = some (.slice A.o X.op.length A.ko) := box_cell HX3.out 4
  have y4 : v3.cell? ⟨w.heap.size + 1, 4, none⟩ = some (.slice C.o X.op.length C.ko) := box_cell HY3.out 4
  have x3 : v3.cell? ⟨w.heap.size, 3, none⟩ = some (.int .i64 X.sr) := box_cell HX3.out 3
  have y3 : v3.cell? ⟨w.heap.size + 1, 3, none⟩ = some (.int .i64 X.sr) := box_cell HY3.out 3
  go_wp2_with fail
  refine (eqIntS_same A.o C.o A.ko C.ko X.op v3 HF.out.o (HZ.out _ HB3.out).1.o (HZ.out _ HB3.out).2.o).mono ?_
  rintro e v4 ⟨rfl, b⟩
  have HB4 : Hid (Below w.heap.size w v4) := HB3.out.trans (b.mono HB3.out.size)
  have HX4 := hid ((b.block _ (kbox HX3.out)).trans HX3.out)
  have HY4 := hid ((b.block _ (kbox HY3.out)).trans HY3.out)
  clear b HB3 HX3 HY3 x4 y4 x3 y3
  go_wp2_with fail
  go_ret
  exact ⟨rfl, HB4.out⟩
end Go.Proofs.Ytgompioaknfjgab

/- Fences held against each other: the laws' own walk. -/
import Derived.Test.YtikmkkklgdkpaaaFcW
namespace Go.Proofs.Ytikmkkklgdkpaaa
set_option maxRecDepth 100000
open Go Go.ChangeShapes Go.WideShapes Go.ChangeAt Go.RowKit
set_option maxHeartbeats 8000000 in
theorem eqFence_same (A C : Af) (X : Fc) (w : World) (hf : FitF X) (h : FR w.heap.size A X w) (g : FR w.heap.size C X w) :
    Calls Try.prog 11 #[.agg #[.slice A.j X.jd.length A.kj, .slice A.g X.gv.length A.kg, .slice A.p X.pl.length A.kp, .slice A.v X.vt.length A.kv, .slice A.n X.wn.length A.kn, .slice A.l X.ln.length A.kl, .int .i64 X.sn, .slice A.s X.st.length A.ks], .agg #[.slice C.j X.jd.length C.kj, .slice C.g X.gv.length C.kg, .slice C.p X.pl.length C.kp, .slice C.v X.vt.length C.kv, .slice C.n X.wn.length C.kn, .slice C.l X.ln.length C.kl, .int .i64 X.sn, .slice C.s X.st.length C.ks]] w fun e w' => e = .returned (.bool true) ∧ Below w.heap.size w w' := by
  have HB0 : Hid (Below w.heap.size w ((w.alloc (.cells #[.slice A.j X.jd.length A.kj, .slice A.g X.gv.length A.kg, .slice A.p X.pl.length A.kp, .slice A.v X.vt.length A.kv, .slice A.n X.wn.length A.kn, .slice A.l X.ln.length A.kl, .int .i64 X.sn, .slice A.s X.st.length A.ks] 26)).alloc (.cells #[.slice C.j X.jd.length C.kj, .slice C.g X.gv.length C.kg, .slice C.p X.pl.length C.kp, .slice C.v X.vt.length C.kv, .slice C.n X.wn.length C.kn, .slice C.l X.ln.length C.kl, .int .i64 X.sn, .slice C.s X.st.length C.ks] 26))) := ((Below.refl _ _).alloc (Nat.le_refl _) _).alloc (by simp) _
  have HX0 : Hid (((w.alloc (.cells #[.slice A.j X.jd.length A.kj, .slice A.g X.gv.length A.kg, .slice A.p X.pl.length A.kp, .slice A.v X.vt.length A.kv, .slice A.n X.wn.length A.kn, .slice A.l X.ln.length A.kl, .int .i64 X.sn, .slice A.s X.st.length A.ks] 26)).alloc (.cells #[.slice C.j X.jd.length C.kj, .slice C.g X.gv.length C.kg, .slice C.p X.pl.length C.kp, .slice C.v X.vt.length C.kv, .slice C.n X.wn.length C.kn, .slice C.l X.ln.length C.kl, .int .i64 X.sn, .slice C.s X.st.length C.ks] 26)).heap[w.heap.size]? = some (.cells #[.slice A.j X.jd.length A.kj, .slice A.g X.gv.length A.kg, .slice A.p X.pl.length A.kp, .slice A.v X.vt.length A.kv, .slice A.n X.wn.length A.kn, .slice A.l X.ln.length A.kl, .int .i64 X.sn, .slice A.s X.st.length A.ks] 26)) := heap_mid2 _ _ _
  have HY0 : Hid (((w.alloc (.cells #[.slice A.j X.jd.length A.kj, .slice A.g X.gv.length A.kg, .slice A.p X.pl.length A.kp, .slice A.v X.vt.length A.kv, .slice A.n X.wn.length A.kn, .slice A.l X.ln.length A.kl, .int .i64 X.sn, .slice A.s X.st.length A.ks] 26)).alloc (.cells #[.slice C.j X.jd.length C.kj, .slice C.g X.gv.length C.kg, .slice C.p X.pl.length C.kp, .slice C.v X.vt.length C.kv, .slice C.n X.wn.length C.kn, .slice C.l X.ln.length C.kl, .int .i64 X.sn, .slice C.s X.st.length C.ks] 26)).heap[w.heap.size + 1]? = some (.cells #[.slice C.j X.jd.length C.kj, .slice C.g X.gv.length C.kg, .slice C.p X.pl.length C.kp, .slice C.v X.vt.length C.kv, .slice C.n X.wn.length C.kn, .slice C.l X.ln.length C.kl, .int .i64 X.sn, .slice C.s X.st.length C.ks] 26)) := heap_last2 _ _ _
  have HZ : Hid (∀ v, Below w.heap.size w v → FR v.heap.size A X v ∧ FR v.heap.size C X v) := fun v b => ⟨(h.below b).mono b.size, (g.below b).mono b.size⟩
  have HF := hid hf
  clear h g hf
  go_enter Try.func11, Try.ntmps11
  go_wp2_with fail
  generalize ((w.alloc (.cells #[.slice A.j X.jd.length A.kj, .slice A.g X.gv.length A.kg, .slice A.p X.pl.length A.kp, .slice A.v X.vt.length A.kv, .slice A.n X.wn.length A.kn, .slice A.l X.ln.length A.kl, .int .i64 X.sn, .slice A.s X.st.length A.ks] 26)).alloc (.cells #[.slice C.j X.jd.length C.kj, .slice C.g X.gv.length C.kg, .slice C.p X.pl.length C.kp, .slice C.v X.vt.length C.kv, .slice C.n X.wn.length C.kn, .slice C.l X.ln.length C.kl, .int .i64 X.sn, .slice C.s X.st.length C.ks] 26)) = v0 at *
  refine (eqIntS_same A.j C.j A.kj C.kj X.jd v0 HF.out.j (HZ.out _ HB0.out).1.j (HZ.out _ HB0.out).2.j).mono ?_
  rintro e v1 ⟨rfl, b⟩
  have HB1 : Hid (Below w.heap.size w v1) := HB0.out.trans (b.mono HB0.out.size)
  have HX1 := hid ((b.block _ (kbox HX0.out)).trans HX0.out)
  have HY1 := hid ((b.block _ (kbox HY0.out)).trans HY0.out)
  clear b HB0 HX0 HY0
  have x1 : v1.cell? ⟨w.heap.size, 1, none⟩ = some (.slice A.g X.gv.length A.kg) := box_cell HX1.out 1
  have y1 : v1.cell? ⟨w.heap.size + 1, 1, none⟩ = some (.slice C.g X.gv.length C.kg) := box_cell HY1.out 1
  go_wp2_with fail
  refine (eqIntS_same A.g C.g A.kg C.kg X.gv v1 HF.out.g (HZ.out _ HB1.out).1.g (HZ.out _ HB1.out).2.g).mono ?_
  rintro e v2 ⟨rfl, b⟩
  have HB2 : Hid (Below w.heap.size w v2) := HB1.out.trans (b.mono HB1.out.size)
  have HX2 := hid ((b.block _ (kbox HX1.out)).trans HX1.out)
  have HY2 := hid ((b.block _ (kbox HY1.out)).trans HY1.out)
  clear b HB1 HX1 HY1 x1 y1
  have x2 : v2.cell? ⟨w.heap.size, 2, none⟩ = some (.slice A.p X.pl.length A.kp) := box_cell HX2.out 2
  have y2 : v2.cell? ⟨w.heap.size + 1, 2, none⟩ = some (.slice C.p X.pl.length C.kp) := box_cell HY2.out 2
  go_wp2_with fail
  refine (eqIntS_same A.p C.p A.kp C.kp X.pl v2 HF.out.p (HZ.out _ HB2.out).1.p (HZ.out _ HB2.out).2.p).mono ?_
  rintro e v3 ⟨rfl, b⟩
  have HB3 : Hid (Below w.heap.size w v3) := HB2.out.trans (b.mono HB2.out.size)
  have HX3 := hid ((b.block _ (kbox HX2.out)).trans HX2.out)
  have HY3 := hid ((b.block _ (kbox HY2.out)).trans HY2.out)
  clear b HB2 HX2 HY2 x2 y2
  have x3 : v3.cell? ⟨w.heap.size, 3, none⟩ = some (.slice A.v X.vt.length A.kv) := box_cell HX3.out 3
  have y3 : v3.cell? ⟨w.heap.size + 1, 3, none⟩ = some (.slice C.v X.vt.length C.kv) := box_cell HY3.out 3
  go_wp2_with fail
  refine (eqIntSS_same A.v C.v A.kv C.kv X.vt v3 HF.out.v.1 HF.out.v.2 (HZ.out _ HB3.out).1.v (HZ.out _ HB3.out).2.v).mono ?_
  rintro e v4 ⟨rfl, b⟩
  have HB4 : Hid (Below w.heap.size w v4) := HB3.out.trans (b.mono HB3.out.size)
  have HX4 := hid ((b.block _ (kbox HX3.out)).trans HX3.out)
  have HY4 := hid ((b.block _ (kbox HY3.out)).trans HY3.out)
  clear b HB3 HX3 HY3 x3 y3
  have x4 : v4.cell? ⟨w.heap.size, 4, none⟩ = some (.slice A.n X.wn.length A.kn) := box_cell HX4.out 4
  have y4 : v4.cell? ⟨w.heap.size + 1, 4, none⟩ = some (.slice C.n X.wn.length C.kn) := box_cell HY4.out 4
  go_wp2_with fail
  refine (eqIntSS_same A.n C.n A.kn C.kn X.wn v4 HF.out.n.1 HF.out.n.2 (HZ.out _ HB4.out).1.n (HZ.out _ HB4.out).2.n).mono ?_
  rintro e v5 ⟨rfl, b⟩
  have HB5 : Hid (Below w.heap.size w v5) := HB4.out.trans (b.mono HB4.out.size)
  have HX5 := hid ((b.block _ (kbox HX4.out)).trans HX4.out)
  have HY5 := hid ((b.block _ (kbox HY4.out)).trans HY4.out)
  clear b HB4 HX4 HY4 x4 y4
  have x5 : v5.cell? ⟨w.heap.size, 5, none⟩ = some (.slice A.l X.ln.length A.kl) := box_cell HX5.out 5
  have y5 : v5.cell? ⟨w.heap.size + 1, 5, none⟩ = some (.slice C.l X.ln.length C.kl) := box_cell HY5.out 5
  go_wp2_with fail
  refine (eqPaperS_same A.l C.l A.kl C.kl X.ln v5 HF.out.l (HZ.out _ HB5.out).1.l (HZ.out _ HB5.out).2.l).mono ?_
  rintro e v6 ⟨rfl, b⟩
  have HB6 : Hid (Below w.heap.size w v6) := HB5.out.trans (b.mono HB5.out.size)
  have HX6 := hid ((b.block _ (kbox HX5.out)).trans HX5.out)
  have HY6 := hid ((b.block _ (kbox HY5.out)).trans HY5.out)
  clear b HB5 HX5 HY5 x5 y5
  have x7 : v6.cell? ⟨w.heap.size, 7, none⟩ = some (.slice A.s X.st.length A.ks) := box_cell HX6.out 7
  have y7 : v6.cell? ⟨w.heap.size + 1, 7, none⟩ = some (.slice C.s X.st.length C.ks) := box_cell HY6.out 7
  have x6 : v6.cell? ⟨w.heap.size, 6, none⟩ = some (.int .i64 X.sn) := box_cell HX6.out 6
  have y6 : v6.cell? ⟨w.heap.size + 1, 6, none⟩ = some (.int .i64 X.sn) := box_cell HY6.out 6
  go_wp2_with fail
  refine (eqIntSS_same A.s C.s A.ks C.ks X.st v6 HF.out.s.1 HF.out.s.2 (HZ.out _ HB6.out).1.s (HZ.out _ HB6.out).2.s).mono ?_
  rintro e v7 ⟨rfl, b⟩
  have HB7 : Hid (Below w.heap.size w v7) := HB6.out.trans (b.mono HB6.out.size)
  have HX7 := hid ((b.block _ (kbox HX6.out)).trans HX6.out)
  have HY7 := hid ((b.block _ (kbox HY6.out)).trans HY6.out)
  clear b HB6 HX6 HY6 x7 y7 x6 y6
  go_wp2_with fail
  go_ret
  exact ⟨rfl, HB7.out⟩
end Go.Proofs.Ytikmkkklgdkpaaa

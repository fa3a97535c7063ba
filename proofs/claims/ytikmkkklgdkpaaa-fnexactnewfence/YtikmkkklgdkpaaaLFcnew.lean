/- The exact law of NewFence: its walk out of the contracts of the model and of the program. -/
import Derived.Test.YtikmkkklgdkpaaaFcNs
import Derived.Test.YtikmkkklgdkpaaaFcWe
import Derived.Test.YtikmkkklgdkpaaaFcM
import Derived.Test.YtikmkkklgdkpaaaFcOpen
namespace Go.Proofs.Ytikmkkklgdkpaaa
set_option maxRecDepth 100000
open Go Go.ChangeShapes Go.WideShapes Go.ChangeAt Go.RowKit
theorem OutP.belowB {P : Nat → Prop} {w v v' : World} (h : OutP P v v') (b : Below w.heap.size w v) (hP : ∀ k, P k → w.heap.size ≤ k) : Below w.heap.size w v' := b.trans ⟨h.os, h.tape, h.output, h.size, fun k hk => h.block k (Nat.lt_of_lt_of_le hk b.size) (fun hp => by have := hP k hp; omega)⟩
/-- function f answers so -/
def TellsNewFence (f : Nat) (z : Int) (X : Fc) (ok : Bool) : Prop := ∀ v : World, Calls Try.prog f #[.int .i64 z] v fun e w' => ∃ A, e = .returned (.tuple #[.agg #[.slice A.j X.jd.length A.kj, .slice A.g X.gv.length A.kg, .slice A.p X.pl.length A.kp, .slice A.v X.vt.length A.kv, .slice A.n X.wn.length A.kn, .slice A.l X.ln.length A.kl, .int .i64 X.sn, .slice A.s X.st.length A.ks], .bool ok]) ∧ MkF (Btw v.heap.size w'.heap.size) A X w' ∧ Below v.heap.size v w'
set_option maxHeartbeats 8000000 in
theorem law_NewFence (z : Int) (w : World) (X : Fc) (ok : Bool) (hf : FitF X) (h9 : TellsNewFence 9 z X ok) (h11 : TellsNewFence 10 z X ok) :
    Calls Try.prog 3 #[.int .i64 z] w fun e w' => e = .returned (.bool true) ∧ Below w.heap.size w w' := by
  have H9 := hid h9
  have H11 := hid h11
  have HF := hid hf
  have hbk : (ok != ok) = false := by cases ok <;> rfl
  have HK7 := hid (kF_le hf).2.2.2.2.2.2
  clear h9 h11 hf
  have B_w : Hid (Below w.heap.size w w) := Below.refl _ _
  go_enter Try.func3, Try.ntmps3
  go_wp2_with fail
  refine (H9.out w).mono ?_
  rintro e w1 ⟨A1, rfl, m1, g1⟩
  have B2 := hid (g1.trans ((boxB w1 (.cells #[.slice A1.j X.jd.length A1.kj, .slice A1.g X.gv.length A1.kg, .slice A1.p X.pl.length A1.kp, .slice A1.v X.vt.length A1.kv, .slice A1.n X.wn.length A1.kn, .slice A1.l X.ln.length A1.kl, .int .i64 X.sn, .slice A1.s X.st.length A1.ks] 26)).mono g1.size))
  have K2 := hid (heap_last w1 (.cells #[.slice A1.j X.jd.length A1.kj, .slice A1.g X.gv.length A1.kg, .slice A1.p X.pl.length A1.kp, .slice A1.v X.vt.length A1.kv, .slice A1.n X.wn.length A1.kn, .slice A1.l X.ln.length A1.kl, .int .i64 X.sn, .slice A1.s X.st.length A1.ks] 26))
  have M2 := hid (m1.on (boxB w1 (.cells #[.slice A1.j X.jd.length A1.kj, .slice A1.g X.gv.length A1.kg, .slice A1.p X.pl.length A1.kp, .slice A1.v X.vt.length A1.kv, .slice A1.n X.wn.length A1.kn, .slice A1.l X.ln.length A1.kl, .int .i64 X.sn, .slice A1.s X.st.length A1.ks] 26)))
  have s1 := g1.size
  have s2 : (w1.alloc (.cells #[.slice A1.j X.jd.length A1.kj, .slice A1.g X.gv.length A1.kg, .slice A1.p X.pl.length A1.kp, .slice A1.v X.vt.length A1.kv, .slice A1.n X.wn.length A1.kn, .slice A1.l X.ln.length A1.kl, .int .i64 X.sn, .slice A1.s X.st.length A1.ks] 26)).heap.size = w1.heap.size + 1 := heap_size _ _
  clear m1 g1 H9
  go_upto_region 2 with fail
  generalize w1.alloc (.cells #[.slice A1.j X.jd.length A1.kj, .slice A1.g X.gv.length A1.kg, .slice A1.p X.pl.length A1.kp, .slice A1.v X.vt.length A1.kv, .slice A1.n X.wn.length A1.kn, .slice A1.l X.ln.length A1.kl, .int .i64 X.sn, .slice A1.s X.st.length A1.ks] 26) = w2 at *
  go_wp2_with fail
  refine (H11.out w2).mono ?_
  rintro e w3 ⟨A3, rfl, m3, g3⟩
  have B4 := hid (B2.out.trans ((g3.trans ((boxB w3 (.cells #[.slice A3.j X.jd.length A3.kj, .slice A3.g X.gv.length A3.kg, .slice A3.p X.pl.length A3.kp, .slice A3.v X.vt.length A3.kv, .slice A3.n X.wn.length A3.kn, .slice A3.l X.ln.length A3.kl, .int .i64 X.sn, .slice A3.s X.st.length A3.ks] 26)).mono g3.size)).mono B2.out.size))
  have K4 := hid (heap_last w3 (.cells #[.slice A3.j X.jd.length A3.kj, .slice A3.g X.gv.length A3.kg, .slice A3.p X.pl.length A3.kp, .slice A3.v X.vt.length A3.kv, .slice A3.n X.wn.length A3.kn, .slice A3.l X.ln.length A3.kl, .int .i64 X.sn, .slice A3.s X.st.length A3.ks] 26))
  have L4 := hid (((boxB w3 (.cells #[.slice A3.j X.jd.length A3.kj, .slice A3.g X.gv.length A3.kg, .slice A3.p X.pl.length A3.kp, .slice A3.v X.vt.length A3.kv, .slice A3.n X.wn.length A3.kn, .slice A3.l X.ln.length A3.kl, .int .i64 X.sn, .slice A3.s X.st.length A3.ks] 26)).block _ (by have := g3.size; omega)).trans ((g3.block w1.heap.size (by omega)).trans K2.out))
  have M4 := hid ((M2.out.on g3).on (boxB w3 (.cells #[.slice A3.j X.jd.length A3.kj, .slice A3.g X.gv.length A3.kg, .slice A3.p X.pl.length A3.kp, .slice A3.v X.vt.length A3.kv, .slice A3.n X.wn.length A3.kn, .slice A3.l X.ln.length A3.kl, .int .i64 X.sn, .slice A3.s X.st.length A3.ks] 26)))
  have N4 := hid (m3.on (boxB w3 (.cells #[.slice A3.j X.jd.length A3.kj, .slice A3.g X.gv.length A3.kg, .slice A3.p X.pl.length A3.kp, .slice A3.v X.vt.length A3.kv, .slice A3.n X.wn.length A3.kn, .slice A3.l X.ln.length A3.kl, .int .i64 X.sn, .slice A3.s X.st.length A3.ks] 26)))
  have s3 := g3.size
  have s4 : (w3.alloc (.cells #[.slice A3.j X.jd.length A3.kj, .slice A3.g X.gv.length A3.kg, .slice A3.p X.pl.length A3.kp, .slice A3.v X.vt.length A3.kv, .slice A3.n X.wn.length A3.kn, .slice A3.l X.ln.length A3.kl, .int .i64 X.sn, .slice A3.s X.st.length A3.ks] 26)).heap.size = w3.heap.size + 1 := heap_size _ _
  clear m3 g3 M2 K2 B2
  go_upto_region 3 with fail
  generalize w3.alloc (.cells #[.slice A3.j X.jd.length A3.kj, .slice A3.g X.gv.length A3.kg, .slice A3.p X.pl.length A3.kp, .slice A3.v X.vt.length A3.kv, .slice A3.n X.wn.length A3.kn, .slice A3.l X.ln.length A3.kl, .int .i64 X.sn, .slice A3.s X.st.length A3.ks] 26) = w4 at *
  have y0 : w4.cell? ⟨w3.heap.size, 0, none⟩ = some (.slice A3.j X.jd.length A3.kj) := box_cell K4.out 0
  have y1 : w4.cell? ⟨w3.heap.size, 1, none⟩ = some (.slice A3.g X.gv.length A3.kg) := box_cell K4.out 1
  have y2 : w4.cell? ⟨w3.heap.size, 2, none⟩ = some (.slice A3.p X.pl.length A3.kp) := box_cell K4.out 2
  have y3 : w4.cell? ⟨w3.heap.size, 3, none⟩ = some (.slice A3.v X.vt.length A3.kv) := box_cell K4.out 3
  have y4 : w4.cell? ⟨w3.heap.size, 4, none⟩ = some (.slice A3.n X.wn.length A3.kn) := box_cell K4.out 4
  have y5 : w4.cell? ⟨w3.heap.size, 5, none⟩ = some (.slice A3.l X.ln.length A3.kl) := box_cell K4.out 5
  have y6 : w4.cell? ⟨w3.heap.size, 6, none⟩ = some (.int .i64 X.sn) := box_cell K4.out 6
  have y7 : w4.cell? ⟨w3.heap.size, 7, none⟩ = some (.slice A3.s X.st.length A3.ks) := box_cell K4.out 7
  have x0 : w4.cell? ⟨w1.heap.size, 0, none⟩ = some (.slice A1.j X.jd.length A1.kj) := box_cell L4.out 0
  have x1 : w4.cell? ⟨w1.heap.size, 1, none⟩ = some (.slice A1.g X.gv.length A1.kg) := box_cell L4.out 1
  have x2 : w4.cell? ⟨w1.heap.size, 2, none⟩ = some (.slice A1.p X.pl.length A1.kp) := box_cell L4.out 2
  have x3 : w4.cell? ⟨w1.heap.size, 3, none⟩ = some (.slice A1.v X.vt.length A1.kv) := box_cell L4.out 3
  have x4 : w4.cell? ⟨w1.heap.size, 4, none⟩ = some (.slice A1.n X.wn.length A1.kn) := box_cell L4.out 4
  have x5 : w4.cell? ⟨w1.heap.size, 5, none⟩ = some (.slice A1.l X.ln.length A1.kl) := box_cell L4.out 5
  have x6 : w4.cell? ⟨w1.heap.size, 6, none⟩ = some (.int .i64 X.sn) := box_cell L4.out 6
  have x7 : w4.cell? ⟨w1.heap.size, 7, none⟩ = some (.slice A1.s X.st.length A1.ks) := box_cell L4.out 7
  go_wp2_with fail
  refine (eqFence_same A3 A1 X w4 HF.out N4.out.read M4.out.read).mono ?_
  rintro e w5 ⟨rfl, g5⟩
  have B5 := hid (B4.out.trans (g5.mono B4.out.size))
  have K5 := hid ((g5.block _ (by omega)).trans K4.out)
  have L5 := hid ((g5.block _ (by omega)).trans L4.out)
  have M5 := hid (M4.out.on g5)
  have N5 := hid (N4.out.on g5)
  have s5 := g5.size
  clear g5 B4 K4 L4 M4 N4 x0 x1 x2 x3 x4 x5 x6 x7 y0 y1 y2 y3 y4 y5 y6 y7
  have y0 : w5.cell? ⟨w3.heap.size, 0, none⟩ = some (.slice A3.j X.jd.length A3.kj) := box_cell K5.out 0
  have y1 : w5.cell? ⟨w3.heap.size, 1, none⟩ = some (.slice A3.g X.gv.length A3.kg) := box_cell K5.out 1
  have y2 : w5.cell? ⟨w3.heap.size, 2, none⟩ = some (.slice A3.p X.pl.length A3.kp) := box_cell K5.out 2
  have y3 : w5.cell? ⟨w3.heap.size, 3, none⟩ = some (.slice A3.v X.vt.length A3.kv) := box_cell K5.out 3
  have y4 : w5.cell? ⟨w3.heap.size, 4, none⟩ = some (.slice A3.n X.wn.length A3.kn) := box_cell K5.out 4
  have y5 : w5.cell? ⟨w3.heap.size, 5, none⟩ = some (.slice A3.l X.ln.length A3.kl) := box_cell K5.out 5
  have y6 : w5.cell? ⟨w3.heap.size, 6, none⟩ = some (.int .i64 X.sn) := box_cell K5.out 6
  have y7 : w5.cell? ⟨w3.heap.size, 7, none⟩ = some (.slice A3.s X.st.length A3.ks) := box_cell K5.out 7
  go_wp2_with fail
  refine (markFence_m (Btw w2.heap.size w3.heap.size) A3 X w5 HF.out (fun k hk => by have := hk.2; omega) N5.out).mono ?_
  rintro e w6 ⟨rfl, n6, o6⟩
  have B6 := hid (o6.belowB B5.out (fun k hk => by have := hk.1; omega))
  have K6 := hid ((o6.block _ (by omega) (fun hk => by have := hk.2; omega)).trans K5.out)
  have L6 := hid ((o6.block _ (by omega) (fun hk => by have := hk.1; omega)).trans L5.out)
  have M6 := hid (M5.out.keep o6 (fun k h1 h2 => by have := h1.2; have := h2.1; omega))
  have N6 := hid n6
  have s6 := o6.size
  clear o6 n6 B5 K5 L5 M5 N5 y0 y1 y2 y3 y4 y5 y6 y7
  have hk7 : decide (((kF7 X : Nat) : Int) < 0) = false := decide_eq_false (by have := HK7.out; omega)
  have hkk : (((kF7 X : Nat) : Int) != ((kF7 X : Nat) : Int)) = false := by simp
  have y0 : w6.cell? ⟨w3.heap.size, 0, none⟩ = some (.slice A3.j X.jd.length A3.kj) := box_cell K6.out 0
  have y1 : w6.cell? ⟨w3.heap.size, 1, none⟩ = some (.slice A3.g X.gv.length A3.kg) := box_cell K6.out 1
  have y2 : w6.cell? ⟨w3.heap.size, 2, none⟩ = some (.slice A3.p X.pl.length A3.kp) := box_cell K6.out 2
  have y3 : w6.cell? ⟨w3.heap.size, 3, none⟩ = some (.slice A3.v X.vt.length A3.kv) := box_cell K6.out 3
  have y4 : w6.cell? ⟨w3.heap.size, 4, none⟩ = some (.slice A3.n X.wn.length A3.kn) := box_cell K6.out 4
  have y5 : w6.cell? ⟨w3.heap.size, 5, none⟩ = some (.slice A3.l X.ln.length A3.kl) := box_cell K6.out 5
  have y6 : w6.cell? ⟨w3.heap.size, 6, none⟩ = some (.int .i64 X.sn) := box_cell K6.out 6
  have y7 : w6.cell? ⟨w3.heap.size, 7, none⟩ = some (.slice A3.s X.st.length A3.ks) := box_cell K6.out 7
  have HH := hid (fun v (h : FR v.heap.size A3 (fmk X) v) => heldFence_g A3 X v HF.out h)
  generalize kF7 X = kk at *
  go_wp2_with fail
  refine (HH.out w6 N6.out.read).mono ?_
  rintro e w7 ⟨rfl, g7⟩
  have B7 := hid (B6.out.trans (g7.mono B6.out.size))
  have K7 := hid ((g7.block _ (by omega)).trans K6.out)
  have L7 := hid ((g7.block _ (by omega)).trans L6.out)
  have M7 := hid (M6.out.on g7)
  have N7 := hid (N6.out.on g7)
  have s7 := g7.size
  clear g7 B6 K6 L6 M6 N6 y0 y1 y2 y3 y4 y5 y6 y7
  go_wp2_with fail
  refine (H11.out w7).mono ?_
  rintro e w8 ⟨A8, rfl, m8, g8⟩
  have B9 := hid (B7.out.trans ((g8.trans ((boxB w8 (.cells #[.slice A8.j X.jd.length A8.kj, .slice A8.g X.gv.length A8.kg, .slice A8.p X.pl.length A8.kp, .slice A8.v X.vt.length A8.kv, .slice A8.n X.wn.length A8.kn, .slice A8.l X.ln.length A8.kl, .int .i64 X.sn, .slice A8.s X.st.length A8.ks] 26)).mono g8.size)).mono B7.out.size))
  have J9 := hid (heap_last w8 (.cells #[.slice A8.j X.jd.length A8.kj, .slice A8.g X.gv.length A8.kg, .slice A8.p X.pl.length A8.kp, .slice A8.v X.vt.length A8.kv, .slice A8.n X.wn.length A8.kn, .slice A8.l X.ln.length A8.kl, .int .i64 X.sn, .slice A8.s X.st.length A8.ks] 26))
  have K9 := hid (((boxB w8 (.cells #[.slice A8.j X.jd.length A8.kj, .slice A8.g X.gv.length A8.kg, .slice A8.p X.pl.length A8.kp, .slice A8.v X.vt.length A8.kv, .slice A8.n X.wn.length A8.kn, .slice A8.l X.ln.length A8.kl, .int .i64 X.sn, .slice A8.s X.st.length A8.ks] 26)).block _ (by have := g8.size; omega)).trans ((g8.block _ (by omega)).trans K7.out))
  have L9 := hid (((boxB w8 (.cells #[.slice A8.j X.jd.length A8.kj, .slice A8.g X.gv.length A8.kg, .slice A8.p X.pl.length A8.kp, .slice A8.v X.vt.length A8.kv, .slice A8.n X.wn.length A8.kn, .slice A8.l X.ln.length A8.kl, .int .i64 X.sn, .slice A8.s X.st.length A8.ks] 26)).block _ (by have := g8.size; omega)).trans ((g8.block _ (by omega)).trans L7.out))
  have M9 := hid ((M7.out.on g8).on (boxB w8 (.cells #[.slice A8.j X.jd.length A8.kj, .slice A8.g X.gv.length A8.kg, .slice A8.p X.pl.length A8.kp, .slice A8.v X.vt.length A8.kv, .slice A8.n X.wn.length A8.kn, .slice A8.l X.ln.length A8.kl, .int .i64 X.sn, .slice A8.s X.st.length A8.ks] 26)))
  have N9 := hid ((N7.out.on g8).on (boxB w8 (.cells #[.slice A8.j X.jd.length A8.kj, .slice A8.g X.gv.length A8.kg, .slice A8.p X.pl.length A8.kp, .slice A8.v X.vt.length A8.kv, .slice A8.n X.wn.length A8.kn, .slice A8.l X.ln.length A8.kl, .int .i64 X.sn, .slice A8.s X.st.length A8.ks] 26)))
  have O9 := hid (m8.on (boxB w8 (.cells #[.slice A8.j X.jd.length A8.kj, .slice A8.g X.gv.length A8.kg, .slice A8.p X.pl.length A8.kp, .slice A8.v X.vt.length A8.kv, .slice A8.n X.wn.length A8.kn, .slice A8.l X.ln.length A8.kl, .int .i64 X.sn, .slice A8.s X.st.length A8.ks] 26)))
  have s8 := g8.size
  have s9 : (w8.alloc (.cells #[.slice A8.j X.jd.length A8.kj, .slice A8.g X.gv.length A8.kg, .slice A8.p X.pl.length A8.kp, .slice A8.v X.vt.length A8.kv, .slice A8.n X.wn.length A8.kn, .slice A8.l X.ln.length A8.kl, .int .i64 X.sn, .slice A8.s X.st.length A8.ks] 26)).heap.size = w8.heap.size + 1 := heap_size _ _
  clear m8 g8 B7 K7 L7 M7 N7 H11
  go_upto_region 14 with fail
  generalize w8.alloc (.cells #[.slice A8.j X.jd.length A8.kj, .slice A8.g X.gv.length A8.kg, .slice A8.p X.pl.length A8.kp, .slice A8.v X.vt.length A8.kv, .slice A8.n X.wn.length A8.kn, .slice A8.l X.ln.length A8.kl, .int .i64 X.sn, .slice A8.s X.st.length A8.ks] 26) = w9 at *
  have y0 : w9.cell? ⟨w8.heap.size, 0, none⟩ = some (.slice A8.j X.jd.length A8.kj) := box_cell J9.out 0
  have y1 : w9.cell? ⟨w8.heap.size, 1, none⟩ = some (.slice A8.g X.gv.length A8.kg) := box_cell J9.out 1
  have y2 : w9.cell? ⟨w8.heap.size, 2, none⟩ = some (.slice A8.p X.pl.length A8.kp) := box_cell J9.out 2
  have y3 : w9.cell? ⟨w8.heap.size, 3, none⟩ = some (.slice A8.v X.vt.length A8.kv) := box_cell J9.out 3
  have y4 : w9.cell? ⟨w8.heap.size, 4, none⟩ = some (.slice A8.n X.wn.length A8.kn) := box_cell J9.out 4
  have y5 : w9.cell? ⟨w8.heap.size, 5, none⟩ = some (.slice A8.l X.ln.length A8.kl) := box_cell J9.out 5
  have y6 : w9.cell? ⟨w8.heap.size, 6, none⟩ = some (.int .i64 X.sn) := box_cell J9.out 6
  have y7 : w9.cell? ⟨w8.heap.size, 7, none⟩ = some (.slice A8.s X.st.length A8.ks) := box_cell J9.out 7
  have x0 : w9.cell? ⟨w1.heap.size, 0, none⟩ = some (.slice A1.j X.jd.length A1.kj) := box_cell L9.out 0
  have x1 : w9.cell? ⟨w1.heap.size, 1, none⟩ = some (.slice A1.g X.gv.length A1.kg) := box_cell L9.out 1
  have x2 : w9.cell? ⟨w1.heap.size, 2, none⟩ = some (.slice A1.p X.pl.length A1.kp) := box_cell L9.out 2
  have x3 : w9.cell? ⟨w1.heap.size, 3, none⟩ = some (.slice A1.v X.vt.length A1.kv) := box_cell L9.out 3
  have x4 : w9.cell? ⟨w1.heap.size, 4, none⟩ = some (.slice A1.n X.wn.length A1.kn) := box_cell L9.out 4
  have x5 : w9.cell? ⟨w1.heap.size, 5, none⟩ = some (.slice A1.l X.ln.length A1.kl) := box_cell L9.out 5
  have x6 : w9.cell? ⟨w1.heap.size, 6, none⟩ = some (.int .i64 X.sn) := box_cell L9.out 6
  have x7 : w9.cell? ⟨w1.heap.size, 7, none⟩ = some (.slice A1.s X.st.length A1.ks) := box_cell L9.out 7
  go_wp2_with fail
  refine (eqFence_same A8 A1 X w9 HF.out O9.out.read M9.out.read).mono ?_
  rintro e wa ⟨rfl, ga⟩
  have Ba := hid (B9.out.trans (ga.mono B9.out.size))
  have Ka := hid ((ga.block _ (by omega)).trans K9.out)
  have Na := hid (N9.out.on ga)
  clear ga B9 K9 L9 M9 N9 O9 J9 x0 x1 x2 x3 x4 x5 x6 x7 y0 y1 y2 y3 y4 y5 y6 y7
  have y0 : wa.cell? ⟨w3.heap.size, 0, none⟩ = some (.slice A3.j X.jd.length A3.kj) := box_cell Ka.out 0
  have y1 : wa.cell? ⟨w3.heap.size, 1, none⟩ = some (.slice A3.g X.gv.length A3.kg) := box_cell Ka.out 1
  have y2 : wa.cell? ⟨w3.heap.size, 2, none⟩ = some (.slice A3.p X.pl.length A3.kp) := box_cell Ka.out 2
  have y3 : wa.cell? ⟨w3.heap.size, 3, none⟩ = some (.slice A3.v X.vt.length A3.kv) := box_cell Ka.out 3
  have y4 : wa.cell? ⟨w3.heap.size, 4, none⟩ = some (.slice A3.n X.wn.length A3.kn) := box_cell Ka.out 4
  have y5 : wa.cell? ⟨w3.heap.size, 5, none⟩ = some (.slice A3.l X.ln.length A3.kl) := box_cell Ka.out 5
  have y6 : wa.cell? ⟨w3.heap.size, 6, none⟩ = some (.int .i64 X.sn) := box_cell Ka.out 6
  have y7 : wa.cell? ⟨w3.heap.size, 7, none⟩ = some (.slice A3.s X.st.length A3.ks) := box_cell Ka.out 7
  go_wp2_with fail
  refine (HH.out wa Na.out.read).mono ?_
  rintro e wb ⟨rfl, gb⟩
  have Bb := hid (Ba.out.trans (gb.mono Ba.out.size))
  clear gb Ba Ka Na y0 y1 y2 y3 y4 y5 y6 y7
  go_wp2_with fail
  go_ret
  exact ⟨rfl, Bb.out⟩
theorem newF_fit (n : Nat) (h : n ≤ 5) : FitF (newF n) := by
  have e1 : (newF n).jd.length = n := List.length_replicate
  have e2 : (newF n).gv.length = n := List.length_replicate
  exact ⟨by omega, by omega, (by show 2 ≤ 1048576; omega), ⟨by show 2 ≤ 1048576; omega, fun k h => by
    have h' : k < 2 := h
    have : k = 0 ∨ k = 1 := by omega
    rcases this with rfl | rfl <;> exact Nat.zero_le _⟩, ⟨Nat.zero_le _, fun _ h => absurd h (Nat.not_lt_zero _)⟩, Nat.zero_le _, ⟨Nat.zero_le _, fun _ h => absurd h (Nat.not_lt_zero _)⟩⟩
theorem zeroFc_fit : FitF zeroFc := ⟨Nat.zero_le _, Nat.zero_le _, Nat.zero_le _, ⟨Nat.zero_le _, fun _ h => absurd h (Nat.not_lt_zero _)⟩, ⟨Nat.zero_le _, fun _ h => absurd h (Nat.not_lt_zero _)⟩, Nat.zero_le _, ⟨Nat.zero_le _, fun _ h => absurd h (Nat.not_lt_zero _)⟩⟩
theorem nfo_yes {z : Int} (hj : judgesN z = true) {v : World} {e : Ending} {w' : World} (h : NFo z v e w') : ∃ A, e = .returned (.tuple #[.agg #[.slice A.j (newF z.toNat).jd.length A.kj, .slice A.g (newF z.toNat).gv.length A.kg, .slice A.p (newF z.toNat).pl.length A.kp, .slice A.v (newF z.toNat).vt.length A.kv, .slice A.n (newF z.toNat).wn.length A.kn, .slice A.l (newF z.toNat).ln.length A.kl, .int .i64 (newF z.toNat).sn, .slice A.s (newF z.toNat).st.length A.ks], .bool true]) ∧ MkF (Btw v.heap.size w'.heap.size) A (newF z.toNat) w' ∧ Below v.heap.size v w' := by
  rcases h with ⟨_, A, h1, h2, h3⟩ | ⟨h0, _⟩
  · exact ⟨A, h1, h2, h3⟩
  · rw [hj] at h0; cases h0
theorem nfo_no {z : Int} (hj : judgesN z = false) {v : World} {e : Ending} {w' : World} (h : NFo z v e w') : ∃ A, e = .returned (.tuple #[.agg #[.slice A.j zeroFc.jd.length A.kj, .slice A.g zeroFc.gv.length A.kg, .slice A.p zeroFc.pl.length A.kp, .slice A.v zeroFc.vt.length A.kv, .slice A.n zeroFc.wn.length A.kn, .slice A.l zeroFc.ln.length A.kl, .int .i64 zeroFc.sn, .slice A.s zeroFc.st.length A.ks], .bool false]) ∧ MkF (Btw v.heap.size w'.heap.size) A zeroFc w' ∧ Below v.heap.size v w' := by
  rcases h with ⟨h0, _⟩ | ⟨_, h1, h3⟩
  · rw [hj] at h0; cases h0
  · exact ⟨noAf, h1, MkF.zero _ _ _ _, h3⟩
theorem walk_NewFence (z : Int) (w : World) (_h : fit z) : Calls Try.prog 3 #[.int .i64 z] w fun e w' => e = .returned (.bool true) ∧ Below w.heap.size w w' := by
  cases hj : judgesN z
  · exact law_NewFence z w zeroFc false zeroFc_fit (fun v => (snewF_any z v).mono fun _ _ h => nfo_no hj h) (fun v => (inewF_any z v).mono fun _ _ h => nfo_no hj h)
  · exact law_NewFence z w (newF z.toNat) true (newF_fit _ (by have := judgesN_yes hj; omega)) (fun v => (snewF_any z v).mono fun _ _ h => nfo_yes hj h) (fun v => (inewF_any z v).mono fun _ _ h => nfo_yes hj h)
end Go.Proofs.Ytikmkkklgdkpaaa

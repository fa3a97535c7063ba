/- The exact law of MayStore: its walk out of the contracts of the model and of the program. -/
import Derived.Test.YtikmkkklgdkpaaaFcWt
import Derived.Test.YtikmkkklgdkpaaaFcWe
import Derived.Test.YtikmkkklgdkpaaaFcH
import Derived.Test.YtikmkkklgdkpaaaFcOpen
import Derived.Deep.RegionHeld
namespace Go.Proofs.Ytikmkkklgdkpaaa
set_option maxRecDepth 100000
open Go.ChangeShapes Go.WideShapes Go.ChangeAt Go.RowKit
/-- function f answers so -/
def TellsMayStore (f : Nat) (X : Fc) (z : Int) (y : Bool) (x : Bool) : Prop := ∀ (A : Af) (v : World), FR v.heap.size A X v →
  Calls Try.prog f #[.agg #[.slice A.j X.jd.length A.kj, .slice A.g X.gv.length A.kg, .slice A.p X.pl.length A.kp, .slice A.v X.vt.length A.kv, .slice A.n X.wn.length A.kn, .slice A.l X.ln.length A.kl, .int .i64 X.sn, .slice A.s X.st.length A.ks], .int .i64 z] v fun e w' => e = .returned (.tuple #[.bool y, .bool x]) ∧ Below v.heap.size v w'
set_option maxHeartbeats 8000000 in
theorem law_MayStore (A : Af) (X : Fc) (z : Int) (w : World) (hc : CntF X) (h : FR w.heap.size A X w)
    (H : FitF X → ∃ (y : Bool) (x : Bool), TellsMayStore 32 X z y x ∧ TellsMayStore 33 X z y x) :
    Calls Try.prog 8 #[.agg #[.slice A.j X.jd.length A.kj, .slice A.g X.gv.length A.kg, .slice A.p X.pl.length A.kp, .slice A.v X.vt.length A.kv, .slice A.n X.wn.length A.kn, .slice A.l X.ln.length A.kl, .int .i64 X.sn, .slice A.s X.st.length A.ks], .int .i64 z] w fun e w' => e = .returned (.bool true) ∧ Below w.heap.size w w' := by
  have HH : Hid (FitF X → ∃ (y : Bool) (x : Bool), TellsMayStore 32 X z y x ∧ TellsMayStore 33 X z y x) := H
  obtain ⟨w0, hw0⟩ : ∃ w0, w0 = w.alloc (.cells #[.slice A.j X.jd.length A.kj, .slice A.g X.gv.length A.kg, .slice A.p X.pl.length A.kp, .slice A.v X.vt.length A.kv, .slice A.n X.wn.length A.kn, .slice A.l X.ln.length A.kl, .int .i64 X.sn, .slice A.s X.st.length A.ks] 34) := ⟨_, rfl⟩
  have HB0 : Hid (Below w.heap.size w w0) := by show Below w.heap.size w w0; rw [hw0]; exact boxB w _
  have HZ : Hid (∀ v, Below w0.heap.size w0 v → FR v.heap.size A X v) := fun v g => by
    have g' := HB0.out.trans (g.mono HB0.out.size)
    exact h.up g' g'.size
  have HX : Hid (∀ v, Below w0.heap.size w0 v → v.cell? ⟨w.heap.size, 0, none⟩ = some (.slice A.j X.jd.length A.kj) ∧ v.cell? ⟨w.heap.size, 1, none⟩ = some (.slice A.g X.gv.length A.kg) ∧ v.cell? ⟨w.heap.size, 2, none⟩ = some (.slice A.p X.pl.length A.kp) ∧ v.cell? ⟨w.heap.size, 3, none⟩ = some (.slice A.v X.vt.length A.kv) ∧ v.cell? ⟨w.heap.size, 4, none⟩ = some (.slice A.n X.wn.length A.kn) ∧ v.cell? ⟨w.heap.size, 5, none⟩ = some (.slice A.l X.ln.length A.kl) ∧ v.cell? ⟨w.heap.size, 6, none⟩ = some (.int .i64 X.sn) ∧ v.cell? ⟨w.heap.size, 7, none⟩ = some (.slice A.s X.st.length A.ks)) := fun v g => by
    have h1 : v.heap[w.heap.size]? = some (.cells #[.slice A.j X.jd.length A.kj, .slice A.g X.gv.length A.kg, .slice A.p X.pl.length A.kp, .slice A.v X.vt.length A.kv, .slice A.n X.wn.length A.kn, .slice A.l X.ln.length A.kl, .int .i64 X.sn, .slice A.s X.st.length A.ks] 34) := (g.block _ (by rw [hw0]; simp)).trans (by rw [hw0]; exact heap_last _ _)
    exact ⟨box_cell h1 0, box_cell h1 1, box_cell h1 2, box_cell h1 3, box_cell h1 4, box_cell h1 5, box_cell h1 6, box_cell h1 7⟩
  have HSZ : Hid (∀ v, Below w0.heap.size w0 v → Calls Try.prog 14 #[.agg #[.slice A.j X.jd.length A.kj, .slice A.g X.gv.length A.kg, .slice A.p X.pl.length A.kp, .slice A.v X.vt.length A.kv, .slice A.n X.wn.length A.kn, .slice A.l X.ln.length A.kl, .int .i64 X.sn, .slice A.s X.st.length A.ks], .int .i64 1048576] v fun e w' => (∃ r : Int, e = .returned (.int .i64 r) ∧ (0 ≤ r → FitF X)) ∧ Below v.heap.size v w') := fun v g => szFence_any A X v hc (HZ.out v g)
  have HTO : Hid (FitF X → ∀ v, Below w0.heap.size w0 v → Calls Try.prog 16 #[.agg #[.slice A.j X.jd.length A.kj, .slice A.g X.gv.length A.kg, .slice A.p X.pl.length A.kp, .slice A.v X.vt.length A.kv, .slice A.n X.wn.length A.kn, .slice A.l X.ln.length A.kl, .int .i64 X.sn, .slice A.s X.st.length A.ks]] v fun e w' => ∃ A', e = .returned (.agg #[.slice A'.j X.jd.length A'.kj, .slice A'.g X.gv.length A'.kg, .slice A'.p X.pl.length A'.kp, .slice A'.v X.vt.length A'.kv, .slice A'.n X.wn.length A'.kn, .slice A'.l X.ln.length A'.kl, .int .i64 X.sn, .slice A'.s X.st.length A'.ks]) ∧ FR w'.heap.size A' X w' ∧ Below v.heap.size v w') := fun f v g => toFence_any A X v f (HZ.out v g)
  have W0 : Hid (w0 = w.alloc (.cells #[.slice A.j X.jd.length A.kj, .slice A.g X.gv.length A.kg, .slice A.p X.pl.length A.kp, .slice A.v X.vt.length A.kv, .slice A.n X.wn.length A.kn, .slice A.l X.ln.length A.kl, .int .i64 X.sn, .slice A.s X.st.length A.ks] 34)) := hw0
  clear h H hw0 hc
  have B0 : Hid (Below w0.heap.size w0 w0) := Below.refl _ _
  go_enter Try.func8, Try.ntmps8
  go_wp2_with fail
  rw [← W0.out]
  refine (HSZ.out _ B0.out).mono ?_
  rintro e w1 ⟨⟨r, rfl, hr⟩, g1⟩
  have HR := hid hr
  have B1 : Hid (Below w0.heap.size w0 w1) := g1
  clear hr g1 HSZ
  by_cases p0 : 0 ≤ r
  case neg =>
    have hd0 : decide (r < 0) = true := by simp; omega
    clear HR
    go_wp2_with fail
    go_ret
    exact ⟨rfl, HB0.out.trans (B1.out.mono HB0.out.size)⟩
  have hd0 : decide (r < 0) = false := by simp; omega
  have HF := hid (HR.out p0)
  have HT := hid (HTO.out HF.out)
  obtain ⟨y, x, h9, h11⟩ := HH.out HF.out
  have H9 : Hid (TellsMayStore 32 X z y x) := h9
  have H11 : Hid (TellsMayStore 33 X z y x) := h11
  clear h9 h11 HH HR HTO
  obtain ⟨x0, x1, x2, x3, x4, x5, x6, x7⟩ := HX.out _ B1.out
  go_wp2_with fail
  refine (HT.out _ B1.out).mono ?_
  rintro e w2 ⟨A2, rfl, o2, g2⟩
  have B2 : Hid (Below w0.heap.size w0 w2) := B1.out.trans (g2.mono B1.out.size)
  have C2 := hid (H9.out A2 _ o2)
  clear o2 g2 x0 x1 x2 x3 x4 x5 x6 x7
  go_wp2_with fail
  refine C2.out.mono ?_
  rintro e w3 ⟨rfl, g3⟩
  have B3 : Hid (Below w0.heap.size w0 w3) := B2.out.trans (g3.mono B2.out.size)
  clear g3 C2 B2 H9
  obtain ⟨x0, x1, x2, x3, x4, x5, x6, x7⟩ := HX.out _ B3.out
  go_wp2_with fail
  refine (HT.out _ B3.out).mono ?_
  rintro e w4 ⟨A4, rfl, o4, g4⟩
  have B4 : Hid (Below w0.heap.size w0 w4) := B3.out.trans (g4.mono B3.out.size)
  have O4 := hid o4
  clear o4 g4 x0 x1 x2 x3 x4 x5 x6 x7
  go_wp2_with fail
  have G5 : Hid (Below w4.heap.size w4 (w4.alloc (.cells #[.slice A4.j X.jd.length A4.kj, .slice A4.g X.gv.length A4.kg, .slice A4.p X.pl.length A4.kp, .slice A4.v X.vt.length A4.kv, .slice A4.n X.wn.length A4.kn, .slice A4.l X.ln.length A4.kl, .int .i64 X.sn, .slice A4.s X.st.length A4.ks] 26))) := boxB _ _
  have K5 := hid (heap_last w4 (.cells #[.slice A4.j X.jd.length A4.kj, .slice A4.g X.gv.length A4.kg, .slice A4.p X.pl.length A4.kp, .slice A4.v X.vt.length A4.kv, .slice A4.n X.wn.length A4.kn, .slice A4.l X.ln.length A4.kl, .int .i64 X.sn, .slice A4.s X.st.length A4.ks] 26))
  generalize w4.alloc (.cells #[.slice A4.j X.jd.length A4.kj, .slice A4.g X.gv.length A4.kg, .slice A4.p X.pl.length A4.kp, .slice A4.v X.vt.length A4.kv, .slice A4.n X.wn.length A4.kn, .slice A4.l X.ln.length A4.kl, .int .i64 X.sn, .slice A4.s X.st.length A4.ks] 26) = w5 at *
  have y0 : w5.cell? ⟨w4.heap.size, 0, none⟩ = some (.slice A4.j X.jd.length A4.kj) := box_cell K5.out 0
  have y1 : w5.cell? ⟨w4.heap.size, 1, none⟩ = some (.slice A4.g X.gv.length A4.kg) := box_cell K5.out 1
  have y2 : w5.cell? ⟨w4.heap.size, 2, none⟩ = some (.slice A4.p X.pl.length A4.kp) := box_cell K5.out 2
  have y3 : w5.cell? ⟨w4.heap.size, 3, none⟩ = some (.slice A4.v X.vt.length A4.kv) := box_cell K5.out 3
  have y4 : w5.cell? ⟨w4.heap.size, 4, none⟩ = some (.slice A4.n X.wn.length A4.kn) := box_cell K5.out 4
  have y5 : w5.cell? ⟨w4.heap.size, 5, none⟩ = some (.slice A4.l X.ln.length A4.kl) := box_cell K5.out 5
  have y6 : w5.cell? ⟨w4.heap.size, 6, none⟩ = some (.int .i64 X.sn) := box_cell K5.out 6
  have y7 : w5.cell? ⟨w4.heap.size, 7, none⟩ = some (.slice A4.s X.st.length A4.ks) := box_cell K5.out 7
  have O5 := hid (O4.out.up G5.out G5.out.size)
  have B5 : Hid (Below w0.heap.size w0 w5) := B4.out.trans (G5.out.mono B4.out.size)
  have C5 := hid (H11.out A4 _ O5.out)
  clear O4 G5 B4 H11
  go_wp2_with fail
  refine C5.out.mono ?_
  rintro e w6 ⟨rfl, g6⟩
  have B6 : Hid (Below w0.heap.size w0 w6) := B5.out.trans (g6.mono B5.out.size)
  have O6 := hid (O5.out.up g6 g6.size)
  have K6 := hid ((g6.block _ (kbox K5.out)).trans K5.out)
  clear g6 C5 O5 B5 K5 y0 y1 y2 y3 y4 y5 y6 y7
  have y0 : w6.cell? ⟨w4.heap.size, 0, none⟩ = some (.slice A4.j X.jd.length A4.kj) := box_cell K6.out 0
  have y1 : w6.cell? ⟨w4.heap.size, 1, none⟩ = some (.slice A4.g X.gv.length A4.kg) := box_cell K6.out 1
  have y2 : w6.cell? ⟨w4.heap.size, 2, none⟩ = some (.slice A4.p X.pl.length A4.kp) := box_cell K6.out 2
  have y3 : w6.cell? ⟨w4.heap.size, 3, none⟩ = some (.slice A4.v X.vt.length A4.kv) := box_cell K6.out 3
  have y4 : w6.cell? ⟨w4.heap.size, 4, none⟩ = some (.slice A4.n X.wn.length A4.kn) := box_cell K6.out 4
  have y5 : w6.cell? ⟨w4.heap.size, 5, none⟩ = some (.slice A4.l X.ln.length A4.kl) := box_cell K6.out 5
  have y6 : w6.cell? ⟨w4.heap.size, 6, none⟩ = some (.int .i64 X.sn) := box_cell K6.out 6
  have y7 : w6.cell? ⟨w4.heap.size, 7, none⟩ = some (.slice A4.s X.st.length A4.ks) := box_cell K6.out 7
  have BD : Below w6.heap.size w6 w6.drew := (Below.refl _ _).drew
  have HS : Hid (∀ v, Below w6.heap.size w6 v → (v.cell? ⟨w4.heap.size, 0, none⟩ = some (.slice A4.j X.jd.length A4.kj) ∧ v.cell? ⟨w4.heap.size, 1, none⟩ = some (.slice A4.g X.gv.length A4.kg) ∧ v.cell? ⟨w4.heap.size, 2, none⟩ = some (.slice A4.p X.pl.length A4.kp) ∧ v.cell? ⟨w4.heap.size, 3, none⟩ = some (.slice A4.v X.vt.length A4.kv) ∧ v.cell? ⟨w4.heap.size, 4, none⟩ = some (.slice A4.n X.wn.length A4.kn) ∧ v.cell? ⟨w4.heap.size, 5, none⟩ = some (.slice A4.l X.ln.length A4.kl) ∧ v.cell? ⟨w4.heap.size, 6, none⟩ = some (.int .i64 X.sn) ∧ v.cell? ⟨w4.heap.size, 7, none⟩ = some (.slice A4.s X.st.length A4.ks)) ∧ v.cell? ⟨w.heap.size, 0, none⟩ = some (.slice A.j X.jd.length A.kj) ∧ v.cell? ⟨w.heap.size, 1, none⟩ = some (.slice A.g X.gv.length A.kg) ∧ v.cell? ⟨w.heap.size, 2, none⟩ = some (.slice A.p X.pl.length A.kp) ∧ v.cell? ⟨w.heap.size, 3, none⟩ = some (.slice A.v X.vt.length A.kv) ∧ v.cell? ⟨w.heap.size, 4, none⟩ = some (.slice A.n X.wn.length A.kn) ∧ v.cell? ⟨w.heap.size, 5, none⟩ = some (.slice A.l X.ln.length A.kl) ∧ v.cell? ⟨w.heap.size, 6, none⟩ = some (.int .i64 X.sn) ∧ v.cell? ⟨w.heap.size, 7, none⟩ = some (.slice A.s X.st.length A.ks)) := fun v g => by
    have h1 := (g.block _ (kbox K6.out)).trans K6.out
    exact ⟨⟨box_cell h1 0, box_cell h1 1, box_cell h1 2, box_cell h1 3, box_cell h1 4, box_cell h1 5, box_cell h1 6, box_cell h1 7⟩, HX.out v (B6.out.trans (g.mono B6.out.size))⟩
  have HCd : Hid (∀ v, Below w6.heap.size w6 v → Calls Try.prog 16 #[.agg #[.slice A.j X.jd.length A.kj, .slice A.g X.gv.length A.kg, .slice A.p X.pl.length A.kp, .slice A.v X.vt.length A.kv, .slice A.n X.wn.length A.kn, .slice A.l X.ln.length A.kl, .int .i64 X.sn, .slice A.s X.st.length A.ks]] v fun e w' => ∃ A', e = .returned (.agg #[.slice A'.j X.jd.length A'.kj, .slice A'.g X.gv.length A'.kg, .slice A'.p X.pl.length A'.kp, .slice A'.v X.vt.length A'.kv, .slice A'.n X.wn.length A'.kn, .slice A'.l X.ln.length A'.kl, .int .i64 X.sn, .slice A'.s X.st.length A'.ks]) ∧ FR w'.heap.size A' X w' ∧ Below v.heap.size v w') := fun v g => HT.out v (B6.out.trans (g.mono B6.out.size))
  have HEQ : Hid (∀ v (C : Af), Below w6.heap.size w6 v → FR v.heap.size C X v → Calls Try.prog 11 #[.agg #[.slice A4.j X.jd.length A4.kj, .slice A4.g X.gv.length A4.kg, .slice A4.p X.pl.length A4.kp, .slice A4.v X.vt.length A4.kv, .slice A4.n X.wn.length A4.kn, .slice A4.l X.ln.length A4.kl, .int .i64 X.sn, .slice A4.s X.st.length A4.ks], .agg #[.slice C.j X.jd.length C.kj, .slice C.g X.gv.length C.kg, .slice C.p X.pl.length C.kp, .slice C.v X.vt.length C.kv, .slice C.n X.wn.length C.kn, .slice C.l X.ln.length C.kl, .int .i64 X.sn, .slice C.s X.st.length C.ks]] v fun e w' => e = .returned (.bool true) ∧ Below v.heap.size v w') := fun v C g h1 => eqFence_same A4 C X v HF.out (O6.out.up g g.size) h1
  obtain ⟨⟨z0, z1, z2, z3, z4, z5, z6, z7⟩, t0, t1, t2, t3, t4, t5, t6, t7⟩ := HS.out _ BD
  go_wp2_with fail
  go_region_held (fun v => (v.cell? ⟨w4.heap.size, 0, none⟩ = some (.slice A4.j X.jd.length A4.kj) ∧ v.cell? ⟨w4.heap.size, 1, none⟩ = some (.slice A4.g X.gv.length A4.kg) ∧ v.cell? ⟨w4.heap.size, 2, none⟩ = some (.slice A4.p X.pl.length A4.kp) ∧ v.cell? ⟨w4.heap.size, 3, none⟩ = some (.slice A4.v X.vt.length A4.kv) ∧ v.cell? ⟨w4.heap.size, 4, none⟩ = some (.slice A4.n X.wn.length A4.kn) ∧ v.cell? ⟨w4.heap.size, 5, none⟩ = some (.slice A4.l X.ln.length A4.kl) ∧ v.cell? ⟨w4.heap.size, 6, none⟩ = some (.int .i64 X.sn) ∧ v.cell? ⟨w4.heap.size, 7, none⟩ = some (.slice A4.s X.st.length A4.ks)) ∧ v.cell? ⟨w.heap.size, 0, none⟩ = some (.slice A.j X.jd.length A.kj) ∧ v.cell? ⟨w.heap.size, 1, none⟩ = some (.slice A.g X.gv.length A.kg) ∧ v.cell? ⟨w.heap.size, 2, none⟩ = some (.slice A.p X.pl.length A.kp) ∧ v.cell? ⟨w.heap.size, 3, none⟩ = some (.slice A.v X.vt.length A.kv) ∧ v.cell? ⟨w.heap.size, 4, none⟩ = some (.slice A.n X.wn.length A.kn) ∧ v.cell? ⟨w.heap.size, 5, none⟩ = some (.slice A.l X.ln.length A.kl) ∧ v.cell? ⟨w.heap.size, 6, none⟩ = some (.int .i64 X.sn) ∧ v.cell? ⟨w.heap.size, 7, none⟩ = some (.slice A.s X.st.length A.ks)) (first | exact HS.out _ (by with_reducible assumption)) (first | (go_at_call 16; refine (HCd.out _ (by with_reducible assumption)).mono ?_; rintro e w7 ⟨A7, rfl, o7, g7⟩; have B7 : Below w6.heap.size w6 w7 := BD.trans (g7.mono BD.size)) | (go_at_call 11; refine (HEQ.out _ _ B7 o7).mono ?_; rintro e w8 ⟨rfl, g8⟩; have B8 : Below w6.heap.size w6 w8 := B7.trans (g8.mono B7.size)))
  all_goals
    have HB8 := hid B8
    clear o7 g7 g8 y0 y1 y2 y3 y4 y5 y6 y7 z0 t0 z1 t1 z2 t2 z3 t3 z4 t4 z5 t5 z6 t6 z7 t7 B7 B8
    go_wp2_with fail
    go_ret
    exact ⟨rfl, HB0.out.trans ((B6.out.trans (HB8.out.mono B6.out.size)).mono HB0.out.size)⟩
theorem walk_MayStore (A : Af) (X : Fc) (z : Int) (w : World) (h : FR w.heap.size A X w) (hc : CntF X) (_h1 : fit X.sn) (_h2 : fit z) :
    Calls Try.prog 8 #[.agg #[.slice A.j X.jd.length A.kj, .slice A.g X.gv.length A.kg, .slice A.p X.pl.length A.kp, .slice A.v X.vt.length A.kv, .slice A.n X.wn.length A.kn, .slice A.l X.ln.length A.kl, .int .i64 X.sn, .slice A.s X.st.length A.ks], .int .i64 z] w fun e w' => e = .returned (.bool true) ∧ Below w.heap.size w w' :=
  law_MayStore A X z w hc h fun hf => ⟨mayV X z, mayOk X z, fun A v h1 => sMay_any A X z v hf h1, fun A v h1 => iMay_any A X z v hf h1⟩
end Go.Proofs.Ytikmkkklgdkpaaa

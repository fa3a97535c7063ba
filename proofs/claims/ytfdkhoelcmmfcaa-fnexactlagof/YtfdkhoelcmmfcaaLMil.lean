/- The exact law of LagOf: its walk out of the contracts of the model and of the program. -/
import Derived.Test.YtfdkhoelcmmfcaaMiK
import Derived.Test.YtfdkhoelcmmfcaaMiT
import Derived.Test.YtfdkhoelcmmfcaaMiE
import Derived.Test.YtfdkhoelcmmfcaaMiO
import Derived.Deep.RegionHeld
namespace Go.Proofs.Ytfdkhoelcmmfcaa
set_option maxRecDepth 100000
open Go.ChangeShapes Go.WideShapes Go.ChangeAt Go.RowKit
/-- function f answers so -/
def TellsLagOf (f : Nat) (X : Mi) (n : Int) (x : Bool) : Prop := ∀ (A : MiA) (v : World), MiR v.heap.size A X v →
  Calls Try.prog f #[.agg #[.slice A.s X.S.length A.ks, .slice A.r X.R.length A.kr, .slice A.t X.st.length A.kt, .slice A.d X.dt.length A.kd, .int .i64 X.tx, .int .i64 X.he]] v fun e w' => e = .returned (.tuple #[.int .i64 n, .bool x]) ∧ Below v.heap.size v w'
set_option maxHeartbeats 8000000 in
theorem law_LagOf (A : MiA) (X : Mi) (w : World) (hc : MiCnt X) (h : MiR w.heap.size A X w)
    (H : MiFit X → ∃ (n : Int) (x : Bool), TellsLagOf 18 X n x ∧ TellsLagOf 19 X n x) :
    Calls Try.prog 6 #[.agg #[.slice A.s X.S.length A.ks, .slice A.r X.R.length A.kr, .slice A.t X.st.length A.kt, .slice A.d X.dt.length A.kd, .int .i64 X.tx, .int .i64 X.he]] w fun e w' => e = .returned (.bool true) ∧ Below w.heap.size w w' := by
  have HH : Hid (MiFit X → ∃ (n : Int) (x : Bool), TellsLagOf 18 X n x ∧ TellsLagOf 19 X n x) := H
  obtain ⟨w0, hw0⟩ : ∃ w0, w0 = w.alloc (.cells #[.slice A.s X.S.length A.ks, .slice A.r X.R.length A.kr, .slice A.t X.st.length A.kt, .slice A.d X.dt.length A.kd, .int .i64 X.tx, .int .i64 X.he] 37) := ⟨_, rfl⟩
  have HB0 : Hid (Below w.heap.size w w0) := by show Below w.heap.size w w0; rw [hw0]; exact boxB w _
  have HZ : Hid (∀ v, Below w0.heap.size w0 v → MiR v.heap.size A X v) := fun v g => by
    have g' := HB0.out.trans (g.mono HB0.out.size)
    exact h.up g' g'.size
  have HX : Hid (∀ v, Below w0.heap.size w0 v → v.cell? ⟨w.heap.size, 0, none⟩ = some (.slice A.s X.S.length A.ks) ∧ v.cell? ⟨w.heap.size, 1, none⟩ = some (.slice A.r X.R.length A.kr) ∧ v.cell? ⟨w.heap.size, 2, none⟩ = some (.slice A.t X.st.length A.kt) ∧ v.cell? ⟨w.heap.size, 3, none⟩ = some (.slice A.d X.dt.length A.kd) ∧ v.cell? ⟨w.heap.size, 4, none⟩ = some (.int .i64 X.tx) ∧ v.cell? ⟨w.heap.size, 5, none⟩ = some (.int .i64 X.he)) := fun v g => by
    have h1 : v.heap[w.heap.size]? = some (.cells #[.slice A.s X.S.length A.ks, .slice A.r X.R.length A.kr, .slice A.t X.st.length A.kt, .slice A.d X.dt.length A.kd, .int .i64 X.tx, .int .i64 X.he] 37) := (g.block _ (by rw [hw0]; simp)).trans (by rw [hw0]; exact heap_last _ _)
    exact ⟨box_cell h1 0, box_cell h1 1, box_cell h1 2, box_cell h1 3, box_cell h1 4, box_cell h1 5⟩
  have HSZ : Hid (∀ v, Below w0.heap.size w0 v → Calls Try.prog 12 #[.agg #[.slice A.s X.S.length A.ks, .slice A.r X.R.length A.kr, .slice A.t X.st.length A.kt, .slice A.d X.dt.length A.kd, .int .i64 X.tx, .int .i64 X.he], .int .i64 1048576] v fun e w' => (∃ r : Int, e = .returned (.int .i64 r) ∧ (0 ≤ r → MiFit X)) ∧ Below v.heap.size v w') := fun v g => szMirror_any A X v hc (HZ.out v g)
  have HTO : Hid (MiFit X → ∀ v, Below w0.heap.size w0 v → Calls Try.prog 14 #[.agg #[.slice A.s X.S.length A.ks, .slice A.r X.R.length A.kr, .slice A.t X.st.length A.kt, .slice A.d X.dt.length A.kd, .int .i64 X.tx, .int .i64 X.he]] v fun e w' => ∃ A', e = .returned (.agg #[.slice A'.s X.S.length A'.ks, .slice A'.r X.R.length A'.kr, .slice A'.t X.st.length A'.kt, .slice A'.d X.dt.length A'.kd, .int .i64 X.tx, .int .i64 X.he]) ∧ MiR w'.heap.size A' X w' ∧ Below v.heap.size v w') := fun f v g => toMirror_any A X v f (HZ.out v g)
  have W0 : Hid (w0 = w.alloc (.cells #[.slice A.s X.S.length A.ks, .slice A.r X.R.length A.kr, .slice A.t X.st.length A.kt, .slice A.d X.dt.length A.kd, .int .i64 X.tx, .int .i64 X.he] 37)) := hw0
  clear h H hw0 hc
  have B0 : Hid (Below w0.heap.size w0 w0) := Below.refl _ _
  go_enter Try.func6, Try.ntmps6
  go_wp2_with fail
  rw [← W0.out]
  refine (HSZ.out _ B0.out).mono ?_
  rintro e w1 ⟨⟨r, rfl, hr⟩, g1⟩
  have HR := hid hr
  have B1 : Hid (Below w0.heap.size w0 w1) := g1
  clear hr g1 HSZ
  by_cases p0 : 0 ≤ r
  case neg =>
    have hd0 : decide (r < 0) = true := by simp; omega
    clear HR
    go_wp2_with fail
    go_ret
    exact ⟨rfl, HB0.out.trans (B1.out.mono HB0.out.size)⟩
  have hd0 : decide (r < 0) = false := by simp; omega
  have HF := hid (HR.out p0)
  have HT := hid (HTO.out HF.out)
  obtain ⟨n, x, h9, h11⟩ := HH.out HF.out
  have H9 : Hid (TellsLagOf 18 X n x) := h9
  have H11 : Hid (TellsLagOf 19 X n x) := h11
  clear h9 h11 HH HR HTO
  obtain ⟨x0, x1, x2, x3, x4, x5⟩ := HX.out _ B1.out
  go_wp2_with fail
  refine (HT.out _ B1.out).mono ?_
  rintro e w2 ⟨A2, rfl, o2, g2⟩
  have B2 : Hid (Below w0.heap.size w0 w2) := B1.out.trans (g2.mono B1.out.size)
  have C2 := hid (H9.out A2 _ o2)
  clear o2 g2 x0 x1 x2 x3 x4 x5
  go_wp2_with fail
  refine C2.out.mono ?_
  rintro e w3 ⟨rfl, g3⟩
  have B3 : Hid (Below w0.heap.size w0 w3) := B2.out.trans (g3.mono B2.out.size)
  clear g3 C2 B2 H9
  obtain ⟨x0, x1, x2, x3, x4, x5⟩ := HX.out _ B3.out
  go_wp2_with fail
  refine (HT.out _ B3.out).mono ?_
  rintro e w4 ⟨A4, rfl, o4, g4⟩
  have B4 : Hid (Below w0.heap.size w0 w4) := B3.out.trans (g4.mono B3.out.size)
  have O4 := hid o4
  clear o4 g4 x0 x1 x2 x3 x4 x5
  go_wp2_with fail
  have G5 : Hid (Below w4.heap.size w4 (w4.alloc (.cells #[.slice A4.s X.S.length A4.ks, .slice A4.r X.R.length A4.kr, .slice A4.t X.st.length A4.kt, .slice A4.d X.dt.length A4.kd, .int .i64 X.tx, .int .i64 X.he] 28))) := boxB _ _
  have K5 := hid (heap_last w4 (.cells #[.slice A4.s X.S.length A4.ks, .slice A4.r X.R.length A4.kr, .slice A4.t X.st.length A4.kt, .slice A4.d X.dt.length A4.kd, .int .i64 X.tx, .int .i64 X.he] 28))
  generalize w4.alloc (.cells #[.slice A4.s X.S.length A4.ks, .slice A4.r X.R.length A4.kr, .slice A4.t X.st.length A4.kt, .slice A4.d X.dt.length A4.kd, .int .i64 X.tx, .int .i64 X.he] 28) = w5 at *
  have y0 : w5.cell? ⟨w4.heap.size, 0, none⟩ = some (.slice A4.s X.S.length A4.ks) := box_cell K5.out 0
  have y1 : w5.cell? ⟨w4.heap.size, 1, none⟩ = some (.slice A4.r X.R.length A4.kr) := box_cell K5.out 1
  have y2 : w5.cell? ⟨w4.heap.size, 2, none⟩ = some (.slice A4.t X.st.length A4.kt) := box_cell K5.out 2
  have y3 : w5.cell? ⟨w4.heap.size, 3, none⟩ = some (.slice A4.d X.dt.length A4.kd) := box_cell K5.out 3
  have y4 : w5.cell? ⟨w4.heap.size, 4, none⟩ = some (.int .i64 X.tx) := box_cell K5.out 4
  have y5 : w5.cell? ⟨w4.heap.size, 5, none⟩ = some (.int .i64 X.he) := box_cell K5.out 5
  have O5 := hid (O4.out.up G5.out G5.out.size)
  have B5 : Hid (Below w0.heap.size w0 w5) := B4.out.trans (G5.out.mono B4.out.size)
  have C5 := hid (H11.out A4 _ O5.out)
  clear O4 G5 B4 H11
  go_wp2_with fail
  refine C5.out.mono ?_
  rintro e w6 ⟨rfl, g6⟩
  have B6 : Hid (Below w0.heap.size w0 w6) := B5.out.trans (g6.mono B5.out.size)
  have O6 := hid (O5.out.up g6 g6.size)
  have K6 := hid ((g6.block _ (kbox K5.out)).trans K5.out)
  clear g6 C5 O5 B5 K5 y0 y1 y2 y3 y4 y5
  have y0 : w6.cell? ⟨w4.heap.size, 0, none⟩ = some (.slice A4.s X.S.length A4.ks) := box_cell K6.out 0
  have y1 : w6.cell? ⟨w4.heap.size, 1, none⟩ = some (.slice A4.r X.R.length A4.kr) := box_cell K6.out 1
  have y2 : w6.cell? ⟨w4.heap.size, 2, none⟩ = some (.slice A4.t X.st.length A4.kt) := box_cell K6.out 2
  have y3 : w6.cell? ⟨w4.heap.size, 3, none⟩ = some (.slice A4.d X.dt.length A4.kd) := box_cell K6.out 3
  have y4 : w6.cell? ⟨w4.heap.size, 4, none⟩ = some (.int .i64 X.tx) := box_cell K6.out 4
  have y5 : w6.cell? ⟨w4.heap.size, 5, none⟩ = some (.int .i64 X.he) := box_cell K6.out 5
  have BD : Below w6.heap.size w6 w6.drew := (Below.refl _ _).drew
  have HS : Hid (∀ v, Below w6.heap.size w6 v → (v.cell? ⟨w4.heap.size, 0, none⟩ = some (.slice A4.s X.S.length A4.ks) ∧ v.cell? ⟨w4.heap.size, 1, none⟩ = some (.slice A4.r X.R.length A4.kr) ∧ v.cell? ⟨w4.heap.size, 2, none⟩ = some (.slice A4.t X.st.length A4.kt) ∧ v.cell? ⟨w4.heap.size, 3, none⟩ = some (.slice A4.d X.dt.length A4.kd) ∧ v.cell? ⟨w4.heap.size, 4, none⟩ = some (.int .i64 X.tx) ∧ v.cell? ⟨w4.heap.size, 5, none⟩ = some (.int .i64 X.he)) ∧ v.cell? ⟨w.heap.size, 0, none⟩ = some (.slice A.s X.S.length A.ks) ∧ v.cell? ⟨w.heap.size, 1, none⟩ = some (.slice A.r X.R.length A.kr) ∧ v.cell? ⟨w.heap.size, 2, none⟩ = some (.slice A.t X.st.length A.kt) ∧ v.cell? ⟨w.heap.size, 3, none⟩ = some (.slice A.d X.dt.length A.kd) ∧ v.cell? ⟨w.heap.size, 4, none⟩ = some (.int .i64 X.tx) ∧ v.cell? ⟨w.heap.size, 5, none⟩ = some (.int .i64 X.he)) := fun v g => by
    have h1 := (g.block _ (kbox K6.out)).trans K6.out
    exact ⟨⟨box_cell h1 0, box_cell h1 1, box_cell h1 2, box_cell h1 3, box_cell h1 4, box_cell h1 5⟩, HX.out v (B6.out.trans (g.mono B6.out.size))⟩
  have HCd : Hid (∀ v, Below w6.heap.size w6 v → Calls Try.prog 14 #[.agg #[.slice A.s X.S.length A.ks, .slice A.r X.R.length A.kr, .slice A.t X.st.length A.kt, .slice A.d X.dt.length A.kd, .int .i64 X.tx, .int .i64 X.he]] v fun e w' => ∃ A', e = .returned (.agg #[.slice A'.s X.S.length A'.ks, .slice A'.r X.R.length A'.kr, .slice A'.t X.st.length A'.kt, .slice A'.d X.dt.length A'.kd, .int .i64 X.tx, .int .i64 X.he]) ∧ MiR w'.heap.size A' X w' ∧ Below v.heap.size v w') := fun v g => HT.out v (B6.out.trans (g.mono B6.out.size))
  have HEQ : Hid (∀ v (C : MiA), Below w6.heap.size w6 v → MiR v.heap.size C X v → Calls Try.prog 9 #[.agg #[.slice A4.s X.S.length A4.ks, .slice A4.r X.R.length A4.kr, .slice A4.t X.st.length A4.kt, .slice A4.d X.dt.length A4.kd, .int .i64 X.tx, .int .i64 X.he], .agg #[.slice C.s X.S.length C.ks, .slice C.r X.R.length C.kr, .slice C.t X.st.length C.kt, .slice C.d X.dt.length C.kd, .int .i64 X.tx, .int .i64 X.he]] v fun e w' => e = .returned (.bool true) ∧ Below v.heap.size v w') := fun v C g h1 => eqMirror_same A4 C X v HF.out (O6.out.up g g.size) h1
  obtain ⟨⟨z0, z1, z2, z3, z4, z5⟩, t0, t1, t2, t3, t4, t5⟩ := HS.out _ BD
  go_wp2_with fail
  go_region_held (fun v => (v.cell? ⟨w4.heap.size, 0, none⟩ = some (.slice A4.s X.S.length A4.ks) ∧ v.cell? ⟨w4.heap.size, 1, none⟩ = some (.slice A4.r X.R.length A4.kr) ∧ v.cell? ⟨w4.heap.size, 2, none⟩ = some (.slice A4.t X.st.length A4.kt) ∧ v.cell? ⟨w4.heap.size, 3, none⟩ = some (.slice A4.d X.dt.length A4.kd) ∧ v.cell? ⟨w4.heap.size, 4, none⟩ = some (.int .i64 X.tx) ∧ v.cell? ⟨w4.heap.size, 5, none⟩ = some (.int .i64 X.he)) ∧ v.cell? ⟨w.heap.size, 0, none⟩ = some (.slice A.s X.S.length A.ks) ∧ v.cell? ⟨w.heap.size, 1, none⟩ = some (.slice A.r X.R.length A.kr) ∧ v.cell? ⟨w.heap.size, 2, none⟩ = some (.slice A.t X.st.length A.kt) ∧ v.cell? ⟨w.heap.size, 3, none⟩ = some (.slice A.d X.dt.length A.kd) ∧ v.cell? ⟨w.heap.size, 4, none⟩ = some (.int .i64 X.tx) ∧ v.cell? ⟨w.heap.size, 5, none⟩ = some (.int .i64 X.he)) (first | exact HS.out _ (by with_reducible assumption)) (first | (go_at_call 14; refine (HCd.out _ (by with_reducible assumption)).mono ?_; rintro e w7 ⟨A7, rfl, o7, g7⟩; have B7 : Below w6.heap.size w6 w7 := BD.trans (g7.mono BD.size)) | (go_at_call 9; refine (HEQ.out _ _ B7 o7).mono ?_; rintro e w8 ⟨rfl, g8⟩; have B8 : Below w6.heap.size w6 w8 := B7.trans (g8.mono B7.size)))
  all_goals
    have HB8 := hid B8
    clear o7 g7 g8 y0 y1 y2 y3 y4 y5 z0 t0 z1 t1 z2 t2 z3 t3 z4 t4 z5 t5 B7 B8
    go_wp2_with fail
    go_ret
    exact ⟨rfl, HB0.out.trans ((B6.out.trans (HB8.out.mono B6.out.size)).mono HB0.out.size)⟩
theorem walk_LagOf (A : MiA) (X : Mi) (w : World) (h : MiR w.heap.size A X w) (hc : MiCnt X) (_hs4 : fit X.tx) (_hs5 : fit X.he) :
    Calls Try.prog 6 #[.agg #[.slice A.s X.S.length A.ks, .slice A.r X.R.length A.kr, .slice A.t X.st.length A.kt, .slice A.d X.dt.length A.kd, .int .i64 X.tx, .int .i64 X.he]] w fun e w' => e = .returned (.bool true) ∧ Below w.heap.size w w' :=
  law_LagOf A X w hc h fun hf => ⟨(if GoodMi X.S X.R X.st X.dt X.tx X.he then (((lackL X.S (mk0 X.R)).length : Nat) : Int) else 0), decide (GoodMi X.S X.R X.st X.dt X.tx X.he), fun A v h => sLagOf_any A.s A.r A.t A.d A.ks A.kr A.kt A.kd X.S X.R X.st X.dt X.tx X.he v hf.s hf.r hf.t hf.d h.s h.r h.t h.d, fun A v h => iLagOf_any A.s A.r A.t A.d A.ks A.kr A.kt A.kd X.S X.R X.st X.dt X.tx X.he v hf.s hf.r hf.t hf.d h.s h.r h.t h.d⟩
end Go.Proofs.Ytfdkhoelcmmfcaa

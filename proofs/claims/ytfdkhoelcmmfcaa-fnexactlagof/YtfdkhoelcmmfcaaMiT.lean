/- Mirror made over: the laws' own walk. -/
import Derived.Test.YtfdkhoelcmmfcaaMiW
import Derived.Deep.DeepCutAuto
namespace Go.Proofs.Ytfdkhoelcmmfcaa
set_option maxRecDepth 100000
open Go Go.ChangeShapes Go.WideShapes Go.ChangeAt Go.RowKit
set_option maxHeartbeats 8000000 in
theorem toMirror_any (A : MiA) (X : Mi) (w : World) (hf : MiFit X) (h : MiR w.heap.size A X w) :
    Calls Try.prog 14 #[.agg #[.slice A.s X.S.length A.ks, .slice A.r X.R.length A.kr, .slice A.t X.st.length A.kt, .slice A.d X.dt.length A.kd, .int .i64 X.tx, .int .i64 X.he]] w fun e w' => ∃ A', e = .returned (.agg #[.slice A'.s X.S.length A'.ks, .slice A'.r X.R.length A'.kr, .slice A'.t X.st.length A'.kt, .slice A'.d X.dt.length A'.kd, .int .i64 X.tx, .int .i64 X.he]) ∧ MiR w'.heap.size A' X w' ∧ Below w.heap.size w w' := by
  have HK0 := hid (MiTW.start w #[.slice A.s X.S.length A.ks, .slice A.r X.R.length A.kr, .slice A.t X.st.length A.kt, .slice A.d X.dt.length A.kd, .int .i64 X.tx, .int .i64 X.he])
  have HC0 : Hid (∀ v, Below w.heap.size w v → Calls Try.prog 40 #[.agg #[.slice A.s X.S.length A.ks]] v fun e w' => ∃ b c, e = .returned (.agg #[.slice b X.S.length c]) ∧ OwnK v.heap.size w'.heap.size b X.S w' ∧ Below v.heap.size v w') := fun v g => (toMarks_any A.s A.ks X.S v hf.s ((h.s.below g).mono g.size)).mono fun _ _ ⟨b, c, h1, h2, h3, _⟩ => ⟨b, c, h1, h2, h3⟩
  have HC1 : Hid (∀ v, Below w.heap.size w v → Calls Try.prog 40 #[.agg #[.slice A.r X.R.length A.kr]] v fun e w' => ∃ b c, e = .returned (.agg #[.slice b X.R.length c]) ∧ OwnK v.heap.size w'.heap.size b X.R w' ∧ Below v.heap.size v w') := fun v g => (toMarks_any A.r A.kr X.R v hf.r ((h.r.below g).mono g.size)).mono fun _ _ ⟨b, c, h1, h2, h3, _⟩ => ⟨b, c, h1, h2, h3⟩
  have HC2 : Hid (∀ v, Below w.heap.size w v → Calls Try.prog 41 #[.slice A.t X.st.length A.kt] v fun e w' => ∃ b c, e = .returned (.slice b X.st.length c) ∧ OwnI v.heap.size w'.heap.size b X.st w' ∧ Below v.heap.size v w') := fun v g => to_ownI A.t A.kt X.st v hf.t ((h.t.below g).mono g.size)
  have HC3 : Hid (∀ v, Below w.heap.size w v → Calls Try.prog 42 #[.slice A.d X.dt.length A.kd] v fun e w' => ∃ b c, e = .returned (.slice b X.dt.length c) ∧ OwnS v.heap.size w'.heap.size b X.dt w' ∧ Below v.heap.size v w') := fun v g => to_ownS A.d A.kd X.dt v hf.d ((h.d.below g).mono g.size)
  clear h hf
  go_enter Try.func14, Try.ntmps14
  go_wp2_with fail
  generalize (((w.alloc (.cells #[.slice A.s X.S.length A.ks, .slice A.r X.R.length A.kr, .slice A.t X.st.length A.kt, .slice A.d X.dt.length A.kd, .int .i64 X.tx, .int .i64 X.he] 37)).alloc (.cells #[.slice none 0 0, .slice none 0 0, .slice none 0 0, .slice none 0 0, .int .i64 0, .int .i64 0] 28)).alloc (.cells #[.slice none 0 0, .slice none 0 0, .slice none 0 0, .slice none 0 0, .int .i64 0, .int .i64 0] 28)) = W0 at *
  refine (HC0.out W0 HK0.out.below).mono ?_
  rintro e v0 ⟨b0, c0, rfl, o0, g0⟩
  have hL0 := HK0.out.size
  have hS0 := g0.size
  have hK0 := HK0.out.on g0
  have P0_0 := hid o0
  clear HC0 g0 o0 HK0
  have y0 : v0.cell? ⟨w.heap.size + 1 + 1, 0, none⟩ = some (.slice none 0 0) := box_cell hK0.y 0
  have f0 := box_free hK0.y 0
  have HK1 : Hid (MiTW w #[.slice A.s X.S.length A.ks, .slice A.r X.R.length A.kr, .slice A.t X.st.length A.kt, .slice A.d X.dt.length A.kd, .int .i64 X.tx, .int .i64 X.he] #[.slice none 0 0, .slice none 0 0, .slice none 0 0, .slice none 0 0, .int .i64 0, .int .i64 0] #[.slice b0 X.S.length c0, .slice none 0 0, .slice none 0 0, .slice none 0 0, .int .i64 0, .int .i64 0] (v0.setCell ⟨w.heap.size + 1 + 1, 0, none⟩ (.slice b0 X.S.length c0))) := (hK0.setY 0 (.slice b0 X.S.length c0))
  have hO0 : Out (w.heap.size + 1 + 1) (w.heap.size + 1 + 1 + 1) v0 (v0.setCell ⟨w.heap.size + 1 + 1, 0, none⟩ (.slice b0 X.S.length c0)) := Out.ofBut ((But.refl (w.heap.size + 1 + 1) v0).setCell 0 (.slice b0 X.S.length c0)) (Nat.le_refl _) (Nat.lt_succ_self _)
  have O0_1 := hid (P0_0.out.out hO0 (Or.inr (by omega)))
  have hZ0 : v0.heap.size ≤ (v0.setCell ⟨w.heap.size + 1 + 1, 0, none⟩ (.slice b0 X.S.length c0)).heap.size := hO0.size
  clear hK0 hO0 P0_0
  have x1 : (v0.setCell ⟨w.heap.size + 1 + 1, 0, none⟩ (.slice b0 X.S.length c0)).cell? ⟨w.heap.size, 1, none⟩ = some (.slice A.r X.R.length A.kr) := box_cell HK1.out.x 1
  go_wp2_with fail
  generalize (v0.setCell ⟨w.heap.size + 1 + 1, 0, none⟩ (.slice b0 X.S.length c0)) = W1 at *
  clear y0 f0 x1
  refine (HC1.out W1 HK1.out.below).mono ?_
  rintro e v1 ⟨b1, c1, rfl, o1, g1⟩
  have hL1 := HK1.out.size
  have hS1 := g1.size
  have hK1 := HK1.out.on g1
  have P0_1 := hid (O0_1.out.on g1)
  have P1_1 := hid o1
  clear HC1 g1 o1 HK1 O0_1
  have y1 : v1.cell? ⟨w.heap.size + 1 + 1, 1, none⟩ = some (.slice none 0 0) := box_cell hK1.y 1
  have f1 := box_free hK1.y 1
  have HK2 : Hid (MiTW w #[.slice A.s X.S.length A.ks, .slice A.r X.R.length A.kr, .slice A.t X.st.length A.kt, .slice A.d X.dt.length A.kd, .int .i64 X.tx, .int .i64 X.he] #[.slice none 0 0, .slice none 0 0, .slice none 0 0, .slice none 0 0, .int .i64 0, .int .i64 0] #[.slice b0 X.S.length c0, .slice b1 X.R.length c1, .slice none 0 0, .slice none 0 0, .int .i64 0, .int .i64 0] (v1.setCell ⟨w.heap.size + 1 + 1, 1, none⟩ (.slice b1 X.R.length c1))) := (hK1.setY 1 (.slice b1 X.R.length c1))
  have hO1 : Out (w.heap.size + 1 + 1) (w.heap.size + 1 + 1 + 1) v1 (v1.setCell ⟨w.heap.size + 1 + 1, 1, none⟩ (.slice b1 X.R.length c1)) := Out.ofBut ((But.refl (w.heap.size + 1 + 1) v1).setCell 1 (.slice b1 X.R.length c1)) (Nat.le_refl _) (Nat.lt_succ_self _)
  have O0_2 := hid (P0_1.out.out hO1 (Or.inr (by omega)))
  have O1_2 := hid (P1_1.out.out hO1 (Or.inr (by omega)))
  have hZ1 : v1.heap.size ≤ (v1.setCell ⟨w.heap.size + 1 + 1, 1, none⟩ (.slice b1 X.R.length c1)).heap.size := hO1.size
  clear hK1 hO1 P0_1 P1_1
  have x2 : (v1.setCell ⟨w.heap.size + 1 + 1, 1, none⟩ (.slice b1 X.R.length c1)).cell? ⟨w.heap.size, 2, none⟩ = some (.slice A.t X.st.length A.kt) := box_cell HK2.out.x 2
  go_wp2_with fail
  generalize (v1.setCell ⟨w.heap.size + 1 + 1, 1, none⟩ (.slice b1 X.R.length c1)) = W2 at *
  clear y1 f1 x2
  refine (HC2.out W2 HK2.out.below).mono ?_
  rintro e v2 ⟨b2, c2, rfl, o2, g2⟩
  have hL2 := HK2.out.size
  have hS2 := g2.size
  have hK2 := HK2.out.on g2
  have P0_2 := hid (O0_2.out.on g2)
  have P1_2 := hid (O1_2.out.on g2)
  have P2_2 := hid o2
  clear HC2 g2 o2 HK2 O0_2 O1_2
  have y2 : v2.cell? ⟨w.heap.size + 1 + 1, 2, none⟩ = some (.slice none 0 0) := box_cell hK2.y 2
  have f2 := box_free hK2.y 2
  have HK3 : Hid (MiTW w #[.slice A.s X.S.length A.ks, .slice A.r X.R.length A.kr, .slice A.t X.st.length A.kt, .slice A.d X.dt.length A.kd, .int .i64 X.tx, .int .i64 X.he] #[.slice none 0 0, .slice none 0 0, .slice none 0 0, .slice none 0 0, .int .i64 0, .int .i64 0] #[.slice b0 X.S.length c0, .slice b1 X.R.length c1, .slice b2 X.st.length c2, .slice none 0 0, .int .i64 0, .int .i64 0] (v2.setCell ⟨w.heap.size + 1 + 1, 2, none⟩ (.slice b2 X.st.length c2))) := (hK2.setY 2 (.slice b2 X.st.length c2))
  have hO2 : Out (w.heap.size + 1 + 1) (w.heap.size + 1 + 1 + 1) v2 (v2.setCell ⟨w.heap.size + 1 + 1, 2, none⟩ (.slice b2 X.st.length c2)) := Out.ofBut ((But.refl (w.heap.size + 1 + 1) v2).setCell 2 (.slice b2 X.st.length c2)) (Nat.le_refl _) (Nat.lt_succ_self _)
  have O0_3 := hid (P0_2.out.out hO2 (Or.inr (by omega)))
  have O1_3 := hid (P1_2.out.out hO2 (Or.inr (by omega)))
  have O2_3 := hid (P2_2.out.out hO2 (Or.inr (by omega)))
  have hZ2 : v2.heap.size ≤ (v2.setCell ⟨w.heap.size + 1 + 1, 2, none⟩ (.slice b2 X.st.length c2)).heap.size := hO2.size
  clear hK2 hO2 P0_2 P1_2 P2_2
  have x3 : (v2.setCell ⟨w.heap.size + 1 + 1, 2, none⟩ (.slice b2 X.st.length c2)).cell? ⟨w.heap.size, 3, none⟩ = some (.slice A.d X.dt.length A.kd) := box_cell HK3.out.x 3
  go_wp2_with fail
  generalize (v2.setCell ⟨w.heap.size + 1 + 1, 2, none⟩ (.slice b2 X.st.length c2)) = W3 at *
  clear y2 f2 x3
  refine (HC3.out W3 HK3.out.below).mono ?_
  rintro e v3 ⟨b3, c3, rfl, o3, g3⟩
  have hL3 := HK3.out.size
  have hS3 := g3.size
  have hK3 := HK3.out.on g3
  have P0_3 := hid (O0_3.out.on g3)
  have P1_3 := hid (O1_3.out.on g3)
  have P2_3 := hid (O2_3.out.below g3)
  have P3_3 := hid o3
  clear HC3 g3 o3 HK3 O0_3 O1_3 O2_3
  have y3 : v3.cell? ⟨w.heap.size + 1 + 1, 3, none⟩ = some (.slice none 0 0) := box_cell hK3.y 3
  have f3 := box_free hK3.y 3
  have y4 : v3.cell? ⟨w.heap.size + 1 + 1, 4, none⟩ = some (.int .i64 0) := box_cell hK3.y 4
  have f4 := box_free hK3.y 4
  have y5 : v3.cell? ⟨w.heap.size + 1 + 1, 5, none⟩ = some (.int .i64 0) := box_cell hK3.y 5
  have f5 := box_free hK3.y 5
  have x4 : v3.cell? ⟨w.heap.size, 4, none⟩ = some (.int .i64 X.tx) := box_cell hK3.x 4
  have x5 : v3.cell? ⟨w.heap.size, 5, none⟩ = some (.int .i64 X.he) := box_cell hK3.x 5
  have HK4 : Hid (MiTW w #[.slice A.s X.S.length A.ks, .slice A.r X.R.length A.kr, .slice A.t X.st.length A.kt, .slice A.d X.dt.length A.kd, .int .i64 X.tx, .int .i64 X.he] #[.slice none 0 0, .slice none 0 0, .slice none 0 0, .slice none 0 0, .int .i64 0, .int .i64 0] #[.slice b0 X.S.length c0, .slice b1 X.R.length c1, .slice b2 X.st.length c2, .slice b3 X.dt.length c3, .int .i64 X.tx, .int .i64 X.he] (((v3.setCell ⟨w.heap.size + 1 + 1, 3, none⟩ (.slice b3 X.dt.length c3)).setCell ⟨w.heap.size + 1 + 1, 4, none⟩ (.int .i64 X.tx)).setCell ⟨w.heap.size + 1 + 1, 5, none⟩ (.int .i64 X.he))) := (((hK3.setY 3 (.slice b3 X.dt.length c3)).setY 4 (.int .i64 X.tx)).setY 5 (.int .i64 X.he))
  have hO3 : Out (w.heap.size + 1 + 1) (w.heap.size + 1 + 1 + 1) v3 (((v3.setCell ⟨w.heap.size + 1 + 1, 3, none⟩ (.slice b3 X.dt.length c3)).setCell ⟨w.heap.size + 1 + 1, 4, none⟩ (.int .i64 X.tx)).setCell ⟨w.heap.size + 1 + 1, 5, none⟩ (.int .i64 X.he)) := Out.ofBut ((((But.refl (w.heap.size + 1 + 1) v3).setCell 3 (.slice b3 X.dt.length c3)).setCell 4 (.int .i64 X.tx)).setCell 5 (.int .i64 X.he)) (Nat.le_refl _) (Nat.lt_succ_self _)
  have O0_4 := hid (P0_3.out.out hO3 (Or.inr (by omega)))
  have O1_4 := hid (P1_3.out.out hO3 (Or.inr (by omega)))
  have O2_4 := hid (P2_3.out.out hO3 (Or.inr (by omega)))
  have O3_4 := hid (P3_3.out.out hO3 (Or.inr (by omega)))
  have hZ3 : v3.heap.size ≤ (((v3.setCell ⟨w.heap.size + 1 + 1, 3, none⟩ (.slice b3 X.dt.length c3)).setCell ⟨w.heap.size + 1 + 1, 4, none⟩ (.int .i64 X.tx)).setCell ⟨w.heap.size + 1 + 1, 5, none⟩ (.int .i64 X.he)).heap.size := hO3.size
  clear hK3 hO3 P0_3 P1_3 P2_3 P3_3
  go_upto_region 8 with fail
  generalize (((v3.setCell ⟨w.heap.size + 1 + 1, 3, none⟩ (.slice b3 X.dt.length c3)).setCell ⟨w.heap.size + 1 + 1, 4, none⟩ (.int .i64 X.tx)).setCell ⟨w.heap.size + 1 + 1, 5, none⟩ (.int .i64 X.he)) = W4 at *
  clear y3 f3 y4 f4 y5 f5 x4 x5
  have s0 : W4.cell? ⟨w.heap.size + 1 + 1, 0, none⟩ = some (.slice b0 X.S.length c0) := box_cell HK4.out.y 0
  have z0 : W4.cell? ⟨w.heap.size + 1, 0, none⟩ = some (.slice none 0 0) := box_cell HK4.out.z 0
  have k0 := box_free HK4.out.z 0
  have s1 : W4.cell? ⟨w.heap.size + 1 + 1, 1, none⟩ = some (.slice b1 X.R.length c1) := box_cell HK4.out.y 1
  have z1 : W4.cell? ⟨w.heap.size + 1, 1, none⟩ = some (.slice none 0 0) := box_cell HK4.out.z 1
  have k1 := box_free HK4.out.z 1
  have s2 : W4.cell? ⟨w.heap.size + 1 + 1, 2, none⟩ = some (.slice b2 X.st.length c2) := box_cell HK4.out.y 2
  have z2 : W4.cell? ⟨w.heap.size + 1, 2, none⟩ = some (.slice none 0 0) := box_cell HK4.out.z 2
  have k2 := box_free HK4.out.z 2
  have s3 : W4.cell? ⟨w.heap.size + 1 + 1, 3, none⟩ = some (.slice b3 X.dt.length c3) := box_cell HK4.out.y 3
  have z3 : W4.cell? ⟨w.heap.size + 1, 3, none⟩ = some (.slice none 0 0) := box_cell HK4.out.z 3
  have k3 := box_free HK4.out.z 3
  have s4 : W4.cell? ⟨w.heap.size + 1 + 1, 4, none⟩ = some (.int .i64 X.tx) := box_cell HK4.out.y 4
  have z4 : W4.cell? ⟨w.heap.size + 1, 4, none⟩ = some (.int .i64 0) := box_cell HK4.out.z 4
  have k4 := box_free HK4.out.z 4
  have s5 : W4.cell? ⟨w.heap.size + 1 + 1, 5, none⟩ = some (.int .i64 X.he) := box_cell HK4.out.y 5
  have z5 : W4.cell? ⟨w.heap.size + 1, 5, none⟩ = some (.int .i64 0) := box_cell HK4.out.z 5
  have k5 := box_free HK4.out.z 5
  have HB9 := hid (Mifill_below (Q := w.heap.size + 1) HK4.out.below (by omega) (.slice b0 X.S.length c0) (.slice b1 X.R.length c1) (.slice b2 X.st.length c2) (.slice b3 X.dt.length c3) (.int .i64 X.tx) (.int .i64 X.he))
  have HZ9 := Mifill HK4.out.z (.slice b0 X.S.length c0) (.slice b1 X.R.length c1) (.slice b2 X.st.length c2) (.slice b3 X.dt.length c3) (.int .i64 X.tx) (.int .i64 X.he)
  have hO9 := Mifill_out W4 (w.heap.size + 1) (.slice b0 X.S.length c0) (.slice b1 X.R.length c1) (.slice b2 X.st.length c2) (.slice b3 X.dt.length c3) (.int .i64 X.tx) (.int .i64 X.he)
  have O0_9 := hid (O0_4.out.out hO9 (Or.inr (by omega)))
  have O1_9 := hid (O1_4.out.out hO9 (Or.inr (by omega)))
  have O2_9 := hid (O2_4.out.out hO9 (Or.inr (by omega)))
  have O3_9 := hid (O3_4.out.out hO9 (Or.inr (by omega)))
  clear hO9 HK4 O0_4 O1_4 O2_4 O3_4
  go_wp2_with fail
  generalize ((((((W4.setCell ⟨w.heap.size + 1, 0, none⟩ (.slice b0 X.S.length c0)).setCell ⟨w.heap.size + 1, 1, none⟩ (.slice b1 X.R.length c1)).setCell ⟨w.heap.size + 1, 2, none⟩ (.slice b2 X.st.length c2)).setCell ⟨w.heap.size + 1, 3, none⟩ (.slice b3 X.dt.length c3)).setCell ⟨w.heap.size + 1, 4, none⟩ (.int .i64 X.tx)).setCell ⟨w.heap.size + 1, 5, none⟩ (.int .i64 X.he)) = W9 at *
  have e0 : W9.cell? ⟨w.heap.size + 1, 0, none⟩ = some (.slice b0 X.S.length c0) := box_cell HZ9 0
  have e1 : W9.cell? ⟨w.heap.size + 1, 1, none⟩ = some (.slice b1 X.R.length c1) := box_cell HZ9 1
  have e2 : W9.cell? ⟨w.heap.size + 1, 2, none⟩ = some (.slice b2 X.st.length c2) := box_cell HZ9 2
  have e3 : W9.cell? ⟨w.heap.size + 1, 3, none⟩ = some (.slice b3 X.dt.length c3) := box_cell HZ9 3
  have e4 : W9.cell? ⟨w.heap.size + 1, 4, none⟩ = some (.int .i64 X.tx) := box_cell HZ9 4
  have e5 : W9.cell? ⟨w.heap.size + 1, 5, none⟩ = some (.int .i64 X.he) := box_cell HZ9 5
  refine bodyPost_ret (v := .agg #[.slice b0 X.S.length c0, .slice b1 X.R.length c1, .slice b2 X.st.length c2, .slice b3 X.dt.length c3, .int .i64 X.tx, .int .i64 X.he]) (by simp [results, Try.results14, go_sem, e0, e1, e2, e3, e4, e5]) rfl ?_
  refine ⟨⟨b0, c0, b1, c1, b2, c2, b3, c3⟩, rfl, ⟨O0_9.out.ys, O1_9.out.ys, O2_9.out.is, O3_9.out.ss⟩, HB9.out⟩
end Go.Proofs.Ytfdkhoelcmmfcaa

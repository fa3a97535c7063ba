/- Fences made over: the laws' own walk. -/
import Derived.Test.YtikmkkklgdkpaaaFcW
import Derived.Deep.DeepCutAuto
namespace Go.Proofs.Ytikmkkklgdkpaaa
set_option maxRecDepth 100000
open Go Go.ChangeShapes Go.WideShapes Go.ChangeAt Go.RowKit
set_option maxHeartbeats 8000000 in
theorem toFence_any (A : Af) (X : Fc) (w : World) (hf : FitF X) (h : FR w.heap.size A X w) :
    Calls Try.prog 16 #[.agg #[.slice A.j X.jd.length A.kj, .slice A.g X.gv.length A.kg, .slice A.p X.pl.length A.kp, .slice A.v X.vt.length A.kv, .slice A.n X.wn.length A.kn, .slice A.l X.ln.length A.kl, .int .i64 X.sn, .slice A.s X.st.length A.ks]] w fun e w' => ∃ A', e = .returned (.agg #[.slice A'.j X.jd.length A'.kj, .slice A'.g X.gv.length A'.kg, .slice A'.p X.pl.length A'.kp, .slice A'.v X.vt.length A'.kv, .slice A'.n X.wn.length A'.kn, .slice A'.l X.ln.length A'.kl, .int .i64 X.sn, .slice A'.s X.st.length A'.ks]) ∧ FR w'.heap.size A' X w' ∧ Below w.heap.size w w' := by
  have HK0 := hid (TW.start w #[.slice A.j X.jd.length A.kj, .slice A.g X.gv.length A.kg, .slice A.p X.pl.length A.kp, .slice A.v X.vt.length A.kv, .slice A.n X.wn.length A.kn, .slice A.l X.ln.length A.kl, .int .i64 X.sn, .slice A.s X.st.length A.ks])
  have HC0 : Hid (∀ v, Below w.heap.size w v → Calls Try.prog 53 #[.slice A.j X.jd.length A.kj] v fun e w' => ∃ b c, e = .returned (.slice b X.jd.length c) ∧ OwnI v.heap.size w'.heap.size b X.jd w' ∧ Below v.heap.size v w') := fun v g => to_ownI A.j A.kj X.jd v hf.j ((h.j.below g).mono g.size)
  have HC1 : Hid (∀ v, Below w.heap.size w v → Calls Try.prog 53 #[.slice A.g X.gv.length A.kg] v fun e w' => ∃ b c, e = .returned (.slice b X.gv.length c) ∧ OwnI v.heap.size w'.heap.size b X.gv w' ∧ Below v.heap.size v w') := fun v g => to_ownI A.g A.kg X.gv v hf.g ((h.g.below g).mono g.size)
  have HC2 : Hid (∀ v, Below w.heap.size w v → Calls Try.prog 53 #[.slice A.p X.pl.length A.kp] v fun e w' => ∃ b c, e = .returned (.slice b X.pl.length c) ∧ OwnI v.heap.size w'.heap.size b X.pl w' ∧ Below v.heap.size v w') := fun v g => to_ownI A.p A.kp X.pl v hf.p ((h.p.below g).mono g.size)
  have HC3 : Hid (∀ v, Below w.heap.size w v → Calls Try.prog 54 #[.slice A.v X.vt.length A.kv] v fun e w' => ∃ b c, e = .returned (.slice b X.vt.length c) ∧ OwnR v.heap.size w'.heap.size b X.vt w' ∧ Below v.heap.size v w') := fun v g => to_ownR A.v A.kv X.vt v hf.v.1 hf.v.2 ((h.v.below g).mono g.size)
  have HC4 : Hid (∀ v, Below w.heap.size w v → Calls Try.prog 54 #[.slice A.n X.wn.length A.kn] v fun e w' => ∃ b c, e = .returned (.slice b X.wn.length c) ∧ OwnR v.heap.size w'.heap.size b X.wn w' ∧ Below v.heap.size v w') := fun v g => to_ownR A.n A.kn X.wn v hf.n.1 hf.n.2 ((h.n.below g).mono g.size)
  have HC5 : Hid (∀ v, Below w.heap.size w v → Calls Try.prog 55 #[.slice A.l X.ln.length A.kl] v fun e w' => ∃ b c, e = .returned (.slice b X.ln.length c) ∧ OwnP v.heap.size w'.heap.size b X.ln w' ∧ Below v.heap.size v w') := fun v g => to_ownP A.l A.kl X.ln v hf.l ((h.l.below g).mono g.size)
  have HC6 : Hid (∀ v, Below w.heap.size w v → Calls Try.prog 54 #[.slice A.s X.st.length A.ks] v fun e w' => ∃ b c, e = .returned (.slice b X.st.length c) ∧ OwnR v.heap.size w'.heap.size b X.st w' ∧ Below v.heap.size v w') := fun v g => to_ownR A.s A.ks X.st v hf.s.1 hf.s.2 ((h.s.below g).mono g.size)
  clear h hf
  go_enter Try.func16, Try.ntmps16
  go_wp2_with fail
  generalize (((w.alloc (.cells #[.slice A.j X.jd.length A.kj, .slice A.g X.gv.length A.kg, .slice A.p X.pl.length A.kp, .slice A.v X.vt.length A.kv, .slice A.n X.wn.length A.kn, .slice A.l X.ln.length A.kl, .int .i64 X.sn, .slice A.s X.st.length A.ks] 34)).alloc (.cells #[.slice none 0 0, .slice none 0 0, .slice none 0 0, .slice none 0 0, .slice none 0 0, .slice none 0 0, .int .i64 0, .slice none 0 0] 26)).alloc (.cells #[.slice none 0 0, .slice none 0 0, .slice none 0 0, .slice none 0 0, .slice none 0 0, .slice none 0 0, .int .i64 0, .slice none 0 0] 26)) = W0 at *
  refine (HC0.out W0 HK0.out.below).mono ?_
  rintro e v0 ⟨b0, c0, rfl, o0, g0⟩
  have hL0 := HK0.out.size
  have hS0 := g0.size
  have hK0 := HK0.out.on g0
  have P0_0 := hid o0
  clear HC0 g0 o0 HK0
  have y0 : v0.cell? ⟨w.heap.size + 1 + 1, 0, none⟩ = some (.slice none 0 0) := box_cell hK0.y 0
  have f0 := box_free hK0.y 0
  have HK1 : Hid (TW w #[.slice A.j X.jd.length A.kj, .slice A.g X.gv.length A.kg, .slice A.p X.pl.length A.kp, .slice A.v X.vt.length A.kv, .slice A.n X.wn.length A.kn, .slice A.l X.ln.length A.kl, .int .i64 X.sn, .slice A.s X.st.length A.ks] #[.slice none 0 0, .slice none 0 0, .slice none 0 0, .slice none 0 0, .slice none 0 0, .slice none 0 0, .int .i64 0, .slice none 0 0] #[.slice b0 X.jd.length c0, .slice none 0 0, .slice none 0 0, .slice none 0 0, .slice none 0 0, .slice none 0 0, .int .i64 0, .slice none 0 0] (v0.setCell ⟨w.heap.size + 1 + 1, 0, none⟩ (.slice b0 X.jd.length c0))) := (hK0.setY 0 (.slice b0 X.jd.length c0))
  have hO0 : Out (w.heap.size + 1 + 1) (w.heap.size + 1 + 1 + 1) v0 (v0.setCell ⟨w.heap.size + 1 + 1, 0, none⟩ (.slice b0 X.jd.length c0)) := Out.ofBut ((But.refl (w.heap.size + 1 + 1) v0).setCell 0 (.slice b0 X.jd.length c0)) (Nat.le_refl _) (Nat.lt_succ_self _)
  have O0_1 := hid (P0_0.out.out hO0 (Or.inr (by omega)))
  have hZ0 : v0.heap.size ≤ (v0.setCell ⟨w.heap.size + 1 + 1, 0, none⟩ (.slice b0 X.jd.length c0)).heap.size := hO0.size
  clear hK0 hO0 P0_0
  have x1 : (v0.setCell ⟨w.heap.size + 1 + 1, 0, none⟩ (.slice b0 X.jd.length c0)).cell? ⟨w.heap.size, 1, none⟩ = some (.slice A.g X.gv.length A.kg) := box_cell HK1.out.x 1
  go_wp2_with fail
  generalize (v0.setCell ⟨w.heap.size + 1 + 1, 0, none⟩ (.slice b0 X.jd.length c0)) = W1 at *
  clear y0 f0 x1
  refine (HC1.out W1 HK1.out.below).mono ?_
  rintro e v1 ⟨b1, c1, rfl, o1, g1⟩
  have hL1 := HK1.out.size
  have hS1 := g1.size
  have hK1 := HK1.out.on g1
  have P0_1 := hid (O0_1.out.below g1)
  have P1_1 := hid o1
  clear HC1 g1 o1 HK1 O0_1
  have y1 : v1.cell? ⟨w.heap.size + 1 + 1, 1, none⟩ = some (.slice none 0 0) := box_cell hK1.y 1
  have f1 := box_free hK1.y 1
  have HK2 : Hid (TW w #[.slice A.j X.jd.length A.kj, .slice A.g X.gv.length A.kg, .slice A.p X.pl.length A.kp, .slice A.v X.vt.length A.kv, .slice A.n X.wn.length A.kn, .slice A.l X.ln.length A.kl, .int .i64 X.sn, .slice A.s X.st.length A.ks] #[.slice none 0 0, .slice none 0 0, .slice none 0 0, .slice none 0 0, .slice none 0 0, .slice none 0 0, .int .i64 0, .slice none 0 0] #[.slice b0 X.jd.length c0, .slice b1 X.gv.length c1, .slice none 0 0, .slice none 0 0, .slice none 0 0, .slice none 0 0, .int .i64 0, .slice none 0 0] (v1.setCell ⟨w.heap.size + 1 + 1, 1, none⟩ (.slice b1 X.gv.length c1))) := (hK1.setY 1 (.slice b1 X.gv.length c1))
  have hO1 : Out (w.heap.size + 1 + 1) (w.heap.size + 1 + 1 + 1) v1 (v1.setCell ⟨w.heap.size + 1 + 1, 1, none⟩ (.slice b1 X.gv.length c1)) := Out.ofBut ((But.refl (w.heap.size + 1 + 1) v1).setCell 1 (.slice b1 X.gv.length c1)) (Nat.le_refl _) (Nat.lt_succ_self _)
  have O0_2 := hid (P0_1.out.out hO1 (Or.inr (by omega)))
  have O1_2 := hid (P1_1.out.out hO1 (Or.inr (by omega)))
  have hZ1 : v1.heap.size ≤ (v1.setCell ⟨w.heap.size + 1 + 1, 1, none⟩ (.slice b1 X.gv.length c1)).heap.size := hO1.size
  clear hK1 hO1 P0_1 P1_1
  have x2 : (v1.setCell ⟨w.heap.size + 1 + 1, 1, none⟩ (.slice b1 X.gv.length c1)).cell? ⟨w.heap.size, 2, none⟩ = some (.slice A.p X.pl.length A.kp) := box_cell HK2.out.x 2
  go_wp2_with fail
  generalize (v1.setCell ⟨w.heap.size + 1 + 1, 1, none⟩ (.slice b1 X.gv.length c1)) = W2 at *
  clear y1 f1 x2
  refine (HC2.out W2 HK2.out.below).mono ?_
  rintro e v2 ⟨b2, c2, rfl, o2, g2⟩
  have hL2 := HK2.out.size
  have hS2 := g2.size
  have hK2 := HK2.out.on g2
  have P0_2 := hid (O0_2.out.below g2)
  have P1_2 := hid (O1_2.out.below g2)
  have P2_2 := hid o2
  clear HC2 g2 o2 HK2 O0_2 O1_2
  have y2 : v2.cell? ⟨w.heap.size + 1 + 1, 2, none⟩ = some (.slice none 0 0) := box_cell hK2.y 2
  have f2 := box_free hK2.y 2
  have HK3 : Hid (TW w #[.slice A.j X.jd.length A.kj, .slice A.g X.gv.length A.kg, .slice A.p X.pl.length A.kp, .slice A.v X.vt.length A.kv, .slice A.n X.wn.length A.kn, .slice A.l X.ln.length A.kl, .int .i64 X.sn, .slice A.s X.st.length A.ks] #[.slice none 0 0, .slice none 0 0, .slice none 0 0, .slice none 0 0, .slice none 0 0, .slice none 0 0, .int .i64 0, .slice none 0 0] #[.slice b0 X.jd.length c0, .slice b1 X.gv.length c1, .slice b2 X.pl.length c2, .slice none 0 0, .slice none 0 0, .slice none 0 0, .int .i64 0, .slice none 0 0] (v2.setCell ⟨w.heap.size + 1 + 1, 2, none⟩ (.slice b2 X.pl.length c2))) := (hK2.setY 2 (.slice b2 X.pl.length c2))
  have hO2 : Out (w.heap.size + 1 + 1) (w.heap.size + 1 + 1 + 1) v2 (v2.setCell ⟨w.heap.size + 1 + 1, 2, none⟩ (.slice b2 X.pl.length c2)) := Out.ofBut ((But.refl (w.heap.size + 1 + 1) v2).setCell 2 (.slice b2 X.pl.length c2)) (Nat.le_refl _) (Nat.lt_succ_self _)
  have O0_3 := hid (P0_2.out.out hO2 (Or.inr (by omega)))
  have O1_3 := hid (P1_2.out.out hO2 (Or.inr (by omega)))
  have O2_3 := hid (P2_2.out.out hO2 (Or.inr (by omega)))
  have hZ2 : v2.heap.size ≤ (v2.setCell ⟨w.heap.size + 1 + 1, 2, none⟩ (.slice b2 X.pl.length c2)).heap.size := hO2.size
  clear hK2 hO2 P0_2 P1_2 P2_2
  have x3 : (v2.setCell ⟨w.heap.size + 1 + 1, 2, none⟩ (.slice b2 X.pl.length c2)).cell? ⟨w.heap.size, 3, none⟩ = some (.slice A.v X.vt.length A.kv) := box_cell HK3.out.x 3
  go_wp2_with fail
  generalize (v2.setCell ⟨w.heap.size + 1 + 1, 2, none⟩ (.slice b2 X.pl.length c2)) = W3 at *
  clear y2 f2 x3
  refine (HC3.out W3 HK3.out.below).mono ?_
  rintro e v3 ⟨b3, c3, rfl, o3, g3⟩
  have hL3 := HK3.out.size
  have hS3 := g3.size
  have hK3 := HK3.out.on g3
  have P0_3 := hid (O0_3.out.below g3)
  have P1_3 := hid (O1_3.out.below g3)
  have P2_3 := hid (O2_3.out.below g3)
  have P3_3 := hid o3
  clear HC3 g3 o3 HK3 O0_3 O1_3 O2_3
  have y3 : v3.cell? ⟨w.heap.size + 1 + 1, 3, none⟩ = some (.slice none 0 0) := box_cell hK3.y 3
  have f3 := box_free hK3.y 3
  have HK4 : Hid (TW w #[.slice A.j X.jd.length A.kj, .slice A.g X.gv.length A.kg, .slice A.p X.pl.length A.kp, .slice A.v X.vt.length A.kv, .slice A.n X.wn.length A.kn, .slice A.l X.ln.length A.kl, .int .i64 X.sn, .slice A.s X.st.length A.ks] #[.slice none 0 0, .slice none 0 0, .slice none 0 0, .slice none 0 0, .slice none 0 0, .slice none 0 0, .int .i64 0, .slice none 0 0] #[.slice b0 X.jd.length c0, .slice b1 X.gv.length c1, .slice b2 X.pl.length c2, .slice b3 X.vt.length c3, .slice none 0 0, .slice none 0 0, .int .i64 0, .slice none 0 0] (v3.setCell ⟨w.heap.size + 1 + 1, 3, none⟩ (.slice b3 X.vt.length c3))) := (hK3.setY 3 (.slice b3 X.vt.length c3))
  have hO3 : Out (w.heap.size + 1 + 1) (w.heap.size + 1 + 1 + 1) v3 (v3.setCell ⟨w.heap.size + 1 + 1, 3, none⟩ (.slice b3 X.vt.length c3)) := Out.ofBut ((But.refl (w.heap.size + 1 + 1) v3).setCell 3 (.slice b3 X.vt.length c3)) (Nat.le_refl _) (Nat.lt_succ_self _)
  have O0_4 := hid (P0_3.out.out hO3 (Or.inr (by omega)))
  have O1_4 := hid (P1_3.out.out hO3 (Or.inr (by omega)))
  have O2_4 := hid (P2_3.out.out hO3 (Or.inr (by omega)))
  have O3_4 := hid (P3_3.out.out hO3 (Or.inr (by omega)))
  have hZ3 : v3.heap.size ≤ (v3.setCell ⟨w.heap.size + 1 + 1, 3, none⟩ (.slice b3 X.vt.length c3)).heap.size := hO3.size
  clear hK3 hO3 P0_3 P1_3 P2_3 P3_3
  have x4 : (v3.setCell ⟨w.heap.size + 1 + 1, 3, none⟩ (.slice b3 X.vt.length c3)).cell? ⟨w.heap.size, 4, none⟩ = some (.slice A.n X.wn.length A.kn) := box_cell HK4.out.x 4
  go_wp2_with fail
  generalize (v3.setCell ⟨w.heap.size + 1 + 1, 3, none⟩ (.slice b3 X.vt.length c3)) = W4 at *
  clear y3 f3 x4
  refine (HC4.out W4 HK4.out.below).mono ?_
  rintro e v4 ⟨b4, c4, rfl, o4, g4⟩
  have hL4 := HK4.out.size
  have hS4 := g4.size
  have hK4 := HK4.out.on g4
  have P0_4 := hid (O0_4.out.below g4)
  have P1_4 := hid (O1_4.out.below g4)
  have P2_4 := hid (O2_4.out.below g4)
  have P3_4 := hid (O3_4.out.below g4)
  have P4_4 := hid o4
  clear HC4 g4 o4 HK4 O0_4 O1_4 O2_4 O3_4
  have y4 : v4.cell? ⟨w.heap.size + 1 + 1, 4, none⟩ = some (.slice none 0 0) := box_cell hK4.y 4
  have f4 := box_free hK4.y 4
  have HK5 : Hid (TW w #[.slice A.j X.jd.length A.kj, .slice A.g X.gv.length A.kg, .slice A.p X.pl.length A.kp, .slice A.v X.vt.length A.kv, .slice A.n X.wn.length A.kn, .slice A.l X.ln.length A.kl, .int .i64 X.sn, .slice A.s X.st.length A.ks] #[.slice none 0 0, .slice none 0 0, .slice none 0 0, .slice none 0 0, .slice none 0 0, .slice none 0 0, .int .i64 0, .slice none 0 0] #[.slice b0 X.jd.length c0, .slice b1 X.gv.length c1, .slice b2 X.pl.length c2, .slice b3 X.vt.length c3, .slice b4 X.wn.length c4, .slice none 0 0, .int .i64 0, .slice none 0 0] (v4.setCell ⟨w.heap.size + 1 + 1, 4, none⟩ (.slice b4 X.wn.length c4))) := (hK4.setY 4 (.slice b4 X.wn.length c4))
  have hO4 : Out (w.heap.size + 1 + 1) (w.heap.size + 1 + 1 + 1) v4 (v4.setCell ⟨w.heap.size + 1 + 1, 4, none⟩ (.slice b4 X.wn.length c4)) := Out.ofBut ((But.refl (w.heap.size + 1 + 1) v4).setCell 4 (.slice b4 X.wn.length c4)) (Nat.le_refl _) (Nat.lt_succ_self _)
  have O0_5 := hid (P0_4.out.out hO4 (Or.inr (by omega)))
  have O1_5 := hid (P1_4.out.out hO4 (Or.inr (by omega)))
  have O2_5 := hid (P2_4.out.out hO4 (Or.inr (by omega)))
  have O3_5 := hid (P3_4.out.out hO4 (Or.inr (by omega)))
  have O4_5 := hid (P4_4.out.out hO4 (Or.inr (by omega)))
  have hZ4 : v4.heap.size ≤ (v4.setCell ⟨w.heap.size + 1 + 1, 4, none⟩ (.slice b4 X.wn.length c4)).heap.size := hO4.size
  clear hK4 hO4 P0_4 P1_4 P2_4 P3_4 P4_4
  have x5 : (v4.setCell ⟨w.heap.size + 1 + 1, 4, none⟩ (.slice b4 X.wn.length c4)).cell? ⟨w.heap.size, 5, none⟩ = some (.slice A.l X.ln.length A.kl) := box_cell HK5.out.x 5
  go_wp2_with fail
  generalize (v4.setCell ⟨w.heap.size + 1 + 1, 4, none⟩ (.slice b4 X.wn.length c4)) = W5 at *
  clear y4 f4 x5
  refine (HC5.out W5 HK5.out.below).mono ?_
  rintro e v5 ⟨b5, c5, rfl, o5, g5⟩
  have hL5 := HK5.out.size
  have hS5 := g5.size
  have hK5 := HK5.out.on g5
  have P0_5 := hid (O0_5.out.below g5)
  have P1_5 := hid (O1_5.out.below g5)
  have P2_5 := hid (O2_5.out.below g5)
  have P3_5 := hid (O3_5.out.below g5)
  have P4_5 := hid (O4_5.out.below g5)
  have P5_5 := hid o5
  clear HC5 g5 o5 HK5 O0_5 O1_5 O2_5 O3_5 O4_5
  have y5 : v5.cell? ⟨w.heap.size + 1 + 1, 5, none⟩ = some (.slice none 0 0) := box_cell hK5.y 5
  have f5 := box_free hK5.y 5
  have y6 : v5.cell? ⟨w.heap.size + 1 + 1, 6, none⟩ = some (.int .i64 0) := box_cell hK5.y 6
  have f6 := box_free hK5.y 6
  have x6 : v5.cell? ⟨w.heap.size, 6, none⟩ = some (.int .i64 X.sn) := box_cell hK5.x 6
  have HK6 : Hid (TW w #[.slice A.j X.jd.length A.kj, .slice A.g X.gv.length A.kg, .slice A.p X.pl.length A.kp, .slice A.v X.vt.length A.kv, .slice A.n X.wn.length A.kn, .slice A.l X.ln.length A.kl, .int .i64 X.sn, .slice A.s X.st.length A.ks] #[.slice none 0 0, .slice none 0 0, .slice none 0 0, .slice none 0 0, .slice none 0 0, .slice none 0 0, .int .i64 0, .slice none 0 0] #[.slice b0 X.jd.length c0, .slice b1 X.gv.length c1, .slice b2 X.pl.length c2, .slice b3 X.vt.length c3, .slice b4 X.wn.length c4, .slice b5 X.ln.length c5, .int .i64 X.sn, .slice none 0 0] ((v5.setCell ⟨w.heap.size + 1 + 1, 5, none⟩ (.slice b5 X.ln.length c5)).setCell ⟨w.heap.size + 1 + 1, 6, none⟩ (.int .i64 X.sn))) := ((hK5.setY 5 (.slice b5 X.ln.length c5)).setY 6 (.int .i64 X.sn))
  have hO5 : Out (w.heap.size + 1 + 1) (w.heap.size + 1 + 1 + 1) v5 ((v5.setCell ⟨w.heap.size + 1 + 1, 5, none⟩ (.slice b5 X.ln.length c5)).setCell ⟨w.heap.size + 1 + 1, 6, none⟩ (.int .i64 X.sn)) := Out.ofBut (((But.refl (w.heap.size + 1 + 1) v5).setCell 5 (.slice b5 X.ln.length c5)).setCell 6 (.int .i64 X.sn)) (Nat.le_refl _) (Nat.lt_succ_self _)
  have O0_6 := hid (P0_5.out.out hO5 (Or.inr (by omega)))
  have O1_6 := hid (P1_5.out.out hO5 (Or.inr (by omega)))
  have O2_6 := hid (P2_5.out.out hO5 (Or.inr (by omega)))
  have O3_6 := hid (P3_5.out.out hO5 (Or.inr (by omega)))
  have O4_6 := hid (P4_5.out.out hO5 (Or.inr (by omega)))
  have O5_6 := hid (P5_5.out.out hO5 (Or.inr (by omega)))
  have hZ5 : v5.heap.size ≤ ((v5.setCell ⟨w.heap.size + 1 + 1, 5, none⟩ (.slice b5 X.ln.length c5)).setCell ⟨w.heap.size + 1 + 1, 6, none⟩ (.int .i64 X.sn)).heap.size := hO5.size
  clear hK5 hO5 P0_5 P1_5 P2_5 P3_5 P4_5 P5_5
  have x7 : ((v5.setCell ⟨w.heap.size + 1 + 1, 5, none⟩ (.slice b5 X.ln.length c5)).setCell ⟨w.heap.size + 1 + 1, 6, none⟩ (.int .i64 X.sn)).cell? ⟨w.heap.size, 7, none⟩ = some (.slice A.s X.st.length A.ks) := box_cell HK6.out.x 7
  go_wp2_with fail
  generalize ((v5.setCell ⟨w.heap.size + 1 + 1, 5, none⟩ (.slice b5 X.ln.length c5)).setCell ⟨w.heap.size + 1 + 1, 6, none⟩ (.int .i64 X.sn)) = W6 at *
  clear y5 f5 y6 f6 x7 x6
  refine (HC6.out W6 HK6.out.below).mono ?_
  rintro e v6 ⟨b6, c6, rfl, o6, g6⟩
  have hL6 := HK6.out.size
  have hS6 := g6.size
  have hK6 := HK6.out.on g6
  have P0_6 := hid (O0_6.out.below g6)
  have P1_6 := hid (O1_6.out.below g6)
  have P2_6 := hid (O2_6.out.below g6)
  have P3_6 := hid (O3_6.out.below g6)
  have P4_6 := hid (O4_6.out.below g6)
  have P5_6 := hid (O5_6.out.below g6)
  have P6_6 := hid o6
  clear HC6 g6 o6 HK6 O0_6 O1_6 O2_6 O3_6 O4_6 O5_6
  have y7 : v6.cell? ⟨w.heap.size + 1 + 1, 7, none⟩ = some (.slice none 0 0) := box_cell hK6.y 7
  have f7 := box_free hK6.y 7
  have HK7 : Hid (TW w #[.slice A.j X.jd.length A.kj, .slice A.g X.gv.length A.kg, .slice A.p X.pl.length A.kp, .slice A.v X.vt.length A.kv, .slice A.n X.wn.length A.kn, .slice A.l X.ln.length A.kl, .int .i64 X.sn, .slice A.s X.st.length A.ks] #[.slice none 0 0, .slice none 0 0, .slice none 0 0, .slice none 0 0, .slice none 0 0, .slice none 0 0, .int .i64 0, .slice none 0 0] #[.slice b0 X.jd.length c0, .slice b1 X.gv.length c1, .slice b2 X.pl.length c2, .slice b3 X.vt.length c3, .slice b4 X.wn.length c4, .slice b5 X.ln.length c5, .int .i64 X.sn, .slice b6 X.st.length c6] (v6.setCell ⟨w.heap.size + 1 + 1, 7, none⟩ (.slice b6 X.st.length c6))) := (hK6.setY 7 (.slice b6 X.st.length c6))
  have hO6 : Out (w.heap.size + 1 + 1) (w.heap.size + 1 + 1 + 1) v6 (v6.setCell ⟨w.heap.size + 1 + 1, 7, none⟩ (.slice b6 X.st.length c6)) := Out.ofBut ((But.refl (w.heap.size + 1 + 1) v6).setCell 7 (.slice b6 X.st.length c6)) (Nat.le_refl _) (Nat.lt_succ_self _)
  have O0_7 := hid (P0_6.out.out hO6 (Or.inr (by omega)))
  have O1_7 := hid (P1_6.out.out hO6 (Or.inr (by omega)))
  have O2_7 := hid (P2_6.out.out hO6 (Or.inr (by omega)))
  have O3_7 := hid (P3_6.out.out hO6 (Or.inr (by omega)))
  have O4_7 := hid (P4_6.out.out hO6 (Or.inr (by omega)))
  have O5_7 := hid (P5_6.out.out hO6 (Or.inr (by omega)))
  have O6_7 := hid (P6_6.out.out hO6 (Or.inr (by omega)))
  have hZ6 : v6.heap.size ≤ (v6.setCell ⟨w.heap.size + 1 + 1, 7, none⟩ (.slice b6 X.st.length c6)).heap.size := hO6.size
  clear hK6 hO6 P0_6 P1_6 P2_6 P3_6 P4_6 P5_6 P6_6
  go_upto_region 10 with fail
  generalize (v6.setCell ⟨w.heap.size + 1 + 1, 7, none⟩ (.slice b6 X.st.length c6)) = W7 at *
  clear y7 f7
  have s0 : W7.cell? ⟨w.heap.size + 1 + 1, 0, none⟩ = some (.slice b0 X.jd.length c0) := box_cell HK7.out.y 0
  have z0 : W7.cell? ⟨w.heap.size + 1, 0, none⟩ = some (.slice none 0 0) := box_cell HK7.out.z 0
  have k0 := box_free HK7.out.z 0
  have s1 : W7.cell? ⟨w.heap.size + 1 + 1, 1, none⟩ = some (.slice b1 X.gv.length c1) := box_cell HK7.out.y 1
  have z1 : W7.cell? ⟨w.heap.size + 1, 1, none⟩ = some (.slice none 0 0) := box_cell HK7.out.z 1
  have k1 := box_free HK7.out.z 1
  have s2 : W7.cell? ⟨w.heap.size + 1 + 1, 2, none⟩ = some (.slice b2 X.pl.length c2) := box_cell HK7.out.y 2
  have z2 : W7.cell? ⟨w.heap.size + 1, 2, none⟩ = some (.slice none 0 0) := box_cell HK7.out.z 2
  have k2 := box_free HK7.out.z 2
  have s3 : W7.cell? ⟨w.heap.size + 1 + 1, 3, none⟩ = some (.slice b3 X.vt.length c3) := box_cell HK7.out.y 3
  have z3 : W7.cell? ⟨w.heap.size + 1, 3, none⟩ = some (.slice none 0 0) := box_cell HK7.out.z 3
  have k3 := box_free HK7.out.z 3
  have s4 : W7.cell? ⟨w.heap.size + 1 + 1, 4, none⟩ = some (.slice b4 X.wn.length c4) := box_cell HK7.out.y 4
  have z4 : W7.cell? ⟨w.heap.size + 1, 4, none⟩ = some (.slice none 0 0) := box_cell HK7.out.z 4
  have k4 := box_free HK7.out.z 4
  have s5 : W7.cell? ⟨w.heap.size + 1 + 1, 5, none⟩ = some (.slice b5 X.ln.length c5) := box_cell HK7.out.y 5
  have z5 : W7.cell? ⟨w.heap.size + 1, 5, none⟩ = some (.slice none 0 0) := box_cell HK7.out.z 5
  have k5 := box_free HK7.out.z 5
  have s6 : W7.cell? ⟨w.heap.size + 1 + 1, 6, none⟩ = some (.int .i64 X.sn) := box_cell HK7.out.y 6
  have z6 : W7.cell? ⟨w.heap.size + 1, 6, none⟩ = some (.int .i64 0) := box_cell HK7.out.z 6
  have k6 := box_free HK7.out.z 6
  have s7 : W7.cell? ⟨w.heap.size + 1 + 1, 7, none⟩ = some (.slice b6 X.st.length c6) := box_cell HK7.out.y 7
  have z7 : W7.cell? ⟨w.heap.size + 1, 7, none⟩ = some (.slice none 0 0) := box_cell HK7.out.z 7
  have k7 := box_free HK7.out.z 7
  have HB9 := hid (fill8_below (Q := w.heap.size + 1) HK7.out.below (by omega) (.slice b0 X.jd.length c0) (.slice b1 X.gv.length c1) (.slice b2 X.pl.length c2) (.slice b3 X.vt.length c3) (.slice b4 X.wn.length c4) (.slice b5 X.ln.length c5) (.int .i64 X.sn) (.slice b6 X.st.length c6))
  have HZ9 := fill8 HK7.out.z (.slice b0 X.jd.length c0) (.slice b1 X.gv.length c1) (.slice b2 X.pl.length c2) (.slice b3 X.vt.length c3) (.slice b4 X.wn.length c4) (.slice b5 X.ln.length c5) (.int .i64 X.sn) (.slice b6 X.st.length c6)
  have hO9 := fill8_out W7 (w.heap.size + 1) (.slice b0 X.jd.length c0) (.slice b1 X.gv.length c1) (.slice b2 X.pl.length c2) (.slice b3 X.vt.length c3) (.slice b4 X.wn.length c4) (.slice b5 X.ln.length c5) (.int .i64 X.sn) (.slice b6 X.st.length c6)
  have O0_9 := hid (O0_7.out.out hO9 (Or.inr (by omega)))
  have O1_9 := hid (O1_7.out.out hO9 (Or.inr (by omega)))
  have O2_9 := hid (O2_7.out.out hO9 (Or.inr (by omega)))
  have O3_9 := hid (O3_7.out.out hO9 (Or.inr (by omega)))
  have O4_9 := hid (O4_7.out.out hO9 (Or.inr (by omega)))
  have O5_9 := hid (O5_7.out.out hO9 (Or.inr (by omega)))
  have O6_9 := hid (O6_7.out.out hO9 (Or.inr (by omega)))
  clear hO9 HK7 O0_7 O1_7 O2_7 O3_7 O4_7 O5_7 O6_7
  go_wp2_with fail
  generalize ((((((((W7.setCell ⟨w.heap.size + 1, 0, none⟩ (.slice b0 X.jd.length c0)).setCell ⟨w.heap.size + 1, 1, none⟩ (.slice b1 X.gv.length c1)).setCell ⟨w.heap.size + 1, 2, none⟩ (.slice b2 X.pl.length c2)).setCell ⟨w.heap.size + 1, 3, none⟩ (.slice b3 X.vt.length c3)).setCell ⟨w.heap.size + 1, 4, none⟩ (.slice b4 X.wn.length c4)).setCell ⟨w.heap.size + 1, 5, none⟩ (.slice b5 X.ln.length c5)).setCell ⟨w.heap.size + 1, 6, none⟩ (.int .i64 X.sn)).setCell ⟨w.heap.size + 1, 7, none⟩ (.slice b6 X.st.length c6)) = W9 at *
  have e0 : W9.cell? ⟨w.heap.size + 1, 0, none⟩ = some (.slice b0 X.jd.length c0) := box_cell HZ9 0
  have e1 : W9.cell? ⟨w.heap.size + 1, 1, none⟩ = some (.slice b1 X.gv.length c1) := box_cell HZ9 1
  have e2 : W9.cell? ⟨w.heap.size + 1, 2, none⟩ = some (.slice b2 X.pl.length c2) := box_cell HZ9 2
  have e3 : W9.cell? ⟨w.heap.size + 1, 3, none⟩ = some (.slice b3 X.vt.length c3) := box_cell HZ9 3
  have e4 : W9.cell? ⟨w.heap.size + 1, 4, none⟩ = some (.slice b4 X.wn.length c4) := box_cell HZ9 4
  have e5 : W9.cell? ⟨w.heap.size + 1, 5, none⟩ = some (.slice b5 X.ln.length c5) := box_cell HZ9 5
  have e6 : W9.cell? ⟨w.heap.size + 1, 6, none⟩ = some (.int .i64 X.sn) := box_cell HZ9 6
  have e7 : W9.cell? ⟨w.heap.size + 1, 7, none⟩ = some (.slice b6 X.st.length c6) := box_cell HZ9 7
  refine bodyPost_ret (v := .agg #[.slice b0 X.jd.length c0, .slice b1 X.gv.length c1, .slice b2 X.pl.length c2, .slice b3 X.vt.length c3, .slice b4 X.wn.length c4, .slice b5 X.ln.length c5, .int .i64 X.sn, .slice b6 X.st.length c6]) (by simp [results, Try.results16, go_sem, e0, e1, e2, e3, e4, e5, e6, e7]) rfl ?_
  refine ⟨⟨b0, c0, b1, c1, b2, c2, b3, c3, b4, c4, b5, c5, b6, c6⟩, rfl, ⟨O0_9.out.is, O1_9.out.is, O2_9.out.is, O3_9.out.js, O4_9.out.js, O5_9.out.ps, O6_9.out.js⟩, HB9.out⟩
end Go.Proofs.Ytikmkkklgdkpaaa

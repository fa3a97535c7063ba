/- Windows made over, held against each other, marked: the laws' own walks. -/
import Derived.Test.YtaiilhhkfjlkoaaNWin
namespace Go.Proofs.Ytaiilhhkfjlkoaa
set_option maxRecDepth 100000
open Go.ChangeShapes Go.WideShapes Go.ChangeAt Go.RowKit
set_option maxHeartbeats 8000000 in
theorem toWindow_any (A : Ad) (X : Wd) (w : World) (hf : FitW X) (h : WR w.heap.size A X w) :
    Calls Try.prog 20 #[.agg #[.slice A.p X.pc.length A.kp, .int .i64 X.sz, .slice A.h X.hd.length A.kh, .slice A.l X.ln.length A.kl, .slice A.e X.hl.length A.ke, .slice A.s X.hs.length A.ks, .int .i64 X.td]] w fun e w' => ∃ A', e = .returned (.agg #[.slice A'.p X.pc.length A'.kp, .int .i64 X.sz, .slice A'.h X.hd.length A'.kh, .slice A'.l X.ln.length A'.kl, .slice A'.e X.hl.length A'.ke, .slice A'.s X.hs.length A'.ks, .int .i64 X.td]) ∧ WO w.heap.size w'.heap.size A' X w' ∧ Below w.heap.size w w' := by
  have HK0 := hid (TW.start w #[.slice A.p X.pc.length A.kp, .int .i64 X.sz, .slice A.h X.hd.length A.kh, .slice A.l X.ln.length A.kl, .slice A.e X.hl.length A.ke, .slice A.s X.hs.length A.ks, .int .i64 X.td])
  have HC0 : Hid (∀ v, Below w.heap.size w v → Calls Try.prog 11 #[.slice A.p X.pc.length A.kp] v fun e w' => ∃ b, e = .returned (.slice b X.pc.length X.pc.length) ∧ OwnS v.heap.size w'.heap.size b X.pc w' ∧ Below v.heap.size v w') := fun v g => to_ownS A.p A.kp X.pc v hf.p ((h.p.below g).mono g.size)
  have HC1 : Hid (∀ v, Below w.heap.size w v → Calls Try.prog 51 #[.slice A.h X.hd.length A.kh] v fun e w' => ∃ b, e = .returned (.slice b X.hd.length X.hd.length) ∧ OwnB v.heap.size w'.heap.size b X.hd w' ∧ Below v.heap.size v w') := fun v g => to_ownB A.h A.kh X.hd v hf.h ((h.h.below g).mono g.size)
  have HC2 : Hid (∀ v, Below w.heap.size w v → Calls Try.prog 52 #[.slice A.l X.ln.length A.kl] v fun e w' => ∃ b, e = .returned (.slice b X.ln.length X.ln.length) ∧ OwnF v.heap.size w'.heap.size b X.ln w' ∧ Below v.heap.size v w') := fun v g => to_ownF A.l A.kl X.ln v hf.l ((h.l.below g).mono g.size)
  have HC3 : Hid (∀ v, Below w.heap.size w v → Calls Try.prog 11 #[.slice A.e X.hl.length A.ke] v fun e w' => ∃ b, e = .returned (.slice b X.hl.length X.hl.length) ∧ OwnS v.heap.size w'.heap.size b X.hl w' ∧ Below v.heap.size v w') := fun v g => to_ownS A.e A.ke X.hl v hf.e ((h.e.below g).mono g.size)
  have HC4 : Hid (∀ v, Below w.heap.size w v → Calls Try.prog 51 #[.slice A.s X.hs.length A.ks] v fun e w' => ∃ b, e = .returned (.slice b X.hs.length X.hs.length) ∧ OwnB v.heap.size w'.heap.size b X.hs w' ∧ Below v.heap.size v w') := fun v g => to_ownB A.s A.ks X.hs v hf.s ((h.s.below g).mono g.size)
  clear h hf
  go_enter Try.func20, Try.ntmps20
  go_wp2_with fail
  generalize (((w.alloc (.cells #[.slice A.p X.pc.length A.kp, .int .i64 X.sz, .slice A.h X.hd.length A.kh, .slice A.l X.ln.length A.kl, .slice A.e X.hl.length A.ke, .slice A.s X.hs.length A.ks, .int .i64 X.td] 37)).alloc (.cells #[.slice none 0 0, .int .i64 0, .slice none 0 0, .slice none 0 0, .slice none 0 0, .slice none 0 0, .int .i64 0] 27)).alloc (.cells #[.slice none 0 0, .int .i64 0, .slice none 0 0, .slice none 0 0, .slice none 0 0, .slice none 0 0, .int .i64 0] 27)) = W0 at *
  refine (HC0.out W0 HK0.out.below).mono ?_
  rintro e v0 ⟨b0, rfl, o0, g0⟩
  have hL0 := HK0.out.size
  have hS0 := g0.size
  have hK0 := HK0.out.on g0
  have P0_0 := hid o0
  clear HC0 g0 o0 HK0
  have y0 : v0.cell? ⟨w.heap.size + 1 + 1, 0, none⟩ = some (.slice none 0 0) := box_cell hK0.y 0
  have f0 := box_free hK0.y 0
  have y1 : v0.cell? ⟨w.heap.size + 1 + 1, 1, none⟩ = some (.int .i64 0) := box_cell hK0.y 1
  have f1 := box_free hK0.y 1
  have x1 : v0.cell? ⟨w.heap.size, 1, none⟩ = some (.int .i64 X.sz) := box_cell hK0.x 1
  have HK1 := hid ((hK0.setY 0 (.slice b0 X.pc.length X.pc.length)).setY 1 (.int .i64 X.sz))
  have hO0 : Out (w.heap.size + 1 + 1) (w.heap.size + 1 + 1 + 1) v0 ((v0.setCell ⟨w.heap.size + 1 + 1, 0, none⟩ (.slice b0 X.pc.length X.pc.length)).setCell ⟨w.heap.size + 1 + 1, 1, none⟩ (.int .i64 X.sz)) := Out.ofBut (((But.refl (w.heap.size + 1 + 1) v0).setCell 0 (.slice b0 X.pc.length X.pc.length)).setCell 1 (.int .i64 X.sz)) (Nat.le_refl _) (Nat.lt_succ_self _)
  have O0_1 := hid (P0_0.out.out hO0 (Or.inr (by omega)))
  have hZ0 : v0.heap.size ≤ ((v0.setCell ⟨w.heap.size + 1 + 1, 0, none⟩ (.slice b0 X.pc.length X.pc.length)).setCell ⟨w.heap.size + 1 + 1, 1, none⟩ (.int .i64 X.sz)).heap.size := hO0.size
  clear hK0 hO0 P0_0
  have x2 : ((v0.setCell ⟨w.heap.size + 1 + 1, 0, none⟩ (.slice b0 X.pc.length X.pc.length)).setCell ⟨w.heap.size + 1 + 1, 1, none⟩ (.int .i64 X.sz)).cell? ⟨w.heap.size, 2, none⟩ = some (.slice A.h X.hd.length A.kh) := box_cell HK1.out.x 2
  go_wp2_with fail
  generalize ((v0.setCell ⟨w.heap.size + 1 + 1, 0, none⟩ (.slice b0 X.pc.length X.pc.length)).setCell ⟨w.heap.size + 1 + 1, 1, none⟩ (.int .i64 X.sz)) = W1 at *
  clear y0 f0 y1 f1 x2 x1
  refine (HC1.out W1 HK1.out.below).mono ?_
  rintro e v1 ⟨b1, rfl, o1, g1⟩
  have hL1 := HK1.out.size
  have hS1 := g1.size
  have hK1 := HK1.out.on g1
  have P0_1 := hid (O0_1.out.below g1)
  have P1_1 := hid o1
  clear HC1 g1 o1 HK1 O0_1
  have y2 : v1.cell? ⟨w.heap.size + 1 + 1, 2, none⟩ = some (.slice none 0 0) := box_cell hK1.y 2
  have f2 := box_free hK1.y 2
  have HK2 := hid (hK1.setY 2 (.slice b1 X.hd.length X.hd.length))
  have hO1 : Out (w.heap.size + 1 + 1) (w.heap.size + 1 + 1 + 1) v1 (v1.setCell ⟨w.heap.size + 1 + 1, 2, none⟩ (.slice b1 X.hd.length X.hd.length)) := Out.ofBut ((But.refl (w.heap.size + 1 + 1) v1).setCell 2 (.slice b1 X.hd.length X.hd.length)) (Nat.le_refl _) (Nat.lt_succ_self _)
  have O0_2 := hid (P0_1.out.out hO1 (Or.inr (by omega)))
  have O1_2 := hid (P1_1.out.out hO1 (Or.inr (by omega)))
  have hZ1 : v1.heap.size ≤ (v1.setCell ⟨w.heap.size + 1 + 1, 2, none⟩ (.slice b1 X.hd.length X.hd.length)).heap.size := hO1.size
  clear hK1 hO1 P0_1 P1_1
  have x3 : (v1.setCell ⟨w.heap.size + 1 + 1, 2, none⟩ (.slice b1 X.hd.length X.hd.length)).cell? ⟨w.heap.size, 3, none⟩ = some (.slice A.l X.ln.length A.kl) := box_cell HK2.out.x 3
  go_wp2_with fail
  generalize (v1.setCell ⟨w.heap.size + 1 + 1, 2, none⟩ (.slice b1 X.hd.length X.hd.length)) = W2 at *
  clear y2 f2 x3
  refine (HC2.out W2 HK2.out.below).mono ?_
  rintro e v2 ⟨b2, rfl, o2, g2⟩
  have hL2 := HK2.out.size
  have hS2 := g2.size
  have hK2 := HK2.out.on g2
  have P0_2 := hid (O0_2.out.below g2)
  have P1_2 := hid (O1_2.out.below g2)
  have P2_2 := hid o2
  clear HC2 g2 o2 HK2 O0_2 O1_2
  have y3 : v2.cell? ⟨w.heap.size + 1 + 1, 3, none⟩ = some (.slice none 0 0) := box_cell hK2.y 3
  have f3 := box_free hK2.y 3
  have HK3 := hid (hK2.setY 3 (.slice b2 X.ln.length X.ln.length))
  have hO2 : Out (w.heap.size + 1 + 1) (w.heap.size + 1 + 1 + 1) v2 (v2.setCell ⟨w.heap.size + 1 + 1, 3, none⟩ (.slice b2 X.ln.length X.ln.length)) := Out.ofBut ((But.refl (w.heap.size + 1 + 1) v2).setCell 3 (.slice b2 X.ln.length X.ln.length)) (Nat.le_refl _) (Nat.lt_succ_self _)
  have O0_3 := hid (P0_2.out.out hO2 (Or.inr (by omega)))
  have O1_3 := hid (P1_2.out.out hO2 (Or.inr (by omega)))
  have O2_3 := hid (P2_2.out.out hO2 (Or.inr (by omega)))
  have hZ2 : v2.heap.size ≤ (v2.setCell ⟨w.heap.size + 1 + 1, 3, none⟩ (.slice b2 X.ln.length X.ln.length)).heap.size := hO2.size
  clear hK2 hO2 P0_2 P1_2 P2_2
  have x4 : (v2.setCell ⟨w.heap.size + 1 + 1, 3, none⟩ (.slice b2 X.ln.length X.ln.length)).cell? ⟨w.heap.size, 4, none⟩ = some (.slice A.e X.hl.length A.ke) := box_cell HK3.out.x 4
  go_wp2_with fail
  generalize (v2.setCell ⟨w.heap.size + 1 + 1, 3, none⟩ (.slice b2 X.ln.length X.ln.length)) = W3 at *
  clear y3 f3 x4
  refine (HC3.out W3 HK3.out.below).mono ?_
  rintro e v3 ⟨b3, rfl, o3, g3⟩
  have hL3 := HK3.out.size
  have hS3 := g3.size
  have hK3 := HK3.out.on g3
  have P0_3 := hid (O0_3.out.below g3)
  have P1_3 := hid (O1_3.out.below g3)
  have P2_3 := hid (O2_3.out.below g3)
  have P3_3 := hid o3
  clear HC3 g3 o3 HK3 O0_3 O1_3 O2_3
  have y4 : v3.cell? ⟨w.heap.size + 1 + 1, 4, none⟩ = some (.slice none 0 0) := box_cell hK3.y 4
  have f4 := box_free hK3.y 4
  have HK4 := hid (hK3.setY 4 (.slice b3 X.hl.length X.hl.length))
  have hO3 : Out (w.heap.size + 1 + 1) (w.heap.size + 1 + 1 + 1) v3 (v3.setCell ⟨w.heap.size + 1 + 1, 4, none⟩ (.slice b3 X.hl.length X.hl.length)) := Out.ofBut ((But.refl (w.heap.size + 1 + 1) v3).setCell 4 (.slice b3 X.hl.length X.hl.length)) (Nat.le_refl _) (Nat.lt_succ_self _)
  have O0_4 := hid (P0_3.out.out hO3 (Or.inr (by omega)))
  have O1_4 := hid (P1_3.out.out hO3 (Or.inr (by omega)))
  have O2_4 := hid (P2_3.out.out hO3 (Or.inr (by omega)))
  have O3_4 := hid (P3_3.out.out hO3 (Or.inr (by omega)))
  have hZ3 : v3.heap.size ≤ (v3.setCell ⟨w.heap.size + 1 + 1, 4, none⟩ (.slice b3 X.hl.length X.hl.length)).heap.size := hO3.size
  clear hK3 hO3 P0_3 P1_3 P2_3 P3_3
  have x5 : (v3.setCell ⟨w.heap.size + 1 + 1, 4, none⟩ (.slice b3 X.hl.length X.hl.length)).cell? ⟨w.heap.size, 5, none⟩ = some (.slice A.s X.hs.length A.ks) := box_cell HK4.out.x 5
  go_wp2_with fail
  generalize (v3.setCell ⟨w.heap.size + 1 + 1, 4, none⟩ (.slice b3 X.hl.length X.hl.length)) = W4 at *
  clear y4 f4 x5
  refine (HC4.out W4 HK4.out.below).mono ?_
  rintro e v4 ⟨b4, rfl, o4, g4⟩
  have hL4 := HK4.out.size
  have hS4 := g4.size
  have hK4 := HK4.out.on g4
  have P0_4 := hid (O0_4.out.below g4)
  have P1_4 := hid (O1_4.out.below g4)
  have P2_4 := hid (O2_4.out.below g4)
  have P3_4 := hid (O3_4.out.below g4)
  have P4_4 := hid o4
  clear HC4 g4 o4 HK4 O0_4 O1_4 O2_4 O3_4
  have y5 : v4.cell? ⟨w.heap.size + 1 + 1, 5, none⟩ = some (.slice none 0 0) := box_cell hK4.y 5
  have f5 := box_free hK4.y 5
  have y6 : v4.cell? ⟨w.heap.size + 1 + 1, 6, none⟩ = some (.int .i64 0) := box_cell hK4.y 6
  have f6 := box_free hK4.y 6
  have x6 : v4.cell? ⟨w.heap.size, 6, none⟩ = some (.int .i64 X.td) := box_cell hK4.x 6
  have HK5 := hid ((hK4.setY 5 (.slice b4 X.hs.length X.hs.length)).setY 6 (.int .i64 X.td))
  have hO4 : Out (w.heap.size + 1 + 1) (w.heap.size + 1 + 1 + 1) v4 ((v4.setCell ⟨w.heap.size + 1 + 1, 5, none⟩ (.slice b4 X.hs.length X.hs.length)).setCell ⟨w.heap.size + 1 + 1, 6, none⟩ (.int .i64 X.td)) := Out.ofBut (((But.refl (w.heap.size + 1 + 1) v4).setCell 5 (.slice b4 X.hs.length X.hs.length)).setCell 6 (.int .i64 X.td)) (Nat.le_refl _) (Nat.lt_succ_self _)
  have O0_5 := hid (P0_4.out.out hO4 (Or.inr (by omega)))
  have O1_5 := hid (P1_4.out.out hO4 (Or.inr (by omega)))
  have O2_5 := hid (P2_4.out.out hO4 (Or.inr (by omega)))
  have O3_5 := hid (P3_4.out.out hO4 (Or.inr (by omega)))
  have O4_5 := hid (P4_4.out.out hO4 (Or.inr (by omega)))
  have hZ4 : v4.heap.size ≤ ((v4.setCell ⟨w.heap.size + 1 + 1, 5, none⟩ (.slice b4 X.hs.length X.hs.length)).setCell ⟨w.heap.size + 1 + 1, 6, none⟩ (.int .i64 X.td)).heap.size := hO4.size
  clear hK4 hO4 P0_4 P1_4 P2_4 P3_4 P4_4
  have s0 : ((v4.setCell ⟨w.heap.size + 1 + 1, 5, none⟩ (.slice b4 X.hs.length X.hs.length)).setCell ⟨w.heap.size + 1 + 1, 6, none⟩ (.int .i64 X.td)).cell? ⟨w.heap.size + 1 + 1, 0, none⟩ = some (.slice b0 X.pc.length X.pc.length) := box_cell HK5.out.y 0
  have z0 : ((v4.setCell ⟨w.heap.size + 1 + 1, 5, none⟩ (.slice b4 X.hs.length X.hs.length)).setCell ⟨w.heap.size + 1 + 1, 6, none⟩ (.int .i64 X.td)).cell? ⟨w.heap.size + 1, 0, none⟩ = some (.slice none 0 0) := box_cell HK5.out.z 0
  have k0 := box_free HK5.out.z 0
  have s1 : ((v4.setCell ⟨w.heap.size + 1 + 1, 5, none⟩ (.slice b4 X.hs.length X.hs.length)).setCell ⟨w.heap.size + 1 + 1, 6, none⟩ (.int .i64 X.td)).cell? ⟨w.heap.size + 1 + 1, 1, none⟩ = some (.int .i64 X.sz) := box_cell HK5.out.y 1
  have z1 : ((v4.setCell ⟨w.heap.size + 1 + 1, 5, none⟩ (.slice b4 X.hs.length X.hs.length)).setCell ⟨w.heap.size + 1 + 1, 6, none⟩ (.int .i64 X.td)).cell? ⟨w.heap.size + 1, 1, none⟩ = some (.int .i64 0) := box_cell HK5.out.z 1
  have k1 := box_free HK5.out.z 1
  have s2 : ((v4.setCell ⟨w.heap.size + 1 + 1, 5, none⟩ (.slice b4 X.hs.length X.hs.length)).setCell ⟨w.heap.size + 1 + 1, 6, none⟩ (.int .i64 X.td)).cell? ⟨w.heap.size + 1 + 1, 2, none⟩ = some (.slice b1 X.hd.length X.hd.length) := box_cell HK5.out.y 2
  have z2 : ((v4.setCell ⟨w.heap.size + 1 + 1, 5, none⟩ (.slice b4 X.hs.length X.hs.length)).setCell ⟨w.heap.size + 1 + 1, 6, none⟩ (.int .i64 X.td)).cell? ⟨w.heap.size + 1, 2, none⟩ = some (.slice none 0 0) := box_cell HK5.out.z 2
  have k2 := box_free HK5.out.z 2
  have s3 : ((v4.setCell ⟨w.heap.size + 1 + 1, 5, none⟩ (.slice b4 X.hs.length X.hs.length)).setCell ⟨w.heap.size + 1 + 1, 6, none⟩ (.int .i64 X.td)).cell? ⟨w.heap.size + 1 + 1, 3, none⟩ = some (.slice b2 X.ln.length X.ln.length) := box_cell HK5.out.y 3
  have z3 : ((v4.setCell ⟨w.heap.size + 1 + 1, 5, none⟩ (.slice b4 X.hs.length X.hs.length)).setCell ⟨w.heap.size + 1 + 1, 6, none⟩ (.int .i64 X.td)).cell? ⟨w.heap.size + 1, 3, none⟩ = some (.slice none 0 0) := box_cell HK5.out.z 3
  have k3 := box_free HK5.out.z 3
  have s4 : ((v4.setCell ⟨w.heap.size + 1 + 1, 5, none⟩ (.slice b4 X.hs.length X.hs.length)).setCell ⟨w.heap.size + 1 + 1, 6, none⟩ (.int .i64 X.td)).cell? ⟨w.heap.size + 1 + 1, 4, none⟩ = some (.slice b3 X.hl.length X.hl.length) := box_cell HK5.out.y 4
  have z4 : ((v4.setCell ⟨w.heap.size + 1 + 1, 5, none⟩ (.slice b4 X.hs.length X.hs.length)).setCell ⟨w.heap.size + 1 + 1, 6, none⟩ (.int .i64 X.td)).cell? ⟨w.heap.size + 1, 4, none⟩ = some (.slice none 0 0) := box_cell HK5.out.z 4
  have k4 := box_free HK5.out.z 4
  have s5 : ((v4.setCell ⟨w.heap.size + 1 + 1, 5, none⟩ (.slice b4 X.hs.length X.hs.length)).setCell ⟨w.heap.size + 1 + 1, 6, none⟩ (.int .i64 X.td)).cell? ⟨w.heap.size + 1 + 1, 5, none⟩ = some (.slice b4 X.hs.length X.hs.length) := box_cell HK5.out.y 5
  have z5 : ((v4.setCell ⟨w.heap.size + 1 + 1, 5, none⟩ (.slice b4 X.hs.length X.hs.length)).setCell ⟨w.heap.size + 1 + 1, 6, none⟩ (.int .i64 X.td)).cell? ⟨w.heap.size + 1, 5, none⟩ = some (.slice none 0 0) := box_cell HK5.out.z 5
  have k5 := box_free HK5.out.z 5
  have s6 : ((v4.setCell ⟨w.heap.size + 1 + 1, 5, none⟩ (.slice b4 X.hs.length X.hs.length)).setCell ⟨w.heap.size + 1 + 1, 6, none⟩ (.int .i64 X.td)).cell? ⟨w.heap.size + 1 + 1, 6, none⟩ = some (.int .i64 X.td) := box_cell HK5.out.y 6
  have z6 : ((v4.setCell ⟨w.heap.size + 1 + 1, 5, none⟩ (.slice b4 X.hs.length X.hs.length)).setCell ⟨w.heap.size + 1 + 1, 6, none⟩ (.int .i64 X.td)).cell? ⟨w.heap.size + 1, 6, none⟩ = some (.int .i64 0) := box_cell HK5.out.z 6
  have k6 := box_free HK5.out.z 6
  have HB6 := hid (fill7_below (Q := w.heap.size + 1) HK5.out.below (by omega) (.slice b0 X.pc.length X.pc.length) (.int .i64 X.sz) (.slice b1 X.hd.length X.hd.length) (.slice b2 X.ln.length X.ln.length) (.slice b3 X.hl.length X.hl.length) (.slice b4 X.hs.length X.hs.length) (.int .i64 X.td))
  have HZ6 := fill7 HK5.out.z (.slice b0 X.pc.length X.pc.length) (.int .i64 X.sz) (.slice b1 X.hd.length X.hd.length) (.slice b2 X.ln.length X.ln.length) (.slice b3 X.hl.length X.hl.length) (.slice b4 X.hs.length X.hs.length) (.int .i64 X.td)
  have hO6 := fill7_out ((v4.setCell ⟨w.heap.size + 1 + 1, 5, none⟩ (.slice b4 X.hs.length X.hs.length)).setCell ⟨w.heap.size + 1 + 1, 6, none⟩ (.int .i64 X.td)) (w.heap.size + 1) (.slice b0 X.pc.length X.pc.length) (.int .i64 X.sz) (.slice b1 X.hd.length X.hd.length) (.slice b2 X.ln.length X.ln.length) (.slice b3 X.hl.length X.hl.length) (.slice b4 X.hs.length X.hs.length) (.int .i64 X.td)
  have O0_6 := hid (O0_5.out.out hO6 (Or.inr (by omega)))
  have O1_6 := hid (O1_5.out.out hO6 (Or.inr (by omega)))
  have O2_6 := hid (O2_5.out.out hO6 (Or.inr (by omega)))
  have O3_6 := hid (O3_5.out.out hO6 (Or.inr (by omega)))
  have O4_6 := hid (O4_5.out.out hO6 (Or.inr (by omega)))
  have hs6 := hO6.size
  clear hO6 HK5 O0_5 O1_5 O2_5 O3_5 O4_5
  go_wp2_with fail
  generalize (((((((((v4.setCell ⟨w.heap.size + 1 + 1, 5, none⟩ (.slice b4 X.hs.length X.hs.length)).setCell ⟨w.heap.size + 1 + 1, 6, none⟩ (.int .i64 X.td)).setCell ⟨w.heap.size + 1, 0, none⟩ (.slice b0 X.pc.length X.pc.length)).setCell ⟨w.heap.size + 1, 1, none⟩ (.int .i64 X.sz)).setCell ⟨w.heap.size + 1, 2, none⟩ (.slice b1 X.hd.length X.hd.length)).setCell ⟨w.heap.size + 1, 3, none⟩ (.slice b2 X.ln.length X.ln.length)).setCell ⟨w.heap.size + 1, 4, none⟩ (.slice b3 X.hl.length X.hl.length)).setCell ⟨w.heap.size + 1, 5, none⟩ (.slice b4 X.hs.length X.hs.length)).setCell ⟨w.heap.size + 1, 6, none⟩ (.int .i64 X.td)) = W6 at *
  have e0 : W6.cell? ⟨w.heap.size + 1, 0, none⟩ = some (.slice b0 X.pc.length X.pc.length) := box_cell HZ6 0
  have e1 : W6.cell? ⟨w.heap.size + 1, 1, none⟩ = some (.int .i64 X.sz) := box_cell HZ6 1
  have e2 : W6.cell? ⟨w.heap.size + 1, 2, none⟩ = some (.slice b1 X.hd.length X.hd.length) := box_cell HZ6 2
  have e3 : W6.cell? ⟨w.heap.size + 1, 3, none⟩ = some (.slice b2 X.ln.length X.ln.length) := box_cell HZ6 3
  have e4 : W6.cell? ⟨w.heap.size + 1, 4, none⟩ = some (.slice b3 X.hl.length X.hl.length) := box_cell HZ6 4
  have e5 : W6.cell? ⟨w.heap.size + 1, 5, none⟩ = some (.slice b4 X.hs.length X.hs.length) := box_cell HZ6 5
  have e6 : W6.cell? ⟨w.heap.size + 1, 6, none⟩ = some (.int .i64 X.td) := box_cell HZ6 6
  refine bodyPost_ret (v := .agg #[.slice b0 X.pc.length X.pc.length, .int .i64 X.sz, .slice b1 X.hd.length X.hd.length, .slice b2 X.ln.length X.ln.length, .slice b3 X.hl.length X.hl.length, .slice b4 X.hs.length X.hs.length, .int .i64 X.td]) (by simp [results, Try.results20, go_sem, e0, e1, e2, e3, e4, e5, e6]) rfl ?_
  refine ⟨⟨b0, X.pc.length, b1, X.hd.length, b2, X.ln.length, b3, X.hl.length, b4, X.hs.length⟩, rfl, ⟨O0_6.out.wide (by omega) (by omega), O1_6.out.wide (by omega) (by omega), O2_6.out.wide (by omega) (by omega), O3_6.out.wide (by omega) (by omega), O4_6.out.wide (by omega) (by omega), ⟨O0_6.out.lies.apt O1_6.out.lies (by omega), O0_6.out.lies.apt O2_6.out.lies (by omega), O0_6.out.lies.apt O3_6.out.lies (by omega), O0_6.out.lies.apt O4_6.out.lies (by omega), O1_6.out.lies.apt O2_6.out.lies (by omega), O1_6.out.lies.apt O3_6.out.lies (by omega), O1_6.out.lies.apt O4_6.out.lies (by omega), O2_6.out.lies.apt O3_6.out.lies (by omega), O2_6.out.lies.apt O4_6.out.lies (by omega), O3_6.out.lies.apt O4_6.out.lies (by omega)⟩, ⟨Nat.le_refl _, Nat.le_refl _, Nat.le_refl _, Nat.le_refl _, Nat.le_refl _⟩⟩, HB6.out⟩
end Go.Proofs.Ytaiilhhkfjlkoaa

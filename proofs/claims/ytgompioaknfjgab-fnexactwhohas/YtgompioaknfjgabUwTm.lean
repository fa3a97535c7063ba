/- Works made over, in memory of their own. -/
import Derived.Test.YtgompioaknfjgabUwM
import Derived.Deep.DeepCutAuto
namespace Go.Proofs.Ytgompioaknfjgab
set_option maxRecDepth 100000
open Go Go.ChangeShapes Go.WideShapes Go.ChangeAt Go.RowKit
theorem to_OwnNtc (a : Option Addr) (cap : Nat) (l : List Nt) (w : World) (hn : l.length ≤ 1048576) (hI : Nts w.heap.size a l w) :
    Calls Try.prog 15 #[.slice a l.length cap] w fun e w' => ∃ b c, e = .returned (.slice b l.length c) ∧ (OwnNt w.heap.size w'.heap.size b l w' ∧ l.length ≤ c) ∧ Below w.heap.size w w' :=
  (toNoteS_any a cap l w hn hI).mono fun _ _ ⟨he, hr, hb⟩ => ⟨_, _, he, ⟨Or.inr ⟨_, Nat.le_refl _, hr.lt, rfl, hr⟩, Nat.le_refl _⟩, hb⟩
set_option maxHeartbeats 8000000 in
theorem toWorks_m (A : UwA) (X : Uw) (w : World) (hf : UwFit X) (h : UwR w.heap.size A X w) :
    Calls Try.prog 6 #[.agg #[.slice A.c X.cl.length A.kc, .slice A.d X.dk.length A.kd, .slice A.l X.lg.length A.kl, .int .i64 X.sr, .slice A.o X.op.length A.ko]] w fun e w' => ∃ A', e = .returned (.agg #[.slice A'.c X.cl.length A'.kc, .slice A'.d X.dk.length A'.kd, .slice A'.l X.lg.length A'.kl, .int .i64 X.sr, .slice A'.o X.op.length A'.ko]) ∧ UwMk (Btw w.heap.size w'.heap.size) A' X w' ∧ Below w.heap.size w w' ∧ X.lg.length ≤ A'.kl := by
  have HK0 := hid (UwTW.start w #[.slice A.c X.cl.length A.kc, .slice A.d X.dk.length A.kd, .slice A.l X.lg.length A.kl, .int .i64 X.sr, .slice A.o X.op.length A.ko])
  have HC0 : Hid (∀ v, Below w.heap.size w v → Calls Try.prog 14 #[.slice A.c X.cl.length A.kc] v fun e w' => ∃ b c, e = .returned (.slice b X.cl.length c) ∧ OwnI v.heap.size w'.heap.size b X.cl w' ∧ Below v.heap.size v w') := fun v g => to_ownI A.c A.kc X.cl v hf.c ((h.c.below g).mono g.size)
  have HC1 : Hid (∀ v, Below w.heap.size w v → Calls Try.prog 14 #[.slice A.d X.dk.length A.kd] v fun e w' => ∃ b c, e = .returned (.slice b X.dk.length c) ∧ OwnI v.heap.size w'.heap.size b X.dk w' ∧ Below v.heap.size v w') := fun v g => to_ownI A.d A.kd X.dk v hf.d ((h.d.below g).mono g.size)
  have HC2 : Hid (∀ v, Below w.heap.size w v → Calls Try.prog 15 #[.slice A.l X.lg.length A.kl] v fun e w' => ∃ b c, e = .returned (.slice b X.lg.length c) ∧ (OwnNt v.heap.size w'.heap.size b X.lg w' ∧ X.lg.length ≤ c) ∧ Below v.heap.size v w') := fun v g => to_OwnNtc A.l A.kl X.lg v hf.l ((h.l.below g).mono g.size)
  have HC3 : Hid (∀ v, Below w.heap.size w v → Calls Try.prog 14 #[.slice A.o X.op.length A.ko] v fun e w' => ∃ b c, e = .returned (.slice b X.op.length c) ∧ OwnI v.heap.size w'.heap.size b X.op w' ∧ Below v.heap.size v w') := fun v g => to_ownI A.o A.ko X.op v hf.o ((h.o.below g).mono g.size)
  clear h hf
  go_enter Try.func6, Try.ntmps6
  go_wp2_with fail
  generalize (((w.alloc (.cells #[.slice A.c X.cl.length A.kc, .slice A.d X.dk.length A.kd, .slice A.l X.lg.length A.kl, .int .i64 X.sr, .slice A.o X.op.length A.ko] 25)).alloc (.cells #[.slice none 0 0, .slice none 0 0, .slice none 0 0, .int .i64 0, .slice none 0 0] 31)).alloc (.cells #[.slice none 0 0, .slice none 0 0, .slice none 0 0, .int .i64 0, .slice none 0 0] 31)) = W0 at *
  refine (HC0.out W0 HK0.out.below).mono ?_
  rintro e v0 ⟨b0, c0, rfl, o0, g0⟩
  have hL0 := HK0.out.size
  have hS0 := g0.size
  have hK0 := HK0.out.on g0
  have P0_0 := hid o0
  clear HC0 g0 o0 HK0
  have y0 : v0.cell? ⟨w.heap.size + 1 + 1, 0, none⟩ = some (.slice none 0 0) := box_cell hK0.y 0
  have f0 := box_free hK0.y 0
  have HK1 : Hid (UwTW w #[.slice A.c X.cl.length A.kc, .slice A.d X.dk.length A.kd, .slice A.l X.lg.length A.kl, .int .i64 X.sr, .slice A.o X.op.length A.ko] #[.slice none 0 0, .slice none 0 0, .slice none 0 0, .int .i64 0, .slice none 0 0] #[.slice b0 X.cl.length c0, .slice none 0 0, .slice none 0 0, .int .i64 0, .slice none 0 0] (v0.setCell ⟨w.heap.size + 1 + 1, 0, none⟩ (.slice b0 X.cl.length c0))) := (hK0.setY 0 (.slice b0 X.cl.length c0))
  have hO0 : Out (w.heap.size + 1 + 1) (w.heap.size + 1 + 1 + 1) v0 (v0.setCell ⟨w.heap.size + 1 + 1, 0, none⟩ (.slice b0 X.cl.length c0)) := Out.ofBut ((But.refl (w.heap.size + 1 + 1) v0).setCell 0 (.slice b0 X.cl.length c0)) (Nat.le_refl _) (Nat.lt_succ_self _)
  have O0_1 := hid (P0_0.out.out hO0 (Or.inr (by omega)))
  have hZ0 : v0.heap.size ≤ (v0.setCell ⟨w.heap.size + 1 + 1, 0, none⟩ (.slice b0 X.cl.length c0)).heap.size := hO0.size
  clear hK0 hO0 P0_0
  have x1 : (v0.setCell ⟨w.heap.size + 1 + 1, 0, none⟩ (.slice b0 X.cl.length c0)).cell? ⟨w.heap.size, 1, none⟩ = some (.slice A.d X.dk.length A.kd) := box_cell HK1.out.x 1
  go_wp2_with fail
  generalize (v0.setCell ⟨w.heap.size + 1 + 1, 0, none⟩ (.slice b0 X.cl.length c0)) = W1 at *
  clear y0 f0 x1
  refine (HC1.out W1 HK1.out.below).mono ?_
  rintro e v1 ⟨b1, c1, rfl, o1, g1⟩
  have hL1 := HK1.out.size
  have hS1 := g1.size
  have hK1 := HK1.out.on g1
  have P0_1 := hid (O0_1.out.below g1)
  have P1_1 := hid o1
  clear HC1 g1 o1 HK1 O0_1
  have y1 : v1.cell? ⟨w.heap.size + 1 + 1, 1, none⟩ = some (.slice none 0 0) := box_cell hK1.y 1
  have f1 := box_free hK1.y 1
  have HK2 : Hid (UwTW w #[.slice A.c X.cl.length A.kc, .slice A.d X.dk.length A.kd, .slice A.l X.lg.length A.kl, .int .i64 X.sr, .slice A.o X.op.length A.ko] #[.slice none 0 0, .slice none 0 0, .slice none 0 0, .int .i64 0, .slice none 0 0] #[.slice b0 X.cl.length c0, .slice b1 X.dk.length c1, .slice none 0 0, .int .i64 0, .slice none 0 0] (v1.setCell ⟨w.heap.size + 1 + 1, 1, none⟩ (.slice b1 X.dk.length c1))) := (hK1.setY 1 (.slice b1 X.dk.length c1))
  have hO1 : Out (w.heap.size + 1 + 1) (w.heap.size + 1 + 1 + 1) v1 (v1.setCell ⟨w.heap.size + 1 + 1, 1, none⟩ (.slice b1 X.dk.length c1)) := Out.ofBut ((But.refl (w.heap.size + 1 + 1) v1).setCell 1 (.slice b1 X.dk.length c1)) (Nat.le_refl _) (Nat.lt_succ_self _)
  have O0_2 := hid (P0_1.out.out hO1 (Or.inr (by omega)))
  have O1_2 := hid (P1_1.out.out hO1 (Or.inr (by omega)))
  have hZ1 : v1.heap.size ≤ (v1.setCell ⟨w.heap.size + 1 + 1, 1, none⟩ (.slice b1 X.dk.length c1)).heap.size := hO1.size
  clear hK1 hO1 P0_1 P1_1
  have x2 : (v1.setCell ⟨w.heap.size + 1 + 1, 1, none⟩ (.slice b1 X.dk.length c1)).cell? ⟨w.heap.size, 2, none⟩ = some (.slice A.l X.lg.length A.kl) := box_cell HK2.out.x 2
  go_wp2_with fail
  generalize (v1.setCell ⟨w.heap.size + 1 + 1, 1, none⟩ (.slice b1 X.dk.length c1)) = W2 at *
  clear y1 f1 x2
  refine (HC2.out W2 HK2.out.below).mono ?_
  rintro e v2 ⟨b2, c2, rfl, ⟨o2, hc2⟩, g2⟩
  have HCC := hid hc2
  clear hc2
  have hL2 := HK2.out.size
  have hS2 := g2.size
  have hK2 := HK2.out.on g2
  have P0_2 := hid (O0_2.out.below g2)
  have P1_2 := hid (O1_2.out.below g2)
  have P2_2 := hid o2
  clear HC2 g2 o2 HK2 O0_2 O1_2
  have y2 : v2.cell? ⟨w.heap.size + 1 + 1, 2, none⟩ = some (.slice none 0 0) := box_cell hK2.y 2
  have f2 := box_free hK2.y 2
  have y3 : v2.cell? ⟨w.heap.size + 1 + 1, 3, none⟩ = some (.int .i64 0) := box_cell hK2.y 3
  have f3 := box_free hK2.y 3
  have x3 : v2.cell? ⟨w.heap.size, 3, none⟩ = some (.int .i64 X.sr) := box_cell hK2.x 3
  have HK3 : Hid (UwTW w #[.slice A.c X.cl.length A.kc, .slice A.d X.dk.length A.kd, .slice A.l X.lg.length A.kl, .int .i64 X.sr, .slice A.o X.op.length A.ko] #[.slice none 0 0, .slice none 0 0, .slice none 0 0, .int .i64 0, .slice none 0 0] #[.slice b0 X.cl.length c0, .slice b1 X.dk.length c1, .slice b2 X.lg.length c2, .int .i64 X.sr, .slice none 0 0] ((v2.setCell ⟨w.heap.size + 1 + 1, 2, none⟩ (.slice b2 X.lg.length c2)).setCell ⟨w.heap.size + 1 + 1, 3, none⟩ (.int .i64 X.sr))) := ((hK2.setY 2 (.slice b2 X.lg.length c2)).setY 3 (.int .i64 X.sr))
  have hO2 : Out (w.heap.size + 1 + 1) (w.heap.size + 1 + 1 + 1) v2 ((v2.setCell ⟨w.heap.size + 1 + 1, 2, none⟩ (.slice b2 X.lg.length c2)).setCell ⟨w.heap.size + 1 + 1, 3, none⟩ (.int .i64 X.sr)) := Out.ofBut (((But.refl (w.heap.size + 1 + 1) v2).setCell 2 (.slice b2 X.lg.length c2)).setCell 3 (.int .i64 X.sr)) (Nat.le_refl _) (Nat.lt_succ_self _)
  have O0_3 := hid (P0_2.out.out hO2 (Or.inr (by omega)))
  have O1_3 := hid (P1_2.out.out hO2 (Or.inr (by omega)))
  have O2_3 := hid (P2_2.out.out hO2 (Or.inr (by omega)))
  have hZ2 : v2.heap.size ≤ ((v2.setCell ⟨w.heap.size + 1 + 1, 2, none⟩ (.slice b2 X.lg.length c2)).setCell ⟨w.heap.size + 1 + 1, 3, none⟩ (.int .i64 X.sr)).heap.size := hO2.size
  clear hK2 hO2 P0_2 P1_2 P2_2
  have x4 : ((v2.setCell ⟨w.heap.size + 1 + 1, 2, none⟩ (.slice b2 X.lg.length c2)).setCell ⟨w.heap.size + 1 + 1, 3, none⟩ (.int .i64 X.sr)).cell? ⟨w.heap.size, 4, none⟩ = some (.slice A.o X.op.length A.ko) := box_cell HK3.out.x 4
  go_wp2_with fail
  generalize ((v2.setCell ⟨w.heap.size + 1 + 1, 2, none⟩ (.slice b2 X.lg.length c2)).setCell ⟨w.heap.size + 1 + 1, 3, none⟩ (.int .i64 X.sr)) = W3 at *
  clear y2 f2 y3 f3 x4 x3
  refine (HC3.out W3 HK3.out.below).mono ?_
  rintro e v3 ⟨b3, c3, rfl, o3, g3⟩
  have hL3 := HK3.out.size
  have hS3 := g3.size
  have hK3 := HK3.out.on g3
  have P0_3 := hid (O0_3.out.below g3)
  have P1_3 := hid (O1_3.out.below g3)
  have P2_3 := hid (O2_3.out.below g3)
  have P3_3 := hid o3
  clear HC3 g3 o3 HK3 O0_3 O1_3 O2_3
  have y4 : v3.cell? ⟨w.heap.size + 1 + 1, 4, none⟩ = some (.slice none 0 0) := box_cell hK3.y 4
  have f4 := box_free hK3.y 4
  have HK4 : Hid (UwTW w #[.slice A.c X.cl.length A.kc, .slice A.d X.dk.length A.kd, .slice A.l X.lg.length A.kl, .int .i64 X.sr, .slice A.o X.op.length A.ko] #[.slice none 0 0, .slice none 0 0, .slice none 0 0, .int .i64 0, .slice none 0 0] #[.slice b0 X.cl.length c0, .slice b1 X.dk.length c1, .slice b2 X.lg.length c2, .int .i64 X.sr, .slice b3 X.op.length c3] (v3.setCell ⟨w.heap.size + 1 + 1, 4, none⟩ (.slice b3 X.op.length c3))) := (hK3.setY 4 (.slice b3 X.op.length c3))
  have hO3 : Out (w.heap.size + 1 + 1) (w.heap.size + 1 + 1 + 1) v3 (v3.setCell ⟨w.heap.size + 1 + 1, 4, none⟩ (.slice b3 X.op.length c3)) := Out.ofBut ((But.refl (w.heap.size + 1 + 1) v3).setCell 4 (.slice b3 X.op.length c3)) (Nat.le_refl _) (Nat.lt_succ_self _)
  have O0_4 := hid (P0_3.out.out hO3 (Or.inr (by omega)))
  have O1_4 := hid (P1_3.out.out hO3 (Or.inr (by omega)))
  have O2_4 := hid (P2_3.out.out hO3 (Or.inr (by omega)))
  have O3_4 := hid (P3_3.out.out hO3 (Or.inr (by omega)))
  have hZ3 : v3.heap.size ≤ (v3.setCell ⟨w.heap.size + 1 + 1, 4, none⟩ (.slice b3 X.op.length c3)).heap.size := hO3.size
  clear hK3 hO3 P0_3 P1_3 P2_3 P3_3
  go_upto_region 7 with fail
  generalize (v3.setCell ⟨w.heap.size + 1 + 1, 4, none⟩ (.slice b3 X.op.length c3)) = W4 at *
  clear y4 f4
  have s0 : W4.cell? ⟨w.heap.size + 1 + 1, 0, none⟩ = some (.slice b0 X.cl.length c0) := box_cell HK4.out.y 0
  have z0 : W4.cell? ⟨w.heap.size + 1, 0, none⟩ = some (.slice none 0 0) := box_cell HK4.out.z 0
  have k0 := box_free HK4.out.z 0
  have s1 : W4.cell? ⟨w.heap.size + 1 + 1, 1, none⟩ = some (.slice b1 X.dk.length c1) := box_cell HK4.out.y 1
  have z1 : W4.cell? ⟨w.heap.size + 1, 1, none⟩ = some (.slice none 0 0) := box_cell HK4.out.z 1
  have k1 := box_free HK4.out.z 1
  have s2 : W4.cell? ⟨w.heap.size + 1 + 1, 2, none⟩ = some (.slice b2 X.lg.length c2) := box_cell HK4.out.y 2
  have z2 : W4.cell? ⟨w.heap.size + 1, 2, none⟩ = some (.slice none 0 0) := box_cell HK4.out.z 2
  have k2 := box_free HK4.out.z 2
  have s3 : W4.cell? ⟨w.heap.size + 1 + 1, 3, none⟩ = some (.int .i64 X.sr) := box_cell HK4.out.y 3
  have z3 : W4.cell? ⟨w.heap.size + 1, 3, none⟩ = some (.int .i64 0) := box_cell HK4.out.z 3
  have k3 := box_free HK4.out.z 3
  have s4 : W4.cell? ⟨w.heap.size + 1 + 1, 4, none⟩ = some (.slice b3 X.op.length c3) := box_cell HK4.out.y 4
  have z4 : W4.cell? ⟨w.heap.size + 1, 4, none⟩ = some (.slice none 0 0) := box_cell HK4.out.z 4
  have k4 := box_free HK4.out.z 4
  have HB9 := hid (Uwfill_below (Q := w.heap.size + 1) HK4.out.below (by omega) (.slice b0 X.cl.length c0) (.slice b1 X.dk.length c1) (.slice b2 X.lg.length c2) (.int .i64 X.sr) (.slice b3 X.op.length c3))
  have HZ9 := Uwfill HK4.out.z (.slice b0 X.cl.length c0) (.slice b1 X.dk.length c1) (.slice b2 X.lg.length c2) (.int .i64 X.sr) (.slice b3 X.op.length c3)
  have hO9 := Uwfill_out W4 (w.heap.size + 1) (.slice b0 X.cl.length c0) (.slice b1 X.dk.length c1) (.slice b2 X.lg.length c2) (.int .i64 X.sr) (.slice b3 X.op.length c3)
  have O0_9 := hid (O0_4.out.out hO9 (Or.inr (by omega)))
  have O1_9 := hid (O1_4.out.out hO9 (Or.inr (by omega)))
  have O2_9 := hid (O2_4.out.out hO9 (Or.inr (by omega)))
  have O3_9 := hid (O3_4.out.out hO9 (Or.inr (by omega)))
  have s9 := hO9.size
  clear hO9 HK4 O0_4 O1_4 O2_4 O3_4
  go_wp2_with fail
  generalize (((((W4.setCell ⟨w.heap.size + 1, 0, none⟩ (.slice b0 X.cl.length c0)).setCell ⟨w.heap.size + 1, 1, none⟩ (.slice b1 X.dk.length c1)).setCell ⟨w.heap.size + 1, 2, none⟩ (.slice b2 X.lg.length c2)).setCell ⟨w.heap.size + 1, 3, none⟩ (.int .i64 X.sr)).setCell ⟨w.heap.size + 1, 4, none⟩ (.slice b3 X.op.length c3)) = W9 at *
  have e0 : W9.cell? ⟨w.heap.size + 1, 0, none⟩ = some (.slice b0 X.cl.length c0) := box_cell HZ9 0
  have e1 : W9.cell? ⟨w.heap.size + 1, 1, none⟩ = some (.slice b1 X.dk.length c1) := box_cell HZ9 1
  have e2 : W9.cell? ⟨w.heap.size + 1, 2, none⟩ = some (.slice b2 X.lg.length c2) := box_cell HZ9 2
  have e3 : W9.cell? ⟨w.heap.size + 1, 3, none⟩ = some (.int .i64 X.sr) := box_cell HZ9 3
  have e4 : W9.cell? ⟨w.heap.size + 1, 4, none⟩ = some (.slice b3 X.op.length c3) := box_cell HZ9 4
  refine bodyPost_ret (v := .agg #[.slice b0 X.cl.length c0, .slice b1 X.dk.length c1, .slice b2 X.lg.length c2, .int .i64 X.sr, .slice b3 X.op.length c3]) (by simp [results, Try.results6, go_sem, e0, e1, e2, e3, e4]) rfl ?_
  have a0 := hid O0_9.out.mi
  have a1 := hid O1_9.out.mi
  have a2 := hid O2_9.out.mi
  have a3 := hid O3_9.out.mi
  refine ⟨⟨b0, c0, b1, c1, b2, c2, b3, c3⟩, rfl, ⟨fun b => if b < v0.heap.size then 0 else if b < v1.heap.size then 1 else if b < v2.heap.size then 2 else 3, a0.out.wide (fun k hk => ?_), a1.out.wide (fun k hk => ?_), a2.out.wide (fun k hk => ?_), a3.out.wide (fun k hk => ?_)⟩, HB9.out, HCC.out⟩
  · obtain ⟨h1, h2⟩ := hk
    exact ⟨⟨by omega, by omega⟩, if_pos h2⟩
  · obtain ⟨h1, h2⟩ := hk
    refine ⟨⟨by omega, by omega⟩, ?_⟩
    show (if k < v0.heap.size then 0 else if k < v1.heap.size then 1 else if k < v2.heap.size then 2 else 3) = 1
    rw [if_neg (by omega), if_pos h2]
  · obtain ⟨h1, h2⟩ := hk
    refine ⟨⟨by omega, by omega⟩, ?_⟩
    show (if k < v0.heap.size then 0 else if k < v1.heap.size then 1 else if k < v2.heap.size then 2 else 3) = 2
    rw [if_neg (by omega), if_neg (by omega), if_pos h2]
  · obtain ⟨h1, h2⟩ := hk
    refine ⟨⟨by omega, by omega⟩, ?_⟩
    show (if k < v0.heap.size then 0 else if k < v1.heap.size then 1 else if k < v2.heap.size then 2 else 3) = 3
    rw [if_neg (by omega), if_neg (by omega), if_neg (by omega)]
end Go.Proofs.Ytgompioaknfjgab

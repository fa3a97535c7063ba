/- The exact law of NewWorks: its walk out of the contracts of the model and of the program. -/
import Derived.Test.YtgompioaknfjgaaUwNi
import Derived.Test.YtgompioaknfjgaaUwE
import Derived.Test.YtgompioaknfjgaaUwTm
import Derived.Test.YtgompioaknfjgaaUwO
import Derived.Deep.RegionHeld
namespace Go.Proofs.Ytgompioaknfjgaa
set_option maxRecDepth 100000
open Go Go.ChangeShapes Go.WideShapes Go.ChangeAt Go.RowKit
theorem OutP.belowB {P : Nat → Prop} {w v v' : World} (h : OutP P v v') (b : Below w.heap.size w v) (hP : ∀ k, P k → w.heap.size ≤ k) : Below w.heap.size w v' := b.trans ⟨h.os, h.tape, h.output, h.size, fun k hk => h.block k (Nat.lt_of_lt_of_le hk b.size) (fun hp => by have := hP k hp; omega)⟩
/-- function f answers so -/
def TellsNewWorks (f : Nat) (Y : Uw) : Prop := ∀ (v : World), Calls Try.prog f #[] v fun e w' => ∃ C, e = .returned (.agg #[.slice C.c Y.cl.length C.kc, .slice C.d Y.dk.length C.kd, .slice C.l Y.lg.length C.kl, .int .i64 Y.sr, .slice C.o Y.op.length C.ko]) ∧ UwMk (Btw v.heap.size w'.heap.size) C Y w' ∧ Below v.heap.size v w'
set_option maxHeartbeats 16000000 in
theorem law_NewWorks  (w : World) 
    (H : ∃ (Y : Uw), UwFit Y ∧ TellsNewWorks 9 Y ∧ TellsNewWorks 10 Y) :
    Calls Try.prog 3 #[] w fun e w' => e = .returned (.bool true) ∧ Below w.heap.size w w' := by
  have HH : Hid (∃ (Y : Uw), UwFit Y ∧ TellsNewWorks 9 Y ∧ TellsNewWorks 10 Y) := H
  obtain ⟨w0, hw0⟩ : ∃ w0, w0 = w := ⟨_, rfl⟩
  have HB0 : Hid (Below w.heap.size w w0) := by show Below w.heap.size w w0; rw [hw0]; exact Below.refl _ _
  subst hw0
  clear H
  have B_0 : Hid (Below w0.heap.size w0 w0) := Below.refl _ _
  go_enter Try.func3, Try.ntmps3
  obtain ⟨Y, hY, h9, h11⟩ := HH.out
  have H9 : Hid (TellsNewWorks 9 Y) := h9
  have H11 : Hid (TellsNewWorks 10 Y) := h11
  clear h9 h11 HH
  have HY := hid hY
  have HYK := hid (Uwk_le hY).2.2.2
  clear hY
  go_wp2_with fail
  refine (H9.out _).mono ?_
  rintro e w1 ⟨Wa, rfl, oC, gC⟩
  have s1 := gC.size
  have B_1 : Hid (Below w0.heap.size w0 w1) := B_0.out.trans (gC.mono B_0.out.size)
  clear B_0
  have W_1 : Hid (UwMk (Btw w0.heap.size w1.heap.size) Wa Y w1) := oC
  clear oC gC
  have gA := boxB w1 (.cells #[.slice Wa.c Y.cl.length Wa.kc, .slice Wa.d Y.dk.length Wa.kd, .slice Wa.l Y.lg.length Wa.kl, .int .i64 Y.sr, .slice Wa.o Y.op.length Wa.ko] 25)
  have hA := heap_last w1 (.cells #[.slice Wa.c Y.cl.length Wa.kc, .slice Wa.d Y.dk.length Wa.kd, .slice Wa.l Y.lg.length Wa.kl, .int .i64 Y.sr, .slice Wa.o Y.op.length Wa.ko] 25)
  have zA : (w1.alloc (.cells #[.slice Wa.c Y.cl.length Wa.kc, .slice Wa.d Y.dk.length Wa.kd, .slice Wa.l Y.lg.length Wa.kl, .int .i64 Y.sr, .slice Wa.o Y.op.length Wa.ko] 25)).heap.size = w1.heap.size + 1 := heap_size _ _
  go_upto_region 2 with fail
  generalize w1.alloc (.cells #[.slice Wa.c Y.cl.length Wa.kc, .slice Wa.d Y.dk.length Wa.kd, .slice Wa.l Y.lg.length Wa.kl, .int .i64 Y.sr, .slice Wa.o Y.op.length Wa.ko] 25) = w2 at *
  have s2 := gA.size
  have B_2 : Hid (Below w0.heap.size w0 w2) := B_1.out.trans (gA.mono B_1.out.size)
  have W_2 : Hid (UwMk (Btw w0.heap.size w1.heap.size) Wa Y w2) := W_1.out.on gA
  clear B_1 W_1
  have Wk_2 : Hid (w2.heap[w1.heap.size]? = some (.cells #[.slice Wa.c Y.cl.length Wa.kc, .slice Wa.d Y.dk.length Wa.kd, .slice Wa.l Y.lg.length Wa.kl, .int .i64 Y.sr, .slice Wa.o Y.op.length Wa.ko] 25)) := hA
  have zz2 := zA
  clear gA hA zA
  clear H9
  go_wp2_with fail
  refine (H11.out _).mono ?_
  rintro e w3 ⟨Ga, rfl, oC, gC⟩
  have s3 := gC.size
  have B_3 : Hid (Below w0.heap.size w0 w3) := B_2.out.trans (gC.mono B_2.out.size)
  have W_3 : Hid (UwMk (Btw w0.heap.size w1.heap.size) Wa Y w3) := W_2.out.on gC
  have Wk_3 : Hid (w3.heap[w1.heap.size]? = some (.cells #[.slice Wa.c Y.cl.length Wa.kc, .slice Wa.d Y.dk.length Wa.kd, .slice Wa.l Y.lg.length Wa.kl, .int .i64 Y.sr, .slice Wa.o Y.op.length Wa.ko] 25)) := (gC.block _ (kbox Wk_2.out)).trans Wk_2.out
  clear B_2 W_2 Wk_2
  have G_3 : Hid (UwMk (Btw w2.heap.size w3.heap.size) Ga Y w3) := oC
  clear oC gC
  have gA := boxB w3 (.cells #[.slice Ga.c Y.cl.length Ga.kc, .slice Ga.d Y.dk.length Ga.kd, .slice Ga.l Y.lg.length Ga.kl, .int .i64 Y.sr, .slice Ga.o Y.op.length Ga.ko] 25)
  have hA := heap_last w3 (.cells #[.slice Ga.c Y.cl.length Ga.kc, .slice Ga.d Y.dk.length Ga.kd, .slice Ga.l Y.lg.length Ga.kl, .int .i64 Y.sr, .slice Ga.o Y.op.length Ga.ko] 25)
  have zA : (w3.alloc (.cells #[.slice Ga.c Y.cl.length Ga.kc, .slice Ga.d Y.dk.length Ga.kd, .slice Ga.l Y.lg.length Ga.kl, .int .i64 Y.sr, .slice Ga.o Y.op.length Ga.ko] 25)).heap.size = w3.heap.size + 1 := heap_size _ _
  go_upto_region 3 with fail
  generalize w3.alloc (.cells #[.slice Ga.c Y.cl.length Ga.kc, .slice Ga.d Y.dk.length Ga.kd, .slice Ga.l Y.lg.length Ga.kl, .int .i64 Y.sr, .slice Ga.o Y.op.length Ga.ko] 25) = w4 at *
  have s4 := gA.size
  have B_4 : Hid (Below w0.heap.size w0 w4) := B_3.out.trans (gA.mono B_3.out.size)
  have W_4 : Hid (UwMk (Btw w0.heap.size w1.heap.size) Wa Y w4) := W_3.out.on gA
  have Wk_4 : Hid (w4.heap[w1.heap.size]? = some (.cells #[.slice Wa.c Y.cl.length Wa.kc, .slice Wa.d Y.dk.length Wa.kd, .slice Wa.l Y.lg.length Wa.kl, .int .i64 Y.sr, .slice Wa.o Y.op.length Wa.ko] 25)) := (gA.block _ (kbox Wk_3.out)).trans Wk_3.out
  have G_4 : Hid (UwMk (Btw w2.heap.size w3.heap.size) Ga Y w4) := G_3.out.on gA
  clear B_3 W_3 Wk_3 G_3
  have Gk_4 : Hid (w4.heap[w3.heap.size]? = some (.cells #[.slice Ga.c Y.cl.length Ga.kc, .slice Ga.d Y.dk.length Ga.kd, .slice Ga.l Y.lg.length Ga.kl, .int .i64 Y.sr, .slice Ga.o Y.op.length Ga.ko] 25)) := hA
  have zz4 := zA
  clear gA hA zA
  have y0 : w4.cell? ⟨w3.heap.size, 0, none⟩ = some (.slice Ga.c Y.cl.length Ga.kc) := box_cell Gk_4.out 0
  have y1 : w4.cell? ⟨w3.heap.size, 1, none⟩ = some (.slice Ga.d Y.dk.length Ga.kd) := box_cell Gk_4.out 1
  have y2 : w4.cell? ⟨w3.heap.size, 2, none⟩ = some (.slice Ga.l Y.lg.length Ga.kl) := box_cell Gk_4.out 2
  have y3 : w4.cell? ⟨w3.heap.size, 3, none⟩ = some (.int .i64 Y.sr) := box_cell Gk_4.out 3
  have y4 : w4.cell? ⟨w3.heap.size, 4, none⟩ = some (.slice Ga.o Y.op.length Ga.ko) := box_cell Gk_4.out 4
  have x0 : w4.cell? ⟨w1.heap.size, 0, none⟩ = some (.slice Wa.c Y.cl.length Wa.kc) := box_cell Wk_4.out 0
  have x1 : w4.cell? ⟨w1.heap.size, 1, none⟩ = some (.slice Wa.d Y.dk.length Wa.kd) := box_cell Wk_4.out 1
  have x2 : w4.cell? ⟨w1.heap.size, 2, none⟩ = some (.slice Wa.l Y.lg.length Wa.kl) := box_cell Wk_4.out 2
  have x3 : w4.cell? ⟨w1.heap.size, 3, none⟩ = some (.int .i64 Y.sr) := box_cell Wk_4.out 3
  have x4 : w4.cell? ⟨w1.heap.size, 4, none⟩ = some (.slice Wa.o Y.op.length Wa.ko) := box_cell Wk_4.out 4
  go_wp2_with fail
  refine (eqWorks_same Ga Wa Y _ HY.out G_4.out.read W_4.out.read).mono ?_
  rintro e w5 ⟨rfl, gE⟩
  clear x0 x1 x2 x3 x4 y0 y1 y2 y3 y4
  have s5 := gE.size
  have B_5 : Hid (Below w0.heap.size w0 w5) := B_4.out.trans (gE.mono B_4.out.size)
  have W_5 : Hid (UwMk (Btw w0.heap.size w1.heap.size) Wa Y w5) := W_4.out.on gE
  have Wk_5 : Hid (w5.heap[w1.heap.size]? = some (.cells #[.slice Wa.c Y.cl.length Wa.kc, .slice Wa.d Y.dk.length Wa.kd, .slice Wa.l Y.lg.length Wa.kl, .int .i64 Y.sr, .slice Wa.o Y.op.length Wa.ko] 25)) := (gE.block _ (kbox Wk_4.out)).trans Wk_4.out
  have G_5 : Hid (UwMk (Btw w2.heap.size w3.heap.size) Ga Y w5) := G_4.out.on gE
  have Gk_5 : Hid (w5.heap[w3.heap.size]? = some (.cells #[.slice Ga.c Y.cl.length Ga.kc, .slice Ga.d Y.dk.length Ga.kd, .slice Ga.l Y.lg.length Ga.kl, .int .i64 Y.sr, .slice Ga.o Y.op.length Ga.ko] 25)) := (gE.block _ (kbox Gk_4.out)).trans Gk_4.out
  clear B_4 W_4 Wk_4 G_4 Gk_4
  clear gE
  have y0 : w5.cell? ⟨w3.heap.size, 0, none⟩ = some (.slice Ga.c Y.cl.length Ga.kc) := box_cell Gk_5.out 0
  have y1 : w5.cell? ⟨w3.heap.size, 1, none⟩ = some (.slice Ga.d Y.dk.length Ga.kd) := box_cell Gk_5.out 1
  have y2 : w5.cell? ⟨w3.heap.size, 2, none⟩ = some (.slice Ga.l Y.lg.length Ga.kl) := box_cell Gk_5.out 2
  have y3 : w5.cell? ⟨w3.heap.size, 3, none⟩ = some (.int .i64 Y.sr) := box_cell Gk_5.out 3
  have y4 : w5.cell? ⟨w3.heap.size, 4, none⟩ = some (.slice Ga.o Y.op.length Ga.ko) := box_cell Gk_5.out 4
  go_wp2_with fail
  refine (markWorks_m (Btw w2.heap.size w3.heap.size) Ga Y _ HY.out (fun k hk => by have := hk.2; omega) G_5.out).mono ?_
  rintro e w6 ⟨rfl, oM, tM⟩
  have hm2 : decide (((Uwk4 Y : Nat) : Int) < 0) = false := decide_eq_false (by omega)
  clear y0 y1 y2 y3 y4
  have s6 := tM.size
  have B_6 : Hid (Below w0.heap.size w0 w6) := tM.belowB B_5.out (fun k hk => by have := hk.1; omega)
  have W_6 : Hid (UwMk (Btw w0.heap.size w1.heap.size) Wa Y w6) := W_5.out.keep tM (fun k h1 h2 => by have := h1.1; have := h1.2; have := h2.1; have := h2.2; omega)
  have Wk_6 : Hid (w6.heap[w1.heap.size]? = some (.cells #[.slice Wa.c Y.cl.length Wa.kc, .slice Wa.d Y.dk.length Wa.kd, .slice Wa.l Y.lg.length Wa.kl, .int .i64 Y.sr, .slice Wa.o Y.op.length Wa.ko] 25)) := (tM.block _ (kbox Wk_5.out) (fun hk => by have := hk.1; have := hk.2; omega)).trans Wk_5.out
  have G_6 : Hid (UwMk (Btw w2.heap.size w3.heap.size) Ga (Uwmk Y) w6) := oM
  have Gk_6 : Hid (w6.heap[w3.heap.size]? = some (.cells #[.slice Ga.c Y.cl.length Ga.kc, .slice Ga.d Y.dk.length Ga.kd, .slice Ga.l Y.lg.length Ga.kl, .int .i64 Y.sr, .slice Ga.o Y.op.length Ga.ko] 25)) := (tM.block _ (kbox Gk_5.out) (fun hk => by have := hk.1; have := hk.2; omega)).trans Gk_5.out
  clear B_5 W_5 Wk_5 G_5 Gk_5
  clear oM tM
  have hkk : (((Uwk4 Y : Nat) : Int) != ((Uwk4 Y : Nat) : Int)) = false := by simp
  have HHD : Hid (∀ v, UwR v.heap.size Ga (Uwmk Y) v → Calls Try.prog 13 #[.agg #[.slice Ga.c Y.cl.length Ga.kc, .slice Ga.d Y.dk.length Ga.kd, .slice Ga.l Y.lg.length Ga.kl, .int .i64 Y.sr, .slice Ga.o Y.op.length Ga.ko], .int .i64 1] v fun e w' => e = .returned (.int .i64 (Uwk4 Y : Nat)) ∧ Below v.heap.size v w') := fun v h => heldWorks_g Ga Y v HY.out h
  generalize Uwk4 Y = m2 at *
  have y0 : w6.cell? ⟨w3.heap.size, 0, none⟩ = some (.slice Ga.c Y.cl.length Ga.kc) := box_cell Gk_6.out 0
  have y1 : w6.cell? ⟨w3.heap.size, 1, none⟩ = some (.slice Ga.d Y.dk.length Ga.kd) := box_cell Gk_6.out 1
  have y2 : w6.cell? ⟨w3.heap.size, 2, none⟩ = some (.slice Ga.l Y.lg.length Ga.kl) := box_cell Gk_6.out 2
  have y3 : w6.cell? ⟨w3.heap.size, 3, none⟩ = some (.int .i64 Y.sr) := box_cell Gk_6.out 3
  have y4 : w6.cell? ⟨w3.heap.size, 4, none⟩ = some (.slice Ga.o Y.op.length Ga.ko) := box_cell Gk_6.out 4
  go_wp2_with fail
  refine (HHD.out _ G_6.out.read).mono ?_
  rintro e w7 ⟨rfl, gH⟩
  clear y0 y1 y2 y3 y4
  have s7 := gH.size
  have B_7 : Hid (Below w0.heap.size w0 w7) := B_6.out.trans (gH.mono B_6.out.size)
  have W_7 : Hid (UwMk (Btw w0.heap.size w1.heap.size) Wa Y w7) := W_6.out.on gH
  have Wk_7 : Hid (w7.heap[w1.heap.size]? = some (.cells #[.slice Wa.c Y.cl.length Wa.kc, .slice Wa.d Y.dk.length Wa.kd, .slice Wa.l Y.lg.length Wa.kl, .int .i64 Y.sr, .slice Wa.o Y.op.length Wa.ko] 25)) := (gH.block _ (kbox Wk_6.out)).trans Wk_6.out
  have G_7 : Hid (UwMk (Btw w2.heap.size w3.heap.size) Ga (Uwmk Y) w7) := G_6.out.on gH
  have Gk_7 : Hid (w7.heap[w3.heap.size]? = some (.cells #[.slice Ga.c Y.cl.length Ga.kc, .slice Ga.d Y.dk.length Ga.kd, .slice Ga.l Y.lg.length Ga.kl, .int .i64 Y.sr, .slice Ga.o Y.op.length Ga.ko] 25)) := (gH.block _ (kbox Gk_6.out)).trans Gk_6.out
  clear B_6 W_6 Wk_6 G_6 Gk_6
  clear gH
  go_wp2_with fail
  refine (H11.out _).mono ?_
  rintro e w8 ⟨Hha, rfl, oC, gC⟩
  have s8 := gC.size
  have B_8 : Hid (Below w0.heap.size w0 w8) := B_7.out.trans (gC.mono B_7.out.size)
  have W_8 : Hid (UwMk (Btw w0.heap.size w1.heap.size) Wa Y w8) := W_7.out.on gC
  have Wk_8 : Hid (w8.heap[w1.heap.size]? = some (.cells #[.slice Wa.c Y.cl.length Wa.kc, .slice Wa.d Y.dk.length Wa.kd, .slice Wa.l Y.lg.length Wa.kl, .int .i64 Y.sr, .slice Wa.o Y.op.length Wa.ko] 25)) := (gC.block _ (kbox Wk_7.out)).trans Wk_7.out
  have G_8 : Hid (UwMk (Btw w2.heap.size w3.heap.size) Ga (Uwmk Y) w8) := G_7.out.on gC
  have Gk_8 : Hid (w8.heap[w3.heap.size]? = some (.cells #[.slice Ga.c Y.cl.length Ga.kc, .slice Ga.d Y.dk.length Ga.kd, .slice Ga.l Y.lg.length Ga.kl, .int .i64 Y.sr, .slice Ga.o Y.op.length Ga.ko] 25)) := (gC.block _ (kbox Gk_7.out)).trans Gk_7.out
  clear B_7 W_7 Wk_7 G_7 Gk_7
  have Hh_8 : Hid (UwMk (Btw w7.heap.size w8.heap.size) Hha Y w8) := oC
  clear oC gC
  have gA := boxB w8 (.cells #[.slice Hha.c Y.cl.length Hha.kc, .slice Hha.d Y.dk.length Hha.kd, .slice Hha.l Y.lg.length Hha.kl, .int .i64 Y.sr, .slice Hha.o Y.op.length Hha.ko] 25)
  have hA := heap_last w8 (.cells #[.slice Hha.c Y.cl.length Hha.kc, .slice Hha.d Y.dk.length Hha.kd, .slice Hha.l Y.lg.length Hha.kl, .int .i64 Y.sr, .slice Hha.o Y.op.length Hha.ko] 25)
  have zA : (w8.alloc (.cells #[.slice Hha.c Y.cl.length Hha.kc, .slice Hha.d Y.dk.length Hha.kd, .slice Hha.l Y.lg.length Hha.kl, .int .i64 Y.sr, .slice Hha.o Y.op.length Hha.ko] 25)).heap.size = w8.heap.size + 1 := heap_size _ _
  go_upto_region 14 with fail
  generalize w8.alloc (.cells #[.slice Hha.c Y.cl.length Hha.kc, .slice Hha.d Y.dk.length Hha.kd, .slice Hha.l Y.lg.length Hha.kl, .int .i64 Y.sr, .slice Hha.o Y.op.length Hha.ko] 25) = w9 at *
  have s9 := gA.size
  have B_9 : Hid (Below w0.heap.size w0 w9) := B_8.out.trans (gA.mono B_8.out.size)
  have W_9 : Hid (UwMk (Btw w0.heap.size w1.heap.size) Wa Y w9) := W_8.out.on gA
  have Wk_9 : Hid (w9.heap[w1.heap.size]? = some (.cells #[.slice Wa.c Y.cl.length Wa.kc, .slice Wa.d Y.dk.length Wa.kd, .slice Wa.l Y.lg.length Wa.kl, .int .i64 Y.sr, .slice Wa.o Y.op.length Wa.ko] 25)) := (gA.block _ (kbox Wk_8.out)).trans Wk_8.out
  have G_9 : Hid (UwMk (Btw w2.heap.size w3.heap.size) Ga (Uwmk Y) w9) := G_8.out.on gA
  have Gk_9 : Hid (w9.heap[w3.heap.size]? = some (.cells #[.slice Ga.c Y.cl.length Ga.kc, .slice Ga.d Y.dk.length Ga.kd, .slice Ga.l Y.lg.length Ga.kl, .int .i64 Y.sr, .slice Ga.o Y.op.length Ga.ko] 25)) := (gA.block _ (kbox Gk_8.out)).trans Gk_8.out
  have Hh_9 : Hid (UwMk (Btw w7.heap.size w8.heap.size) Hha Y w9) := Hh_8.out.on gA
  clear B_8 W_8 Wk_8 G_8 Gk_8 Hh_8
  have Hhk_9 : Hid (w9.heap[w8.heap.size]? = some (.cells #[.slice Hha.c Y.cl.length Hha.kc, .slice Hha.d Y.dk.length Hha.kd, .slice Hha.l Y.lg.length Hha.kl, .int .i64 Y.sr, .slice Hha.o Y.op.length Hha.ko] 25)) := hA
  have zz9 := zA
  clear gA hA zA
  have y0 : w9.cell? ⟨w8.heap.size, 0, none⟩ = some (.slice Hha.c Y.cl.length Hha.kc) := box_cell Hhk_9.out 0
  have y1 : w9.cell? ⟨w8.heap.size, 1, none⟩ = some (.slice Hha.d Y.dk.length Hha.kd) := box_cell Hhk_9.out 1
  have y2 : w9.cell? ⟨w8.heap.size, 2, none⟩ = some (.slice Hha.l Y.lg.length Hha.kl) := box_cell Hhk_9.out 2
  have y3 : w9.cell? ⟨w8.heap.size, 3, none⟩ = some (.int .i64 Y.sr) := box_cell Hhk_9.out 3
  have y4 : w9.cell? ⟨w8.heap.size, 4, none⟩ = some (.slice Hha.o Y.op.length Hha.ko) := box_cell Hhk_9.out 4
  have x0 : w9.cell? ⟨w1.heap.size, 0, none⟩ = some (.slice Wa.c Y.cl.length Wa.kc) := box_cell Wk_9.out 0
  have x1 : w9.cell? ⟨w1.heap.size, 1, none⟩ = some (.slice Wa.d Y.dk.length Wa.kd) := box_cell Wk_9.out 1
  have x2 : w9.cell? ⟨w1.heap.size, 2, none⟩ = some (.slice Wa.l Y.lg.length Wa.kl) := box_cell Wk_9.out 2
  have x3 : w9.cell? ⟨w1.heap.size, 3, none⟩ = some (.int .i64 Y.sr) := box_cell Wk_9.out 3
  have x4 : w9.cell? ⟨w1.heap.size, 4, none⟩ = some (.slice Wa.o Y.op.length Wa.ko) := box_cell Wk_9.out 4
  go_wp2_with fail
  refine (eqWorks_same Hha Wa Y _ HY.out Hh_9.out.read W_9.out.read).mono ?_
  rintro e w10 ⟨rfl, gE⟩
  clear x0 x1 x2 x3 x4 y0 y1 y2 y3 y4
  have s10 := gE.size
  have B_10 : Hid (Below w0.heap.size w0 w10) := B_9.out.trans (gE.mono B_9.out.size)
  have W_10 : Hid (UwMk (Btw w0.heap.size w1.heap.size) Wa Y w10) := W_9.out.on gE
  have Wk_10 : Hid (w10.heap[w1.heap.size]? = some (.cells #[.slice Wa.c Y.cl.length Wa.kc, .slice Wa.d Y.dk.length Wa.kd, .slice Wa.l Y.lg.length Wa.kl, .int .i64 Y.sr, .slice Wa.o Y.op.length Wa.ko] 25)) := (gE.block _ (kbox Wk_9.out)).trans Wk_9.out
  have G_10 : Hid (UwMk (Btw w2.heap.size w3.heap.size) Ga (Uwmk Y) w10) := G_9.out.on gE
  have Gk_10 : Hid (w10.heap[w3.heap.size]? = some (.cells #[.slice Ga.c Y.cl.length Ga.kc, .slice Ga.d Y.dk.length Ga.kd, .slice Ga.l Y.lg.length Ga.kl, .int .i64 Y.sr, .slice Ga.o Y.op.length Ga.ko] 25)) := (gE.block _ (kbox Gk_9.out)).trans Gk_9.out
  have Hh_10 : Hid (UwMk (Btw w7.heap.size w8.heap.size) Hha Y w10) := Hh_9.out.on gE
  have Hhk_10 : Hid (w10.heap[w8.heap.size]? = some (.cells #[.slice Hha.c Y.cl.length Hha.kc, .slice Hha.d Y.dk.length Hha.kd, .slice Hha.l Y.lg.length Hha.kl, .int .i64 Y.sr, .slice Hha.o Y.op.length Hha.ko] 25)) := (gE.block _ (kbox Hhk_9.out)).trans Hhk_9.out
  clear B_9 W_9 Wk_9 G_9 Gk_9 Hh_9 Hhk_9
  clear gE
  have y0 : w10.cell? ⟨w3.heap.size, 0, none⟩ = some (.slice Ga.c Y.cl.length Ga.kc) := box_cell Gk_10.out 0
  have y1 : w10.cell? ⟨w3.heap.size, 1, none⟩ = some (.slice Ga.d Y.dk.length Ga.kd) := box_cell Gk_10.out 1
  have y2 : w10.cell? ⟨w3.heap.size, 2, none⟩ = some (.slice Ga.l Y.lg.length Ga.kl) := box_cell Gk_10.out 2
  have y3 : w10.cell? ⟨w3.heap.size, 3, none⟩ = some (.int .i64 Y.sr) := box_cell Gk_10.out 3
  have y4 : w10.cell? ⟨w3.heap.size, 4, none⟩ = some (.slice Ga.o Y.op.length Ga.ko) := box_cell Gk_10.out 4
  go_wp2_with fail
  refine (HHD.out _ G_10.out.read).mono ?_
  rintro e w11 ⟨rfl, gH⟩
  clear y0 y1 y2 y3 y4
  have s11 := gH.size
  have B_11 : Hid (Below w0.heap.size w0 w11) := B_10.out.trans (gH.mono B_10.out.size)
  have W_11 : Hid (UwMk (Btw w0.heap.size w1.heap.size) Wa Y w11) := W_10.out.on gH
  have Wk_11 : Hid (w11.heap[w1.heap.size]? = some (.cells #[.slice Wa.c Y.cl.length Wa.kc, .slice Wa.d Y.dk.length Wa.kd, .slice Wa.l Y.lg.length Wa.kl, .int .i64 Y.sr, .slice Wa.o Y.op.length Wa.ko] 25)) := (gH.block _ (kbox Wk_10.out)).trans Wk_10.out
  have G_11 : Hid (UwMk (Btw w2.heap.size w3.heap.size) Ga (Uwmk Y) w11) := G_10.out.on gH
  have Gk_11 : Hid (w11.heap[w3.heap.size]? = some (.cells #[.slice Ga.c Y.cl.length Ga.kc, .slice Ga.d Y.dk.length Ga.kd, .slice Ga.l Y.lg.length Ga.kl, .int .i64 Y.sr, .slice Ga.o Y.op.length Ga.ko] 25)) := (gH.block _ (kbox Gk_10.out)).trans Gk_10.out
  have Hh_11 : Hid (UwMk (Btw w7.heap.size w8.heap.size) Hha Y w11) := Hh_10.out.on gH
  have Hhk_11 : Hid (w11.heap[w8.heap.size]? = some (.cells #[.slice Hha.c Y.cl.length Hha.kc, .slice Hha.d Y.dk.length Hha.kd, .slice Hha.l Y.lg.length Hha.kl, .int .i64 Y.sr, .slice Hha.o Y.op.length Hha.ko] 25)) := (gH.block _ (kbox Hhk_10.out)).trans Hhk_10.out
  clear B_10 W_10 Wk_10 G_10 Gk_10 Hh_10 Hhk_10
  clear gH
  go_wp2_with fail
  go_ret
  exact ⟨rfl, HB0.out.trans (B_11.out.mono HB0.out.size)⟩
theorem walk_NewWorks (w : World) : Calls Try.prog 3 #[] w fun e w' => e = .returned (.bool true) ∧ Below w.heap.size w w' :=
  law_NewWorks w ⟨newX, ⟨by decide, by decide, by decide, by decide⟩, fun v => snewU_any v, fun v => inewU_any v⟩
end Go.Proofs.Ytgompioaknfjgaa

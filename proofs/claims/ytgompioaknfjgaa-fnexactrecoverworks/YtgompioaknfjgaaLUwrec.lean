/- The exact law of RecoverWorks: its walk out of the contracts of the model and of the program. -/
import Derived.Test.YtgompioaknfjgaaUwRJ
import Derived.Test.YtgompioaknfjgaaUwE
import Derived.Test.YtgompioaknfjgaaUwTm
import Derived.Test.YtgompioaknfjgaaUwO
import Derived.Deep.RegionHeld
namespace Go.Proofs.Ytgompioaknfjgaa
set_option maxRecDepth 100000
open Go Go.ChangeShapes Go.WideShapes Go.ChangeAt Go.RowKit
theorem OutP.belowB {P : Nat → Prop} {w v v' : World} (h : OutP P v v') (b : Below w.heap.size w v) (hP : ∀ k, P k → w.heap.size ≤ k) : Below w.heap.size w v' := b.trans ⟨h.os, h.tape, h.output, h.size, fun k hk => h.block k (Nat.lt_of_lt_of_le hk b.size) (fun hp => by have := hP k hp; omega)⟩
/-- function f answers so -/
def TellsRecoverWorks (f : Nat) (X : Uw) (Y : Uw) (x : Bool) : Prop := ∀ (A : UwA) (v : World), UwR v.heap.size A X v → X.lg.length ≤ A.kl → Calls Try.prog f #[.agg #[.slice A.c X.cl.length A.kc, .slice A.d X.dk.length A.kd, .slice A.l X.lg.length A.kl, .int .i64 X.sr, .slice A.o X.op.length A.ko]] v fun e w' => ∃ C, e = .returned (.tuple #[.agg #[.slice C.c Y.cl.length C.kc, .slice C.d Y.dk.length C.kd, .slice C.l Y.lg.length C.kl, .int .i64 Y.sr, .slice C.o Y.op.length C.ko], .bool x]) ∧ UwMk (Btw v.heap.size w'.heap.size) C Y w' ∧ Below v.heap.size v w'
set_option maxHeartbeats 16000000 in
theorem law_RecoverWorks (A : UwA) (X : Uw) (w : World) (hc : UwCnt X) (h : UwR w.heap.size A X w)
    (H : UwFit X → ∃ (Y : Uw) (x : Bool), UwFit Y ∧ TellsRecoverWorks 30 X Y x ∧ TellsRecoverWorks 31 X Y x) :
    Calls Try.prog 7 #[.agg #[.slice A.c X.cl.length A.kc, .slice A.d X.dk.length A.kd, .slice A.l X.lg.length A.kl, .int .i64 X.sr, .slice A.o X.op.length A.ko]] w fun e w' => e = .returned (.bool true) ∧ Below w.heap.size w w' := by
  have HH : Hid (UwFit X → ∃ (Y : Uw) (x : Bool), UwFit Y ∧ TellsRecoverWorks 30 X Y x ∧ TellsRecoverWorks 31 X Y x) := H
  obtain ⟨w0, hw0⟩ : ∃ w0, w0 = w.alloc (.cells #[.slice A.c X.cl.length A.kc, .slice A.d X.dk.length A.kd, .slice A.l X.lg.length A.kl, .int .i64 X.sr, .slice A.o X.op.length A.ko] 32) := ⟨_, rfl⟩
  have HB0 : Hid (Below w.heap.size w w0) := by show Below w.heap.size w w0; rw [hw0]; exact boxB w _
  have ss0 : w.heap.size < w0.heap.size := by rw [hw0]; simp
  have HZ : Hid (∀ v, Below w0.heap.size w0 v → UwR v.heap.size A X v) := fun v g => by
    have g' := HB0.out.trans (g.mono HB0.out.size)
    exact h.up g' g'.size
  have HX : Hid (∀ v, Below w0.heap.size w0 v → v.cell? ⟨w.heap.size, 0, none⟩ = some (.slice A.c X.cl.length A.kc) ∧ v.cell? ⟨w.heap.size, 1, none⟩ = some (.slice A.d X.dk.length A.kd) ∧ v.cell? ⟨w.heap.size, 2, none⟩ = some (.slice A.l X.lg.length A.kl) ∧ v.cell? ⟨w.heap.size, 3, none⟩ = some (.int .i64 X.sr) ∧ v.cell? ⟨w.heap.size, 4, none⟩ = some (.slice A.o X.op.length A.ko)) := fun v g => by
    have h1 : v.heap[w.heap.size]? = some (.cells #[.slice A.c X.cl.length A.kc, .slice A.d X.dk.length A.kd, .slice A.l X.lg.length A.kl, .int .i64 X.sr, .slice A.o X.op.length A.ko] 32) := (g.block _ (by rw [hw0]; simp)).trans (by rw [hw0]; exact heap_last _ _)
    exact ⟨box_cell h1 0, box_cell h1 1, box_cell h1 2, box_cell h1 3, box_cell h1 4⟩
  have HSZ : Hid (∀ v, Below w0.heap.size w0 v → Calls Try.prog 14 #[.agg #[.slice A.c X.cl.length A.kc, .slice A.d X.dk.length A.kd, .slice A.l X.lg.length A.kl, .int .i64 X.sr, .slice A.o X.op.length A.ko], .int .i64 1048576] v fun e w' => (∃ r : Int, e = .returned (.int .i64 r) ∧ (0 ≤ r → UwFit X)) ∧ Below v.heap.size v w') := fun v g => szWorks_any A X v hc (HZ.out v g)
  have HTO : Hid (UwFit X → ∀ v, Below w0.heap.size w0 v → Calls Try.prog 16 #[.agg #[.slice A.c X.cl.length A.kc, .slice A.d X.dk.length A.kd, .slice A.l X.lg.length A.kl, .int .i64 X.sr, .slice A.o X.op.length A.ko]] v fun e w' => ∃ A', e = .returned (.agg #[.slice A'.c X.cl.length A'.kc, .slice A'.d X.dk.length A'.kd, .slice A'.l X.lg.length A'.kl, .int .i64 X.sr, .slice A'.o X.op.length A'.ko]) ∧ UwMk (Btw v.heap.size w'.heap.size) A' X w' ∧ Below v.heap.size v w' ∧ X.lg.length ≤ A'.kl) := fun f v g => toWorks_m A X v f (HZ.out v g)
  have W0 : Hid (w0 = w.alloc (.cells #[.slice A.c X.cl.length A.kc, .slice A.d X.dk.length A.kd, .slice A.l X.lg.length A.kl, .int .i64 X.sr, .slice A.o X.op.length A.ko] 32)) := hw0
  clear h H hw0 hc
  have B_0 : Hid (Below w0.heap.size w0 w0) := Below.refl _ _
  go_enter Try.func7, Try.ntmps7
  go_wp2_with fail
  rw [← W0.out]
  refine (HSZ.out _ B_0.out).mono ?_
  rintro e w1 ⟨⟨r, rfl, hr⟩, g1⟩
  have HR := hid hr
  clear hr HSZ
  have s1 := g1.size
  have B_1 : Hid (Below w0.heap.size w0 w1) := B_0.out.trans (g1.mono B_0.out.size)
  clear B_0
  clear g1
  by_cases p0 : 0 ≤ r
  case neg =>
    have hd0 : decide (r < 0) = true := decide_eq_true (by omega)
    clear HR
    go_wp2_with fail
    go_ret
    exact ⟨rfl, HB0.out.trans (B_1.out.mono HB0.out.size)⟩
  have hd0 : decide (r < 0) = false := decide_eq_false (by omega)
  have HF := hid (HR.out p0)
  have HT := hid (HTO.out HF.out)
  obtain ⟨Y, x, hY, h9, h11⟩ := HH.out HF.out
  have H9 : Hid (TellsRecoverWorks 30 X Y x) := h9
  have H11 : Hid (TellsRecoverWorks 31 X Y x) := h11
  clear h9 h11 HH HR HTO
  have HY := hid hY
  have HYK := hid (Uwk_le hY).2.2.2
  clear hY
  have hbk : (x != x) = false := by cases x <;> rfl
  obtain ⟨x0, x1, x2, x3, x4⟩ := HX.out _ B_1.out
  go_wp2_with fail
  refine (HT.out _ B_1.out).mono ?_
  rintro e w2 ⟨A2, rfl, oT, gT, kT⟩
  clear x0 x1 x2 x3 x4
  have s2 := gT.size
  have B_2 : Hid (Below w0.heap.size w0 w2) := B_1.out.trans (gT.mono B_1.out.size)
  clear B_1
  have OT := hid oT
  have KT := hid kT
  clear oT gT kT
  go_wp2_with fail
  refine (H9.out A2 _ OT.out.read KT.out).mono ?_
  rintro e w3 ⟨Wa, rfl, oC, gC⟩
  have s3 := gC.size
  have B_3 : Hid (Below w0.heap.size w0 w3) := B_2.out.trans (gC.mono B_2.out.size)
  clear B_2
  have W_3 : Hid (UwMk (Btw w2.heap.size w3.heap.size) Wa Y w3) := oC
  clear oC gC
  have gA := boxB w3 (.cells #[.slice Wa.c Y.cl.length Wa.kc, .slice Wa.d Y.dk.length Wa.kd, .slice Wa.l Y.lg.length Wa.kl, .int .i64 Y.sr, .slice Wa.o Y.op.length Wa.ko] 25)
  have hA := heap_last w3 (.cells #[.slice Wa.c Y.cl.length Wa.kc, .slice Wa.d Y.dk.length Wa.kd, .slice Wa.l Y.lg.length Wa.kl, .int .i64 Y.sr, .slice Wa.o Y.op.length Wa.ko] 25)
  have zA : (w3.alloc (.cells #[.slice Wa.c Y.cl.length Wa.kc, .slice Wa.d Y.dk.length Wa.kd, .slice Wa.l Y.lg.length Wa.kl, .int .i64 Y.sr, .slice Wa.o Y.op.length Wa.ko] 25)).heap.size = w3.heap.size + 1 := heap_size _ _
  go_upto_region 6 with fail
  generalize w3.alloc (.cells #[.slice Wa.c Y.cl.length Wa.kc, .slice Wa.d Y.dk.length Wa.kd, .slice Wa.l Y.lg.length Wa.kl, .int .i64 Y.sr, .slice Wa.o Y.op.length Wa.ko] 25) = w4 at *
  have s4 := gA.size
  have B_4 : Hid (Below w0.heap.size w0 w4) := B_3.out.trans (gA.mono B_3.out.size)
  have W_4 : Hid (UwMk (Btw w2.heap.size w3.heap.size) Wa Y w4) := W_3.out.on gA
  clear B_3 W_3
  have Wk_4 : Hid (w4.heap[w3.heap.size]? = some (.cells #[.slice Wa.c Y.cl.length Wa.kc, .slice Wa.d Y.dk.length Wa.kd, .slice Wa.l Y.lg.length Wa.kl, .int .i64 Y.sr, .slice Wa.o Y.op.length Wa.ko] 25)) := hA
  have zz4 := zA
  clear gA hA zA
  clear OT KT H9
  obtain ⟨x0, x1, x2, x3, x4⟩ := HX.out _ B_4.out
  go_wp2_with fail
  refine (HT.out _ B_4.out).mono ?_
  rintro e w5 ⟨A4, rfl, oT, gT, kT⟩
  clear x0 x1 x2 x3 x4
  have s5 := gT.size
  have B_5 : Hid (Below w0.heap.size w0 w5) := B_4.out.trans (gT.mono B_4.out.size)
  have W_5 : Hid (UwMk (Btw w2.heap.size w3.heap.size) Wa Y w5) := W_4.out.on gT
  have Wk_5 : Hid (w5.heap[w3.heap.size]? = some (.cells #[.slice Wa.c Y.cl.length Wa.kc, .slice Wa.d Y.dk.length Wa.kd, .slice Wa.l Y.lg.length Wa.kl, .int .i64 Y.sr, .slice Wa.o Y.op.length Wa.ko] 25)) := (gT.block _ (kbox Wk_4.out)).trans Wk_4.out
  clear B_4 W_4 Wk_4
  have X0_5 : Hid (UwMk (Btw w4.heap.size w5.heap.size) A4 X w5) := oT
  have KT := hid kT
  clear oT gT kT
  have gA := boxB w5 (.cells #[.slice A4.c X.cl.length A4.kc, .slice A4.d X.dk.length A4.kd, .slice A4.l X.lg.length A4.kl, .int .i64 X.sr, .slice A4.o X.op.length A4.ko] 25)
  have hA := heap_last w5 (.cells #[.slice A4.c X.cl.length A4.kc, .slice A4.d X.dk.length A4.kd, .slice A4.l X.lg.length A4.kl, .int .i64 X.sr, .slice A4.o X.op.length A4.ko] 25)
  have zA : (w5.alloc (.cells #[.slice A4.c X.cl.length A4.kc, .slice A4.d X.dk.length A4.kd, .slice A4.l X.lg.length A4.kl, .int .i64 X.sr, .slice A4.o X.op.length A4.ko] 25)).heap.size = w5.heap.size + 1 := heap_size _ _
  go_upto_region 7 with fail
  generalize w5.alloc (.cells #[.slice A4.c X.cl.length A4.kc, .slice A4.d X.dk.length A4.kd, .slice A4.l X.lg.length A4.kl, .int .i64 X.sr, .slice A4.o X.op.length A4.ko] 25) = w6 at *
  have s6 := gA.size
  have B_6 : Hid (Below w0.heap.size w0 w6) := B_5.out.trans (gA.mono B_5.out.size)
  have W_6 : Hid (UwMk (Btw w2.heap.size w3.heap.size) Wa Y w6) := W_5.out.on gA
  have Wk_6 : Hid (w6.heap[w3.heap.size]? = some (.cells #[.slice Wa.c Y.cl.length Wa.kc, .slice Wa.d Y.dk.length Wa.kd, .slice Wa.l Y.lg.length Wa.kl, .int .i64 Y.sr, .slice Wa.o Y.op.length Wa.ko] 25)) := (gA.block _ (kbox Wk_5.out)).trans Wk_5.out
  have X0_6 : Hid (UwMk (Btw w4.heap.size w5.heap.size) A4 X w6) := X0_5.out.on gA
  clear B_5 W_5 Wk_5 X0_5
  have X0k_6 : Hid (w6.heap[w5.heap.size]? = some (.cells #[.slice A4.c X.cl.length A4.kc, .slice A4.d X.dk.length A4.kd, .slice A4.l X.lg.length A4.kl, .int .i64 X.sr, .slice A4.o X.op.length A4.ko] 25)) := hA
  have zz6 := zA
  clear gA hA zA
  have y0 : w6.cell? ⟨w5.heap.size, 0, none⟩ = some (.slice A4.c X.cl.length A4.kc) := box_cell X0k_6.out 0
  have y1 : w6.cell? ⟨w5.heap.size, 1, none⟩ = some (.slice A4.d X.dk.length A4.kd) := box_cell X0k_6.out 1
  have y2 : w6.cell? ⟨w5.heap.size, 2, none⟩ = some (.slice A4.l X.lg.length A4.kl) := box_cell X0k_6.out 2
  have y3 : w6.cell? ⟨w5.heap.size, 3, none⟩ = some (.int .i64 X.sr) := box_cell X0k_6.out 3
  have y4 : w6.cell? ⟨w5.heap.size, 4, none⟩ = some (.slice A4.o X.op.length A4.ko) := box_cell X0k_6.out 4
  go_wp2_with fail
  refine (H11.out A4 _ X0_6.out.read KT.out).mono ?_
  rintro e w7 ⟨Ga, rfl, oC, gC⟩
  have s7 := gC.size
  have B_7 : Hid (Below w0.heap.size w0 w7) := B_6.out.trans (gC.mono B_6.out.size)
  have W_7 : Hid (UwMk (Btw w2.heap.size w3.heap.size) Wa Y w7) := W_6.out.on gC
  have Wk_7 : Hid (w7.heap[w3.heap.size]? = some (.cells #[.slice Wa.c Y.cl.length Wa.kc, .slice Wa.d Y.dk.length Wa.kd, .slice Wa.l Y.lg.length Wa.kl, .int .i64 Y.sr, .slice Wa.o Y.op.length Wa.ko] 25)) := (gC.block _ (kbox Wk_6.out)).trans Wk_6.out
  have X0_7 : Hid (UwMk (Btw w4.heap.size w5.heap.size) A4 X w7) := X0_6.out.on gC
  have X0k_7 : Hid (w7.heap[w5.heap.size]? = some (.cells #[.slice A4.c X.cl.length A4.kc, .slice A4.d X.dk.length A4.kd, .slice A4.l X.lg.length A4.kl, .int .i64 X.sr, .slice A4.o X.op.length A4.ko] 25)) := (gC.block _ (kbox X0k_6.out)).trans X0k_6.out
  clear B_6 W_6 Wk_6 X0_6 X0k_6
  have G_7 : Hid (UwMk (Btw w6.heap.size w7.heap.size) Ga Y w7) := oC
  clear oC gC
  clear y0 y1 y2 y3 y4
  have gA := boxB w7 (.cells #[.slice Ga.c Y.cl.length Ga.kc, .slice Ga.d Y.dk.length Ga.kd, .slice Ga.l Y.lg.length Ga.kl, .int .i64 Y.sr, .slice Ga.o Y.op.length Ga.ko] 25)
  have hA := heap_last w7 (.cells #[.slice Ga.c Y.cl.length Ga.kc, .slice Ga.d Y.dk.length Ga.kd, .slice Ga.l Y.lg.length Ga.kl, .int .i64 Y.sr, .slice Ga.o Y.op.length Ga.ko] 25)
  have zA : (w7.alloc (.cells #[.slice Ga.c Y.cl.length Ga.kc, .slice Ga.d Y.dk.length Ga.kd, .slice Ga.l Y.lg.length Ga.kl, .int .i64 Y.sr, .slice Ga.o Y.op.length Ga.ko] 25)).heap.size = w7.heap.size + 1 := heap_size _ _
  go_upto_region 8 with fail
  generalize w7.alloc (.cells #[.slice Ga.c Y.cl.length Ga.kc, .slice Ga.d Y.dk.length Ga.kd, .slice Ga.l Y.lg.length Ga.kl, .int .i64 Y.sr, .slice Ga.o Y.op.length Ga.ko] 25) = w8 at *
  have s8 := gA.size
  have B_8 : Hid (Below w0.heap.size w0 w8) := B_7.out.trans (gA.mono B_7.out.size)
  have W_8 : Hid (UwMk (Btw w2.heap.size w3.heap.size) Wa Y w8) := W_7.out.on gA
  have Wk_8 : Hid (w8.heap[w3.heap.size]? = some (.cells #[.slice Wa.c Y.cl.length Wa.kc, .slice Wa.d Y.dk.length Wa.kd, .slice Wa.l Y.lg.length Wa.kl, .int .i64 Y.sr, .slice Wa.o Y.op.length Wa.ko] 25)) := (gA.block _ (kbox Wk_7.out)).trans Wk_7.out
  have X0_8 : Hid (UwMk (Btw w4.heap.size w5.heap.size) A4 X w8) := X0_7.out.on gA
  have X0k_8 : Hid (w8.heap[w5.heap.size]? = some (.cells #[.slice A4.c X.cl.length A4.kc, .slice A4.d X.dk.length A4.kd, .slice A4.l X.lg.length A4.kl, .int .i64 X.sr, .slice A4.o X.op.length A4.ko] 25)) := (gA.block _ (kbox X0k_7.out)).trans X0k_7.out
  have G_8 : Hid (UwMk (Btw w6.heap.size w7.heap.size) Ga Y w8) := G_7.out.on gA
  clear B_7 W_7 Wk_7 X0_7 X0k_7 G_7
  have Gk_8 : Hid (w8.heap[w7.heap.size]? = some (.cells #[.slice Ga.c Y.cl.length Ga.kc, .slice Ga.d Y.dk.length Ga.kd, .slice Ga.l Y.lg.length Ga.kl, .int .i64 Y.sr, .slice Ga.o Y.op.length Ga.ko] 25)) := hA
  have zz8 := zA
  clear gA hA zA
  have y0 : w8.cell? ⟨w7.heap.size, 0, none⟩ = some (.slice Ga.c Y.cl.length Ga.kc) := box_cell Gk_8.out 0
  have y1 : w8.cell? ⟨w7.heap.size, 1, none⟩ = some (.slice Ga.d Y.dk.length Ga.kd) := box_cell Gk_8.out 1
  have y2 : w8.cell? ⟨w7.heap.size, 2, none⟩ = some (.slice Ga.l Y.lg.length Ga.kl) := box_cell Gk_8.out 2
  have y3 : w8.cell? ⟨w7.heap.size, 3, none⟩ = some (.int .i64 Y.sr) := box_cell Gk_8.out 3
  have y4 : w8.cell? ⟨w7.heap.size, 4, none⟩ = some (.slice Ga.o Y.op.length Ga.ko) := box_cell Gk_8.out 4
  have x0 : w8.cell? ⟨w3.heap.size, 0, none⟩ = some (.slice Wa.c Y.cl.length Wa.kc) := box_cell Wk_8.out 0
  have x1 : w8.cell? ⟨w3.heap.size, 1, none⟩ = some (.slice Wa.d Y.dk.length Wa.kd) := box_cell Wk_8.out 1
  have x2 : w8.cell? ⟨w3.heap.size, 2, none⟩ = some (.slice Wa.l Y.lg.length Wa.kl) := box_cell Wk_8.out 2
  have x3 : w8.cell? ⟨w3.heap.size, 3, none⟩ = some (.int .i64 Y.sr) := box_cell Wk_8.out 3
  have x4 : w8.cell? ⟨w3.heap.size, 4, none⟩ = some (.slice Wa.o Y.op.length Wa.ko) := box_cell Wk_8.out 4
  go_wp2_with fail
  refine (eqWorks_same Ga Wa Y _ HY.out G_8.out.read W_8.out.read).mono ?_
  rintro e w9 ⟨rfl, gE⟩
  clear x0 x1 x2 x3 x4 y0 y1 y2 y3 y4
  have s9 := gE.size
  have B_9 : Hid (Below w0.heap.size w0 w9) := B_8.out.trans (gE.mono B_8.out.size)
  have W_9 : Hid (UwMk (Btw w2.heap.size w3.heap.size) Wa Y w9) := W_8.out.on gE
  have Wk_9 : Hid (w9.heap[w3.heap.size]? = some (.cells #[.slice Wa.c Y.cl.length Wa.kc, .slice Wa.d Y.dk.length Wa.kd, .slice Wa.l Y.lg.length Wa.kl, .int .i64 Y.sr, .slice Wa.o Y.op.length Wa.ko] 25)) := (gE.block _ (kbox Wk_8.out)).trans Wk_8.out
  have X0_9 : Hid (UwMk (Btw w4.heap.size w5.heap.size) A4 X w9) := X0_8.out.on gE
  have X0k_9 : Hid (w9.heap[w5.heap.size]? = some (.cells #[.slice A4.c X.cl.length A4.kc, .slice A4.d X.dk.length A4.kd, .slice A4.l X.lg.length A4.kl, .int .i64 X.sr, .slice A4.o X.op.length A4.ko] 25)) := (gE.block _ (kbox X0k_8.out)).trans X0k_8.out
  have G_9 : Hid (UwMk (Btw w6.heap.size w7.heap.size) Ga Y w9) := G_8.out.on gE
  have Gk_9 : Hid (w9.heap[w7.heap.size]? = some (.cells #[.slice Ga.c Y.cl.length Ga.kc, .slice Ga.d Y.dk.length Ga.kd, .slice Ga.l Y.lg.length Ga.kl, .int .i64 Y.sr, .slice Ga.o Y.op.length Ga.ko] 25)) := (gE.block _ (kbox Gk_8.out)).trans Gk_8.out
  clear B_8 W_8 Wk_8 X0_8 X0k_8 G_8 Gk_8
  clear gE
  have BD : Below w9.heap.size w9 w9.drew := (Below.refl _ _).drew
  have HS : Hid (∀ v, Below w9.heap.size w9 v → (v.cell? ⟨w5.heap.size, 0, none⟩ = some (.slice A4.c X.cl.length A4.kc) ∧ v.cell? ⟨w5.heap.size, 1, none⟩ = some (.slice A4.d X.dk.length A4.kd) ∧ v.cell? ⟨w5.heap.size, 2, none⟩ = some (.slice A4.l X.lg.length A4.kl) ∧ v.cell? ⟨w5.heap.size, 3, none⟩ = some (.int .i64 X.sr) ∧ v.cell? ⟨w5.heap.size, 4, none⟩ = some (.slice A4.o X.op.length A4.ko)) ∧ v.cell? ⟨w.heap.size, 0, none⟩ = some (.slice A.c X.cl.length A.kc) ∧ v.cell? ⟨w.heap.size, 1, none⟩ = some (.slice A.d X.dk.length A.kd) ∧ v.cell? ⟨w.heap.size, 2, none⟩ = some (.slice A.l X.lg.length A.kl) ∧ v.cell? ⟨w.heap.size, 3, none⟩ = some (.int .i64 X.sr) ∧ v.cell? ⟨w.heap.size, 4, none⟩ = some (.slice A.o X.op.length A.ko)) := fun v g => by
    have h1 := (g.block _ (kbox X0k_9.out)).trans X0k_9.out
    exact ⟨⟨box_cell h1 0, box_cell h1 1, box_cell h1 2, box_cell h1 3, box_cell h1 4⟩, HX.out v (B_9.out.trans (g.mono B_9.out.size))⟩
  have HCd : Hid (∀ v, Below w9.heap.size w9 v → Calls Try.prog 16 #[.agg #[.slice A.c X.cl.length A.kc, .slice A.d X.dk.length A.kd, .slice A.l X.lg.length A.kl, .int .i64 X.sr, .slice A.o X.op.length A.ko]] v fun e w' => ∃ A', e = .returned (.agg #[.slice A'.c X.cl.length A'.kc, .slice A'.d X.dk.length A'.kd, .slice A'.l X.lg.length A'.kl, .int .i64 X.sr, .slice A'.o X.op.length A'.ko]) ∧ UwMk (Btw v.heap.size w'.heap.size) A' X w' ∧ Below v.heap.size v w' ∧ X.lg.length ≤ A'.kl) := fun v g => HT.out v (B_9.out.trans (g.mono B_9.out.size))
  have HEQ : Hid (∀ v (C : UwA), Below w9.heap.size w9 v → UwR v.heap.size C X v → Calls Try.prog 11 #[.agg #[.slice A4.c X.cl.length A4.kc, .slice A4.d X.dk.length A4.kd, .slice A4.l X.lg.length A4.kl, .int .i64 X.sr, .slice A4.o X.op.length A4.ko], .agg #[.slice C.c X.cl.length C.kc, .slice C.d X.dk.length C.kd, .slice C.l X.lg.length C.kl, .int .i64 X.sr, .slice C.o X.op.length C.ko]] v fun e w' => e = .returned (.bool true) ∧ Below v.heap.size v w') := fun v C g h1 => eqWorks_same A4 C X v HF.out (X0_9.out.read.up g g.size) h1
  obtain ⟨⟨z0, z1, z2, z3, z4⟩, t0, t1, t2, t3, t4⟩ := HS.out _ BD
  have y0 : w9.cell? ⟨w5.heap.size, 0, none⟩ = some (.slice A4.c X.cl.length A4.kc) := box_cell X0k_9.out 0
  have y1 : w9.cell? ⟨w5.heap.size, 1, none⟩ = some (.slice A4.d X.dk.length A4.kd) := box_cell X0k_9.out 1
  have y2 : w9.cell? ⟨w5.heap.size, 2, none⟩ = some (.slice A4.l X.lg.length A4.kl) := box_cell X0k_9.out 2
  have y3 : w9.cell? ⟨w5.heap.size, 3, none⟩ = some (.int .i64 X.sr) := box_cell X0k_9.out 3
  have y4 : w9.cell? ⟨w5.heap.size, 4, none⟩ = some (.slice A4.o X.op.length A4.ko) := box_cell X0k_9.out 4
  go_wp2_with fail
  go_region_held (fun v => (v.cell? ⟨w5.heap.size, 0, none⟩ = some (.slice A4.c X.cl.length A4.kc) ∧ v.cell? ⟨w5.heap.size, 1, none⟩ = some (.slice A4.d X.dk.length A4.kd) ∧ v.cell? ⟨w5.heap.size, 2, none⟩ = some (.slice A4.l X.lg.length A4.kl) ∧ v.cell? ⟨w5.heap.size, 3, none⟩ = some (.int .i64 X.sr) ∧ v.cell? ⟨w5.heap.size, 4, none⟩ = some (.slice A4.o X.op.length A4.ko)) ∧ v.cell? ⟨w.heap.size, 0, none⟩ = some (.slice A.c X.cl.length A.kc) ∧ v.cell? ⟨w.heap.size, 1, none⟩ = some (.slice A.d X.dk.length A.kd) ∧ v.cell? ⟨w.heap.size, 2, none⟩ = some (.slice A.l X.lg.length A.kl) ∧ v.cell? ⟨w.heap.size, 3, none⟩ = some (.int .i64 X.sr) ∧ v.cell? ⟨w.heap.size, 4, none⟩ = some (.slice A.o X.op.length A.ko)) (first | exact HS.out _ (by with_reducible assumption)) (first | (go_at_call 16; refine (HCd.out _ (by with_reducible assumption)).mono ?_; rintro e wa ⟨A7, rfl, o7, g7, -⟩; have B7 : Below w9.heap.size w9 wa := BD.trans (g7.mono BD.size)) | (go_at_call 11; refine (HEQ.out _ _ B7 o7.read).mono ?_; rintro e w10 ⟨rfl, g8⟩; have B8 : Below w9.heap.size w9 w10 := B7.trans (g8.mono B7.size)))
  all_goals
    have gR := B8
    clear o7 g7 g8 B7 B8 BD HS HCd HEQ z0 t0 y0 z1 t1 y1 z2 t2 y2 z3 t3 y3 z4 t4 y4
    have s10 := gR.size
    have B_10 : Hid (Below w0.heap.size w0 w10) := B_9.out.trans (gR.mono B_9.out.size)
    have W_10 : Hid (UwMk (Btw w2.heap.size w3.heap.size) Wa Y w10) := W_9.out.on gR
    have Wk_10 : Hid (w10.heap[w3.heap.size]? = some (.cells #[.slice Wa.c Y.cl.length Wa.kc, .slice Wa.d Y.dk.length Wa.kd, .slice Wa.l Y.lg.length Wa.kl, .int .i64 Y.sr, .slice Wa.o Y.op.length Wa.ko] 25)) := (gR.block _ (kbox Wk_9.out)).trans Wk_9.out
    have X0_10 : Hid (UwMk (Btw w4.heap.size w5.heap.size) A4 X w10) := X0_9.out.on gR
    have X0k_10 : Hid (w10.heap[w5.heap.size]? = some (.cells #[.slice A4.c X.cl.length A4.kc, .slice A4.d X.dk.length A4.kd, .slice A4.l X.lg.length A4.kl, .int .i64 X.sr, .slice A4.o X.op.length A4.ko] 25)) := (gR.block _ (kbox X0k_9.out)).trans X0k_9.out
    have G_10 : Hid (UwMk (Btw w6.heap.size w7.heap.size) Ga Y w10) := G_9.out.on gR
    have Gk_10 : Hid (w10.heap[w7.heap.size]? = some (.cells #[.slice Ga.c Y.cl.length Ga.kc, .slice Ga.d Y.dk.length Ga.kd, .slice Ga.l Y.lg.length Ga.kl, .int .i64 Y.sr, .slice Ga.o Y.op.length Ga.ko] 25)) := (gR.block _ (kbox Gk_9.out)).trans Gk_9.out
    clear B_9 W_9 Wk_9 X0_9 X0k_9 G_9 Gk_9
    clear gR
    have y0 : w10.cell? ⟨w5.heap.size, 0, none⟩ = some (.slice A4.c X.cl.length A4.kc) := box_cell X0k_10.out 0
    have y1 : w10.cell? ⟨w5.heap.size, 1, none⟩ = some (.slice A4.d X.dk.length A4.kd) := box_cell X0k_10.out 1
    have y2 : w10.cell? ⟨w5.heap.size, 2, none⟩ = some (.slice A4.l X.lg.length A4.kl) := box_cell X0k_10.out 2
    have y3 : w10.cell? ⟨w5.heap.size, 3, none⟩ = some (.int .i64 X.sr) := box_cell X0k_10.out 3
    have y4 : w10.cell? ⟨w5.heap.size, 4, none⟩ = some (.slice A4.o X.op.length A4.ko) := box_cell X0k_10.out 4
    go_wp2_with fail
    refine (markWorks_m (Btw w4.heap.size w5.heap.size) A4 X _ HF.out (fun k hk => by have := hk.2; omega) X0_10.out).mono ?_
    rintro e w11 ⟨rfl, oM, tM⟩
    have hm1 : decide (((Uwk4 X : Nat) : Int) < 0) = false := decide_eq_false (by omega)
    clear y0 y1 y2 y3 y4
    have s11 := tM.size
    have B_11 : Hid (Below w0.heap.size w0 w11) := tM.belowB B_10.out (fun k hk => by have := hk.1; omega)
    have W_11 : Hid (UwMk (Btw w2.heap.size w3.heap.size) Wa Y w11) := W_10.out.keep tM (fun k h1 h2 => by have := h1.1; have := h1.2; have := h2.1; have := h2.2; omega)
    have Wk_11 : Hid (w11.heap[w3.heap.size]? = some (.cells #[.slice Wa.c Y.cl.length Wa.kc, .slice Wa.d Y.dk.length Wa.kd, .slice Wa.l Y.lg.length Wa.kl, .int .i64 Y.sr, .slice Wa.o Y.op.length Wa.ko] 25)) := (tM.block _ (kbox Wk_10.out) (fun hk => by have := hk.1; have := hk.2; omega)).trans Wk_10.out
    have X0_11 : Hid (UwMk (Btw w4.heap.size w5.heap.size) A4 (Uwmk X) w11) := oM
    have X0k_11 : Hid (w11.heap[w5.heap.size]? = some (.cells #[.slice A4.c X.cl.length A4.kc, .slice A4.d X.dk.length A4.kd, .slice A4.l X.lg.length A4.kl, .int .i64 X.sr, .slice A4.o X.op.length A4.ko] 25)) := (tM.block _ (kbox X0k_10.out) (fun hk => by have := hk.1; have := hk.2; omega)).trans X0k_10.out
    have G_11 : Hid (UwMk (Btw w6.heap.size w7.heap.size) Ga Y w11) := G_10.out.keep tM (fun k h1 h2 => by have := h1.1; have := h1.2; have := h2.1; have := h2.2; omega)
    have Gk_11 : Hid (w11.heap[w7.heap.size]? = some (.cells #[.slice Ga.c Y.cl.length Ga.kc, .slice Ga.d Y.dk.length Ga.kd, .slice Ga.l Y.lg.length Ga.kl, .int .i64 Y.sr, .slice Ga.o Y.op.length Ga.ko] 25)) := (tM.block _ (kbox Gk_10.out) (fun hk => by have := hk.1; have := hk.2; omega)).trans Gk_10.out
    clear B_10 W_10 Wk_10 X0_10 X0k_10 G_10 Gk_10
    clear oM tM
    generalize Uwk4 X = m1 at *
    have y0 : w11.cell? ⟨w7.heap.size, 0, none⟩ = some (.slice Ga.c Y.cl.length Ga.kc) := box_cell Gk_11.out 0
    have y1 : w11.cell? ⟨w7.heap.size, 1, none⟩ = some (.slice Ga.d Y.dk.length Ga.kd) := box_cell Gk_11.out 1
    have y2 : w11.cell? ⟨w7.heap.size, 2, none⟩ = some (.slice Ga.l Y.lg.length Ga.kl) := box_cell Gk_11.out 2
    have y3 : w11.cell? ⟨w7.heap.size, 3, none⟩ = some (.int .i64 Y.sr) := box_cell Gk_11.out 3
    have y4 : w11.cell? ⟨w7.heap.size, 4, none⟩ = some (.slice Ga.o Y.op.length Ga.ko) := box_cell Gk_11.out 4
    have x0 : w11.cell? ⟨w3.heap.size, 0, none⟩ = some (.slice Wa.c Y.cl.length Wa.kc) := box_cell Wk_11.out 0
    have x1 : w11.cell? ⟨w3.heap.size, 1, none⟩ = some (.slice Wa.d Y.dk.length Wa.kd) := box_cell Wk_11.out 1
    have x2 : w11.cell? ⟨w3.heap.size, 2, none⟩ = some (.slice Wa.l Y.lg.length Wa.kl) := box_cell Wk_11.out 2
    have x3 : w11.cell? ⟨w3.heap.size, 3, none⟩ = some (.int .i64 Y.sr) := box_cell Wk_11.out 3
    have x4 : w11.cell? ⟨w3.heap.size, 4, none⟩ = some (.slice Wa.o Y.op.length Wa.ko) := box_cell Wk_11.out 4
    go_wp2_with fail
    refine (eqWorks_same Ga Wa Y _ HY.out G_11.out.read W_11.out.read).mono ?_
    rintro e w12 ⟨rfl, gE⟩
    clear x0 x1 x2 x3 x4 y0 y1 y2 y3 y4
    have s12 := gE.size
    have B_12 : Hid (Below w0.heap.size w0 w12) := B_11.out.trans (gE.mono B_11.out.size)
    have W_12 : Hid (UwMk (Btw w2.heap.size w3.heap.size) Wa Y w12) := W_11.out.on gE
    have Wk_12 : Hid (w12.heap[w3.heap.size]? = some (.cells #[.slice Wa.c Y.cl.length Wa.kc, .slice Wa.d Y.dk.length Wa.kd, .slice Wa.l Y.lg.length Wa.kl, .int .i64 Y.sr, .slice Wa.o Y.op.length Wa.ko] 25)) := (gE.block _ (kbox Wk_11.out)).trans Wk_11.out
    have X0_12 : Hid (UwMk (Btw w4.heap.size w5.heap.size) A4 (Uwmk X) w12) := X0_11.out.on gE
    have X0k_12 : Hid (w12.heap[w5.heap.size]? = some (.cells #[.slice A4.c X.cl.length A4.kc, .slice A4.d X.dk.length A4.kd, .slice A4.l X.lg.length A4.kl, .int .i64 X.sr, .slice A4.o X.op.length A4.ko] 25)) := (gE.block _ (kbox X0k_11.out)).trans X0k_11.out
    have G_12 : Hid (UwMk (Btw w6.heap.size w7.heap.size) Ga Y w12) := G_11.out.on gE
    have Gk_12 : Hid (w12.heap[w7.heap.size]? = some (.cells #[.slice Ga.c Y.cl.length Ga.kc, .slice Ga.d Y.dk.length Ga.kd, .slice Ga.l Y.lg.length Ga.kl, .int .i64 Y.sr, .slice Ga.o Y.op.length Ga.ko] 25)) := (gE.block _ (kbox Gk_11.out)).trans Gk_11.out
    clear B_11 W_11 Wk_11 X0_11 X0k_11 G_11 Gk_11
    clear gE
    clear X0_12
    clear X0k_12
    have y0 : w12.cell? ⟨w7.heap.size, 0, none⟩ = some (.slice Ga.c Y.cl.length Ga.kc) := box_cell Gk_12.out 0
    have y1 : w12.cell? ⟨w7.heap.size, 1, none⟩ = some (.slice Ga.d Y.dk.length Ga.kd) := box_cell Gk_12.out 1
    have y2 : w12.cell? ⟨w7.heap.size, 2, none⟩ = some (.slice Ga.l Y.lg.length Ga.kl) := box_cell Gk_12.out 2
    have y3 : w12.cell? ⟨w7.heap.size, 3, none⟩ = some (.int .i64 Y.sr) := box_cell Gk_12.out 3
    have y4 : w12.cell? ⟨w7.heap.size, 4, none⟩ = some (.slice Ga.o Y.op.length Ga.ko) := box_cell Gk_12.out 4
    go_wp2_with fail
    refine (markWorks_m (Btw w6.heap.size w7.heap.size) Ga Y _ HY.out (fun k hk => by have := hk.2; omega) G_12.out).mono ?_
    rintro e w13 ⟨rfl, oM, tM⟩
    have hm2 : decide (((Uwk4 Y : Nat) : Int) < 0) = false := decide_eq_false (by omega)
    clear y0 y1 y2 y3 y4
    have s13 := tM.size
    have B_13 : Hid (Below w0.heap.size w0 w13) := tM.belowB B_12.out (fun k hk => by have := hk.1; omega)
    have W_13 : Hid (UwMk (Btw w2.heap.size w3.heap.size) Wa Y w13) := W_12.out.keep tM (fun k h1 h2 => by have := h1.1; have := h1.2; have := h2.1; have := h2.2; omega)
    have Wk_13 : Hid (w13.heap[w3.heap.size]? = some (.cells #[.slice Wa.c Y.cl.length Wa.kc, .slice Wa.d Y.dk.length Wa.kd, .slice Wa.l Y.lg.length Wa.kl, .int .i64 Y.sr, .slice Wa.o Y.op.length Wa.ko] 25)) := (tM.block _ (kbox Wk_12.out) (fun hk => by have := hk.1; have := hk.2; omega)).trans Wk_12.out
    have G_13 : Hid (UwMk (Btw w6.heap.size w7.heap.size) Ga (Uwmk Y) w13) := oM
    have Gk_13 : Hid (w13.heap[w7.heap.size]? = some (.cells #[.slice Ga.c Y.cl.length Ga.kc, .slice Ga.d Y.dk.length Ga.kd, .slice Ga.l Y.lg.length Ga.kl, .int .i64 Y.sr, .slice Ga.o Y.op.length Ga.ko] 25)) := (tM.block _ (kbox Gk_12.out) (fun hk => by have := hk.1; have := hk.2; omega)).trans Gk_12.out
    clear B_12 W_12 Wk_12 G_12 Gk_12
    clear oM tM
    have hkk : (((Uwk4 Y : Nat) : Int) != ((Uwk4 Y : Nat) : Int)) = false := by simp
    have HHD : Hid (∀ v, UwR v.heap.size Ga (Uwmk Y) v → Calls Try.prog 13 #[.agg #[.slice Ga.c Y.cl.length Ga.kc, .slice Ga.d Y.dk.length Ga.kd, .slice Ga.l Y.lg.length Ga.kl, .int .i64 Y.sr, .slice Ga.o Y.op.length Ga.ko], .int .i64 1] v fun e w' => e = .returned (.int .i64 (Uwk4 Y : Nat)) ∧ Below v.heap.size v w') := fun v h => heldWorks_g Ga Y v HY.out h
    generalize Uwk4 Y = m2 at *
    have y0 : w13.cell? ⟨w7.heap.size, 0, none⟩ = some (.slice Ga.c Y.cl.length Ga.kc) := box_cell Gk_13.out 0
    have y1 : w13.cell? ⟨w7.heap.size, 1, none⟩ = some (.slice Ga.d Y.dk.length Ga.kd) := box_cell Gk_13.out 1
    have y2 : w13.cell? ⟨w7.heap.size, 2, none⟩ = some (.slice Ga.l Y.lg.length Ga.kl) := box_cell Gk_13.out 2
    have y3 : w13.cell? ⟨w7.heap.size, 3, none⟩ = some (.int .i64 Y.sr) := box_cell Gk_13.out 3
    have y4 : w13.cell? ⟨w7.heap.size, 4, none⟩ = some (.slice Ga.o Y.op.length Ga.ko) := box_cell Gk_13.out 4
    go_wp2_with fail
    refine (HHD.out _ G_13.out.read).mono ?_
    rintro e w14 ⟨rfl, gH⟩
    clear y0 y1 y2 y3 y4
    have s14 := gH.size
    have B_14 : Hid (Below w0.heap.size w0 w14) := B_13.out.trans (gH.mono B_13.out.size)
    have W_14 : Hid (UwMk (Btw w2.heap.size w3.heap.size) Wa Y w14) := W_13.out.on gH
    have Wk_14 : Hid (w14.heap[w3.heap.size]? = some (.cells #[.slice Wa.c Y.cl.length Wa.kc, .slice Wa.d Y.dk.length Wa.kd, .slice Wa.l Y.lg.length Wa.kl, .int .i64 Y.sr, .slice Wa.o Y.op.length Wa.ko] 25)) := (gH.block _ (kbox Wk_13.out)).trans Wk_13.out
    have G_14 : Hid (UwMk (Btw w6.heap.size w7.heap.size) Ga (Uwmk Y) w14) := G_13.out.on gH
    have Gk_14 : Hid (w14.heap[w7.heap.size]? = some (.cells #[.slice Ga.c Y.cl.length Ga.kc, .slice Ga.d Y.dk.length Ga.kd, .slice Ga.l Y.lg.length Ga.kl, .int .i64 Y.sr, .slice Ga.o Y.op.length Ga.ko] 25)) := (gH.block _ (kbox Gk_13.out)).trans Gk_13.out
    clear B_13 W_13 Wk_13 G_13 Gk_13
    clear gH
    obtain ⟨x0, x1, x2, x3, x4⟩ := HX.out _ B_14.out
    go_wp2_with fail
    refine (HT.out _ B_14.out).mono ?_
    rintro e w15 ⟨A5, rfl, oT, gT, kT⟩
    clear x0 x1 x2 x3 x4
    have s15 := gT.size
    have B_15 : Hid (Below w0.heap.size w0 w15) := B_14.out.trans (gT.mono B_14.out.size)
    have W_15 : Hid (UwMk (Btw w2.heap.size w3.heap.size) Wa Y w15) := W_14.out.on gT
    have Wk_15 : Hid (w15.heap[w3.heap.size]? = some (.cells #[.slice Wa.c Y.cl.length Wa.kc, .slice Wa.d Y.dk.length Wa.kd, .slice Wa.l Y.lg.length Wa.kl, .int .i64 Y.sr, .slice Wa.o Y.op.length Wa.ko] 25)) := (gT.block _ (kbox Wk_14.out)).trans Wk_14.out
    have G_15 : Hid (UwMk (Btw w6.heap.size w7.heap.size) Ga (Uwmk Y) w15) := G_14.out.on gT
    have Gk_15 : Hid (w15.heap[w7.heap.size]? = some (.cells #[.slice Ga.c Y.cl.length Ga.kc, .slice Ga.d Y.dk.length Ga.kd, .slice Ga.l Y.lg.length Ga.kl, .int .i64 Y.sr, .slice Ga.o Y.op.length Ga.ko] 25)) := (gT.block _ (kbox Gk_14.out)).trans Gk_14.out
    clear B_14 W_14 Wk_14 G_14 Gk_14
    have OT := hid oT
    have KT := hid kT
    clear oT gT kT
    go_wp2_with fail
    refine (H11.out A5 _ OT.out.read KT.out).mono ?_
    rintro e w16 ⟨Hha, rfl, oC, gC⟩
    have s16 := gC.size
    have B_16 : Hid (Below w0.heap.size w0 w16) := B_15.out.trans (gC.mono B_15.out.size)
    have W_16 : Hid (UwMk (Btw w2.heap.size w3.heap.size) Wa Y w16) := W_15.out.on gC
    have Wk_16 : Hid (w16.heap[w3.heap.size]? = some (.cells #[.slice Wa.c Y.cl.length Wa.kc, .slice Wa.d Y.dk.length Wa.kd, .slice Wa.l Y.lg.length Wa.kl, .int .i64 Y.sr, .slice Wa.o Y.op.length Wa.ko] 25)) := (gC.block _ (kbox Wk_15.out)).trans Wk_15.out
    have G_16 : Hid (UwMk (Btw w6.heap.size w7.heap.size) Ga (Uwmk Y) w16) := G_15.out.on gC
    have Gk_16 : Hid (w16.heap[w7.heap.size]? = some (.cells #[.slice Ga.c Y.cl.length Ga.kc, .slice Ga.d Y.dk.length Ga.kd, .slice Ga.l Y.lg.length Ga.kl, .int .i64 Y.sr, .slice Ga.o Y.op.length Ga.ko] 25)) := (gC.block _ (kbox Gk_15.out)).trans Gk_15.out
    clear B_15 W_15 Wk_15 G_15 Gk_15
    have Hh_16 : Hid (UwMk (Btw w15.heap.size w16.heap.size) Hha Y w16) := oC
    clear oC gC
    have gA := boxB w16 (.cells #[.slice Hha.c Y.cl.length Hha.kc, .slice Hha.d Y.dk.length Hha.kd, .slice Hha.l Y.lg.length Hha.kl, .int .i64 Y.sr, .slice Hha.o Y.op.length Hha.ko] 25)
    have hA := heap_last w16 (.cells #[.slice Hha.c Y.cl.length Hha.kc, .slice Hha.d Y.dk.length Hha.kd, .slice Hha.l Y.lg.length Hha.kl, .int .i64 Y.sr, .slice Hha.o Y.op.length Hha.ko] 25)
    have zA : (w16.alloc (.cells #[.slice Hha.c Y.cl.length Hha.kc, .slice Hha.d Y.dk.length Hha.kd, .slice Hha.l Y.lg.length Hha.kl, .int .i64 Y.sr, .slice Hha.o Y.op.length Hha.ko] 25)).heap.size = w16.heap.size + 1 := heap_size _ _
    go_upto_region 25 with fail
    generalize w16.alloc (.cells #[.slice Hha.c Y.cl.length Hha.kc, .slice Hha.d Y.dk.length Hha.kd, .slice Hha.l Y.lg.length Hha.kl, .int .i64 Y.sr, .slice Hha.o Y.op.length Hha.ko] 25) = w17 at *
    have s17 := gA.size
    have B_17 : Hid (Below w0.heap.size w0 w17) := B_16.out.trans (gA.mono B_16.out.size)
    have W_17 : Hid (UwMk (Btw w2.heap.size w3.heap.size) Wa Y w17) := W_16.out.on gA
    have Wk_17 : Hid (w17.heap[w3.heap.size]? = some (.cells #[.slice Wa.c Y.cl.length Wa.kc, .slice Wa.d Y.dk.length Wa.kd, .slice Wa.l Y.lg.length Wa.kl, .int .i64 Y.sr, .slice Wa.o Y.op.length Wa.ko] 25)) := (gA.block _ (kbox Wk_16.out)).trans Wk_16.out
    have G_17 : Hid (UwMk (Btw w6.heap.size w7.heap.size) Ga (Uwmk Y) w17) := G_16.out.on gA
    have Gk_17 : Hid (w17.heap[w7.heap.size]? = some (.cells #[.slice Ga.c Y.cl.length Ga.kc, .slice Ga.d Y.dk.length Ga.kd, .slice Ga.l Y.lg.length Ga.kl, .int .i64 Y.sr, .slice Ga.o Y.op.length Ga.ko] 25)) := (gA.block _ (kbox Gk_16.out)).trans Gk_16.out
    have Hh_17 : Hid (UwMk (Btw w15.heap.size w16.heap.size) Hha Y w17) := Hh_16.out.on gA
    clear B_16 W_16 Wk_16 G_16 Gk_16 Hh_16
    have Hhk_17 : Hid (w17.heap[w16.heap.size]? = some (.cells #[.slice Hha.c Y.cl.length Hha.kc, .slice Hha.d Y.dk.length Hha.kd, .slice Hha.l Y.lg.length Hha.kl, .int .i64 Y.sr, .slice Hha.o Y.op.length Hha.ko] 25)) := hA
    have zz17 := zA
    clear gA hA zA
    clear OT KT
    have y0 : w17.cell? ⟨w16.heap.size, 0, none⟩ = some (.slice Hha.c Y.cl.length Hha.kc) := box_cell Hhk_17.out 0
    have y1 : w17.cell? ⟨w16.heap.size, 1, none⟩ = some (.slice Hha.d Y.dk.length Hha.kd) := box_cell Hhk_17.out 1
    have y2 : w17.cell? ⟨w16.heap.size, 2, none⟩ = some (.slice Hha.l Y.lg.length Hha.kl) := box_cell Hhk_17.out 2
    have y3 : w17.cell? ⟨w16.heap.size, 3, none⟩ = some (.int .i64 Y.sr) := box_cell Hhk_17.out 3
    have y4 : w17.cell? ⟨w16.heap.size, 4, none⟩ = some (.slice Hha.o Y.op.length Hha.ko) := box_cell Hhk_17.out 4
    have x0 : w17.cell? ⟨w3.heap.size, 0, none⟩ = some (.slice Wa.c Y.cl.length Wa.kc) := box_cell Wk_17.out 0
    have x1 : w17.cell? ⟨w3.heap.size, 1, none⟩ = some (.slice Wa.d Y.dk.length Wa.kd) := box_cell Wk_17.out 1
    have x2 : w17.cell? ⟨w3.heap.size, 2, none⟩ = some (.slice Wa.l Y.lg.length Wa.kl) := box_cell Wk_17.out 2
    have x3 : w17.cell? ⟨w3.heap.size, 3, none⟩ = some (.int .i64 Y.sr) := box_cell Wk_17.out 3
    have x4 : w17.cell? ⟨w3.heap.size, 4, none⟩ = some (.slice Wa.o Y.op.length Wa.ko) := box_cell Wk_17.out 4
    go_wp2_with fail
    refine (eqWorks_same Hha Wa Y _ HY.out Hh_17.out.read W_17.out.read).mono ?_
    rintro e w18 ⟨rfl, gE⟩
    clear x0 x1 x2 x3 x4 y0 y1 y2 y3 y4
    have s18 := gE.size
    have B_18 : Hid (Below w0.heap.size w0 w18) := B_17.out.trans (gE.mono B_17.out.size)
    have W_18 : Hid (UwMk (Btw w2.heap.size w3.heap.size) Wa Y w18) := W_17.out.on gE
    have Wk_18 : Hid (w18.heap[w3.heap.size]? = some (.cells #[.slice Wa.c Y.cl.length Wa.kc, .slice Wa.d Y.dk.length Wa.kd, .slice Wa.l Y.lg.length Wa.kl, .int .i64 Y.sr, .slice Wa.o Y.op.length Wa.ko] 25)) := (gE.block _ (kbox Wk_17.out)).trans Wk_17.out
    have G_18 : Hid (UwMk (Btw w6.heap.size w7.heap.size) Ga (Uwmk Y) w18) := G_17.out.on gE
    have Gk_18 : Hid (w18.heap[w7.heap.size]? = some (.cells #[.slice Ga.c Y.cl.length Ga.kc, .slice Ga.d Y.dk.length Ga.kd, .slice Ga.l Y.lg.length Ga.kl, .int .i64 Y.sr, .slice Ga.o Y.op.length Ga.ko] 25)) := (gE.block _ (kbox Gk_17.out)).trans Gk_17.out
    have Hh_18 : Hid (UwMk (Btw w15.heap.size w16.heap.size) Hha Y w18) := Hh_17.out.on gE
    have Hhk_18 : Hid (w18.heap[w16.heap.size]? = some (.cells #[.slice Hha.c Y.cl.length Hha.kc, .slice Hha.d Y.dk.length Hha.kd, .slice Hha.l Y.lg.length Hha.kl, .int .i64 Y.sr, .slice Hha.o Y.op.length Hha.ko] 25)) := (gE.block _ (kbox Hhk_17.out)).trans Hhk_17.out
    clear B_17 W_17 Wk_17 G_17 Gk_17 Hh_17 Hhk_17
    clear gE
    have y0 : w18.cell? ⟨w7.heap.size, 0, none⟩ = some (.slice Ga.c Y.cl.length Ga.kc) := box_cell Gk_18.out 0
    have y1 : w18.cell? ⟨w7.heap.size, 1, none⟩ = some (.slice Ga.d Y.dk.length Ga.kd) := box_cell Gk_18.out 1
    have y2 : w18.cell? ⟨w7.heap.size, 2, none⟩ = some (.slice Ga.l Y.lg.length Ga.kl) := box_cell Gk_18.out 2
    have y3 : w18.cell? ⟨w7.heap.size, 3, none⟩ = some (.int .i64 Y.sr) := box_cell Gk_18.out 3
    have y4 : w18.cell? ⟨w7.heap.size, 4, none⟩ = some (.slice Ga.o Y.op.length Ga.ko) := box_cell Gk_18.out 4
    go_wp2_with fail
    refine (HHD.out _ G_18.out.read).mono ?_
    rintro e w19 ⟨rfl, gH⟩
    clear y0 y1 y2 y3 y4
    have s19 := gH.size
    have B_19 : Hid (Below w0.heap.size w0 w19) := B_18.out.trans (gH.mono B_18.out.size)
    have W_19 : Hid (UwMk (Btw w2.heap.size w3.heap.size) Wa Y w19) := W_18.out.on gH
    have Wk_19 : Hid (w19.heap[w3.heap.size]? = some (.cells #[.slice Wa.c Y.cl.length Wa.kc, .slice Wa.d Y.dk.length Wa.kd, .slice Wa.l Y.lg.length Wa.kl, .int .i64 Y.sr, .slice Wa.o Y.op.length Wa.ko] 25)) := (gH.block _ (kbox Wk_18.out)).trans Wk_18.out
    have G_19 : Hid (UwMk (Btw w6.heap.size w7.heap.size) Ga (Uwmk Y) w19) := G_18.out.on gH
    have Gk_19 : Hid (w19.heap[w7.heap.size]? = some (.cells #[.slice Ga.c Y.cl.length Ga.kc, .slice Ga.d Y.dk.length Ga.kd, .slice Ga.l Y.lg.length Ga.kl, .int .i64 Y.sr, .slice Ga.o Y.op.length Ga.ko] 25)) := (gH.block _ (kbox Gk_18.out)).trans Gk_18.out
    have Hh_19 : Hid (UwMk (Btw w15.heap.size w16.heap.size) Hha Y w19) := Hh_18.out.on gH
    have Hhk_19 : Hid (w19.heap[w16.heap.size]? = some (.cells #[.slice Hha.c Y.cl.length Hha.kc, .slice Hha.d Y.dk.length Hha.kd, .slice Hha.l Y.lg.length Hha.kl, .int .i64 Y.sr, .slice Hha.o Y.op.length Hha.ko] 25)) := (gH.block _ (kbox Hhk_18.out)).trans Hhk_18.out
    clear B_18 W_18 Wk_18 G_18 Gk_18 Hh_18 Hhk_18
    clear gH
    go_wp2_with fail
    go_ret
    exact ⟨rfl, HB0.out.trans (B_19.out.mono HB0.out.size)⟩
theorem recX_fit {X : Uw} (h : goodU X = true) : UwFit (recX X) := by
  obtain ⟨p1, -, p3, p4, -, -⟩ := goodU_parts h
  have hd6 : X.dk.length = 6 := by
    unfold cellsB at p3
    rw [Bool.and_eq_true] at p3
    exact of_decide_eq_true p3.1
  have hl : (recF X).length = 6 := by
    show (undN X.lg (openL X.lg) (redoF X.dk X.lg) [] X.lg.length).length = 6
    rw [← und_all X.lg p1, undS_len, redoF_len]; exact hd6
  exact ⟨by show (recF X).length ≤ _; omega, by show (recF X).length ≤ _; omega, Nat.zero_le _, Nat.zero_le _⟩
theorem recV_fit (X : Uw) : UwFit (recV X) := by
  unfold recV
  cases h : goodU X
  · exact ⟨Nat.zero_le _, Nat.zero_le _, Nat.zero_le _, Nat.zero_le _⟩
  · exact recX_fit h
theorem walk_RecoverWorks (A : UwA) (X : Uw) (w : World) (h : UwR w.heap.size A X w) (hc : UwCnt X) (_hs3 : fit X.sr) :
    Calls Try.prog 7 #[.agg #[.slice A.c X.cl.length A.kc, .slice A.d X.dk.length A.kd, .slice A.l X.lg.length A.kl, .int .i64 X.sr, .slice A.o X.op.length A.ko]] w fun e w' => e = .returned (.bool true) ∧ Below w.heap.size w w' :=
  law_RecoverWorks A X w hc h fun hf => ⟨recV X, goodU X, recV_fit X, fun A v h1 _ => srecover_any A X v hf h1, fun A v h1 _ => irecover_any A X v hf h1⟩
end Go.Proofs.Ytgompioaknfjgaa

/- The exact law of WhoHas: its walk out of the contracts of the model and of the program. -/
import Derived.Test.YtgompioaknfjgabUwWw
import Derived.Test.YtgompioaknfjgabUwTm
import Derived.Test.YtgompioaknfjgabUwE
import Derived.Test.YtgompioaknfjgabUwO
import Derived.Deep.RegionHeld
namespace Go.Proofs.Ytgompioaknfjgab
set_option maxRecDepth 100000
open Go Go.ChangeShapes Go.WideShapes Go.ChangeAt Go.RowKit
/-- function f answers so -/
def TellsWhoHas (f : Nat) (X : Uw) (z : Int) (n : Int) (x : Bool) : Prop := ∀ (A : UwA) (v : World), UwR v.heap.size A X v → X.lg.length ≤ A.kl → Calls Try.prog f #[.agg #[.slice A.c X.cl.length A.kc, .slice A.d X.dk.length A.kd, .slice A.l X.lg.length A.kl, .int .i64 X.sr, .slice A.o X.op.length A.ko], .int .i64 z] v fun e w' => e = .returned (.tuple #[.int .i64 n, .bool x]) ∧ Below v.heap.size v w'
set_option maxHeartbeats 16000000 in
theorem law_WhoHas (A : UwA) (X : Uw) (z : Int) (w : World) (hc : UwCnt X) (h : UwR w.heap.size A X w)
    (H : UwFit X → ∃ (n : Int) (x : Bool), TellsWhoHas 5 X z n x ∧ TellsWhoHas 7 X z n x) :
    Calls Try.prog 3 #[.agg #[.slice A.c X.cl.length A.kc, .slice A.d X.dk.length A.kd, .slice A.l X.lg.length A.kl, .int .i64 X.sr, .slice A.o X.op.length A.ko], .int .i64 z] w fun e w' => e = .returned (.bool true) ∧ Below w.heap.size w w' := by
  have HH : Hid (UwFit X → ∃ (n : Int) (x : Bool), TellsWhoHas 5 X z n x ∧ TellsWhoHas 7 X z n x) := H
  obtain ⟨w0, hw0⟩ : ∃ w0, w0 = w.alloc (.cells #[.slice A.c X.cl.length A.kc, .slice A.d X.dk.length A.kd, .slice A.l X.lg.length A.kl, .int .i64 X.sr, .slice A.o X.op.length A.ko] 25) := ⟨_, rfl⟩
  have HB0 : Hid (Below w.heap.size w w0) := by show Below w.heap.size w w0; rw [hw0]; exact boxB w _
  have ss0 : w.heap.size < w0.heap.size := by rw [hw0]; simp
  have HZ : Hid (∀ v, Below w0.heap.size w0 v → UwR v.heap.size A X v) := fun v g => by
    have g' := HB0.out.trans (g.mono HB0.out.size)
    exact h.up g' g'.size
  have HX : Hid (∀ v, Below w0.heap.size w0 v → v.cell? ⟨w.heap.size, 0, none⟩ = some (.slice A.c X.cl.length A.kc) ∧ v.cell? ⟨w.heap.size, 1, none⟩ = some (.slice A.d X.dk.length A.kd) ∧ v.cell? ⟨w.heap.size, 2, none⟩ = some (.slice A.l X.lg.length A.kl) ∧ v.cell? ⟨w.heap.size, 3, none⟩ = some (.int .i64 X.sr) ∧ v.cell? ⟨w.heap.size, 4, none⟩ = some (.slice A.o X.op.length A.ko)) := fun v g => by
    have h1 : v.heap[w.heap.size]? = some (.cells #[.slice A.c X.cl.length A.kc, .slice A.d X.dk.length A.kd, .slice A.l X.lg.length A.kl, .int .i64 X.sr, .slice A.o X.op.length A.ko] 25) := (g.block _ (by rw [hw0]; simp)).trans (by rw [hw0]; exact heap_last _ _)
    exact ⟨box_cell h1 0, box_cell h1 1, box_cell h1 2, box_cell h1 3, box_cell h1 4⟩
  have HSZ : Hid (∀ v, Below w0.heap.size w0 v → Calls Try.prog 4 #[.agg #[.slice A.c X.cl.length A.kc, .slice A.d X.dk.length A.kd, .slice A.l X.lg.length A.kl, .int .i64 X.sr, .slice A.o X.op.length A.ko], .int .i64 1048576] v fun e w' => (∃ r : Int, e = .returned (.int .i64 r) ∧ (0 ≤ r → UwFit X)) ∧ Below v.heap.size v w') := fun v g => szWorks_any A X v hc (HZ.out v g)
  have HTO : Hid (UwFit X → ∀ v, Below w0.heap.size w0 v → Calls Try.prog 6 #[.agg #[.slice A.c X.cl.length A.kc, .slice A.d X.dk.length A.kd, .slice A.l X.lg.length A.kl, .int .i64 X.sr, .slice A.o X.op.length A.ko]] v fun e w' => ∃ A', e = .returned (.agg #[.slice A'.c X.cl.length A'.kc, .slice A'.d X.dk.length A'.kd, .slice A'.l X.lg.length A'.kl, .int .i64 X.sr, .slice A'.o X.op.length A'.ko]) ∧ UwMk (Btw v.heap.size w'.heap.size) A' X w' ∧ Below v.heap.size v w' ∧ X.lg.length ≤ A'.kl) := fun f v g => toWorks_m A X v f (HZ.out v g)
  have W0 : Hid (w0 = w.alloc (.cells #[.slice A.c X.cl.length A.kc, .slice A.d X.dk.length A.kd, .slice A.l X.lg.length A.kl, .int .i64 X.sr, .slice A.o X.op.length A.ko] 25)) := hw0
  clear h H hw0 hc
  have B_0 : Hid (Below w0.heap.size w0 w0) := Below.refl _ _
  go_enter Try.func3, Try.ntmps3
  go_wp2_with fail
  rw [← W0.out]
  refine (HSZ.out _ B_0.out).mono ?_
  rintro e w1 ⟨⟨r, rfl, hr⟩, g1⟩
  have HR := hid hr
  clear hr HSZ
  have s1 := g1.size
  have B_1 : Hid (Below w0.heap.size w0 w1) := B_0.out.trans (g1.mono B_0.out.size)
  clear B_0
  clear g1
  by_cases p0 : 0 ≤ r
  case neg =>
    have hd0 : decide (r < 0) = true := decide_eq_true (by omega)
    clear HR
    go_wp2_with fail
    go_ret
    exact ⟨rfl, HB0.out.trans (B_1.out.mono HB0.out.size)⟩
  have hd0 : decide (r < 0) = false := decide_eq_false (by omega)
  have HF := hid (HR.out p0)
  have HT := hid (HTO.out HF.out)
  obtain ⟨n, x, h9, h11⟩ := HH.out HF.out
  have H9 : Hid (TellsWhoHas 5 X z n x) := h9
  have H11 : Hid (TellsWhoHas 7 X z n x) := h11
  clear h9 h11 HH HR HTO
  have hbk : (x != x) = false := by cases x <;> rfl
  have hnk : (n != n) = false := by simp
  obtain ⟨x0, x1, x2, x3, x4⟩ := HX.out _ B_1.out
  go_wp2_with fail
  refine (HT.out _ B_1.out).mono ?_
  rintro e w2 ⟨A2, rfl, oT, gT, kT⟩
  clear x0 x1 x2 x3 x4
  have s2 := gT.size
  have B_2 : Hid (Below w0.heap.size w0 w2) := B_1.out.trans (gT.mono B_1.out.size)
  clear B_1
  have OT := hid oT
  have KT := hid kT
  clear oT gT kT
  go_wp2_with fail
  refine (H9.out A2 _ OT.out.read KT.out).mono ?_
  rintro e w3 ⟨rfl, gC⟩
  have s3 := gC.size
  have B_3 : Hid (Below w0.heap.size w0 w3) := B_2.out.trans (gC.mono B_2.out.size)
  clear B_2
  clear gC
  clear OT KT H9
  obtain ⟨x0, x1, x2, x3, x4⟩ := HX.out _ B_3.out
  go_wp2_with fail
  refine (HT.out _ B_3.out).mono ?_
  rintro e w4 ⟨A4, rfl, oT, gT, kT⟩
  clear x0 x1 x2 x3 x4
  have s4 := gT.size
  have B_4 : Hid (Below w0.heap.size w0 w4) := B_3.out.trans (gT.mono B_3.out.size)
  clear B_3
  have X0_4 : Hid (UwMk (Btw w3.heap.size w4.heap.size) A4 X w4) := oT
  have KT := hid kT
  clear oT gT kT
  have gA := boxB w4 (.cells #[.slice A4.c X.cl.length A4.kc, .slice A4.d X.dk.length A4.kd, .slice A4.l X.lg.length A4.kl, .int .i64 X.sr, .slice A4.o X.op.length A4.ko] 31)
  have hA := heap_last w4 (.cells #[.slice A4.c X.cl.length A4.kc, .slice A4.d X.dk.length A4.kd, .slice A4.l X.lg.length A4.kl, .int .i64 X.sr, .slice A4.o X.op.length A4.ko] 31)
  have zA : (w4.alloc (.cells #[.slice A4.c X.cl.length A4.kc, .slice A4.d X.dk.length A4.kd, .slice A4.l X.lg.length A4.kl, .int .i64 X.sr, .slice A4.o X.op.length A4.ko] 31)).heap.size = w4.heap.size + 1 := heap_size _ _
  go_wp2_with fail
  generalize w4.alloc (.cells #[.slice A4.c X.cl.length A4.kc, .slice A4.d X.dk.length A4.kd, .slice A4.l X.lg.length A4.kl, .int .i64 X.sr, .slice A4.o X.op.length A4.ko] 31) = w5 at *
  have s5 := gA.size
  have B_5 : Hid (Below w0.heap.size w0 w5) := B_4.out.trans (gA.mono B_4.out.size)
  have X0_5 : Hid (UwMk (Btw w3.heap.size w4.heap.size) A4 X w5) := X0_4.out.on gA
  clear B_4 X0_4
  have X0k_5 : Hid (w5.heap[w4.heap.size]? = some (.cells #[.slice A4.c X.cl.length A4.kc, .slice A4.d X.dk.length A4.kd, .slice A4.l X.lg.length A4.kl, .int .i64 X.sr, .slice A4.o X.op.length A4.ko] 31)) := hA
  have zz5 := zA
  clear gA hA zA
  have y0 : w5.cell? ⟨w4.heap.size, 0, none⟩ = some (.slice A4.c X.cl.length A4.kc) := box_cell X0k_5.out 0
  have y1 : w5.cell? ⟨w4.heap.size, 1, none⟩ = some (.slice A4.d X.dk.length A4.kd) := box_cell X0k_5.out 1
  have y2 : w5.cell? ⟨w4.heap.size, 2, none⟩ = some (.slice A4.l X.lg.length A4.kl) := box_cell X0k_5.out 2
  have y3 : w5.cell? ⟨w4.heap.size, 3, none⟩ = some (.int .i64 X.sr) := box_cell X0k_5.out 3
  have y4 : w5.cell? ⟨w4.heap.size, 4, none⟩ = some (.slice A4.o X.op.length A4.ko) := box_cell X0k_5.out 4
  go_wp2_with fail
  refine (H11.out A4 _ X0_5.out.read KT.out).mono ?_
  rintro e w6 ⟨rfl, gC⟩
  have s6 := gC.size
  have B_6 : Hid (Below w0.heap.size w0 w6) := B_5.out.trans (gC.mono B_5.out.size)
  have X0_6 : Hid (UwMk (Btw w3.heap.size w4.heap.size) A4 X w6) := X0_5.out.on gC
  have X0k_6 : Hid (w6.heap[w4.heap.size]? = some (.cells #[.slice A4.c X.cl.length A4.kc, .slice A4.d X.dk.length A4.kd, .slice A4.l X.lg.length A4.kl, .int .i64 X.sr, .slice A4.o X.op.length A4.ko] 31)) := (gC.block _ (kbox X0k_5.out)).trans X0k_5.out
  clear B_5 X0_5 X0k_5
  clear gC
  clear y0 y1 y2 y3 y4
  have BD : Below w6.heap.size w6 w6.drew := (Below.refl _ _).drew
  have HS : Hid (∀ v, Below w6.heap.size w6 v → (v.cell? ⟨w4.heap.size, 0, none⟩ = some (.slice A4.c X.cl.length A4.kc) ∧ v.cell? ⟨w4.heap.size, 1, none⟩ = some (.slice A4.d X.dk.length A4.kd) ∧ v.cell? ⟨w4.heap.size, 2, none⟩ = some (.slice A4.l X.lg.length A4.kl) ∧ v.cell? ⟨w4.heap.size, 3, none⟩ = some (.int .i64 X.sr) ∧ v.cell? ⟨w4.heap.size, 4, none⟩ = some (.slice A4.o X.op.length A4.ko)) ∧ v.cell? ⟨w.heap.size, 0, none⟩ = some (.slice A.c X.cl.length A.kc) ∧ v.cell? ⟨w.heap.size, 1, none⟩ = some (.slice A.d X.dk.length A.kd) ∧ v.cell? ⟨w.heap.size, 2, none⟩ = some (.slice A.l X.lg.length A.kl) ∧ v.cell? ⟨w.heap.size, 3, none⟩ = some (.int .i64 X.sr) ∧ v.cell? ⟨w.heap.size, 4, none⟩ = some (.slice A.o X.op.length A.ko)) := fun v g => by
    have h1 := (g.block _ (kbox X0k_6.out)).trans X0k_6.out
    exact ⟨⟨box_cell h1 0, box_cell h1 1, box_cell h1 2, box_cell h1 3, box_cell h1 4⟩, HX.out v (B_6.out.trans (g.mono B_6.out.size))⟩
  have HCd : Hid (∀ v, Below w6.heap.size w6 v → Calls Try.prog 6 #[.agg #[.slice A.c X.cl.length A.kc, .slice A.d X.dk.length A.kd, .slice A.l X.lg.length A.kl, .int .i64 X.sr, .slice A.o X.op.length A.ko]] v fun e w' => ∃ A', e = .returned (.agg #[.slice A'.c X.cl.length A'.kc, .slice A'.d X.dk.length A'.kd, .slice A'.l X.lg.length A'.kl, .int .i64 X.sr, .slice A'.o X.op.length A'.ko]) ∧ UwMk (Btw v.heap.size w'.heap.size) A' X w' ∧ Below v.heap.size v w' ∧ X.lg.length ≤ A'.kl) := fun v g => HT.out v (B_6.out.trans (g.mono B_6.out.size))
  have HEQ : Hid (∀ v (C : UwA), Below w6.heap.size w6 v → UwR v.heap.size C X v → Calls Try.prog 8 #[.agg #[.slice A4.c X.cl.length A4.kc, .slice A4.d X.dk.length A4.kd, .slice A4.l X.lg.length A4.kl, .int .i64 X.sr, .slice A4.o X.op.length A4.ko], .agg #[.slice C.c X.cl.length C.kc, .slice C.d X.dk.length C.kd, .slice C.l X.lg.length C.kl, .int .i64 X.sr, .slice C.o X.op.length C.ko]] v fun e w' => e = .returned (.bool true) ∧ Below v.heap.size v w') := fun v C g h1 => eqWorks_same A4 C X v HF.out (X0_6.out.read.up g g.size) h1
  obtain ⟨⟨z0, z1, z2, z3, z4⟩, t0, t1, t2, t3, t4⟩ := HS.out _ BD
  have y0 : w6.cell? ⟨w4.heap.size, 0, none⟩ = some (.slice A4.c X.cl.length A4.kc) := box_cell X0k_6.out 0
  have y1 : w6.cell? ⟨w4.heap.size, 1, none⟩ = some (.slice A4.d X.dk.length A4.kd) := box_cell X0k_6.out 1
  have y2 : w6.cell? ⟨w4.heap.size, 2, none⟩ = some (.slice A4.l X.lg.length A4.kl) := box_cell X0k_6.out 2
  have y3 : w6.cell? ⟨w4.heap.size, 3, none⟩ = some (.int .i64 X.sr) := box_cell X0k_6.out 3
  have y4 : w6.cell? ⟨w4.heap.size, 4, none⟩ = some (.slice A4.o X.op.length A4.ko) := box_cell X0k_6.out 4
  go_wp2_with fail
  go_region_held (fun v => (v.cell? ⟨w4.heap.size, 0, none⟩ = some (.slice A4.c X.cl.length A4.kc) ∧ v.cell? ⟨w4.heap.size, 1, none⟩ = some (.slice A4.d X.dk.length A4.kd) ∧ v.cell? ⟨w4.heap.size, 2, none⟩ = some (.slice A4.l X.lg.length A4.kl) ∧ v.cell? ⟨w4.heap.size, 3, none⟩ = some (.int .i64 X.sr) ∧ v.cell? ⟨w4.heap.size, 4, none⟩ = some (.slice A4.o X.op.length A4.ko)) ∧ v.cell? ⟨w.heap.size, 0, none⟩ = some (.slice A.c X.cl.length A.kc) ∧ v.cell? ⟨w.heap.size, 1, none⟩ = some (.slice A.d X.dk.length A.kd) ∧ v.cell? ⟨w.heap.size, 2, none⟩ = some (.slice A.l X.lg.length A.kl) ∧ v.cell? ⟨w.heap.size, 3, none⟩ = some (.int .i64 X.sr) ∧ v.cell? ⟨w.heap.size, 4, none⟩ = some (.slice A.o X.op.length A.ko)) (first | exact HS.out _ (by with_reducible assumption)) (first | (go_at_call 6; refine (HCd.out _ (by with_reducible assumption)).mono ?_; rintro e wa ⟨A7, rfl, o7, g7, -⟩; have B7 : Below w6.heap.size w6 wa := BD.trans (g7.mono BD.size)) | (go_at_call 8; refine (HEQ.out _ _ B7 o7.read).mono ?_; rintro e w7 ⟨rfl, g8⟩; have B8 : Below w6.heap.size w6 w7 := B7.trans (g8.mono B7.size)))
  all_goals
    have gR := B8
    clear o7 g7 g8 B7 B8 BD HS HCd HEQ z0 t0 y0 z1 t1 y1 z2 t2 y2 z3 t3 y3 z4 t4 y4
    have s7 := gR.size
    have B_7 : Hid (Below w0.heap.size w0 w7) := B_6.out.trans (gR.mono B_6.out.size)
    have X0_7 : Hid (UwMk (Btw w3.heap.size w4.heap.size) A4 X w7) := X0_6.out.on gR
    have X0k_7 : Hid (w7.heap[w4.heap.size]? = some (.cells #[.slice A4.c X.cl.length A4.kc, .slice A4.d X.dk.length A4.kd, .slice A4.l X.lg.length A4.kl, .int .i64 X.sr, .slice A4.o X.op.length A4.ko] 31)) := (gR.block _ (kbox X0k_6.out)).trans X0k_6.out
    clear B_6 X0_6 X0k_6
    clear gR
    go_wp2_with fail
    go_ret
    exact ⟨rfl, HB0.out.trans (B_7.out.mono HB0.out.size)⟩
theorem walk_WhoHas (A : UwA) (X : Uw) (z : Int) (w : World) (h : UwR w.heap.size A X w) (hc : UwCnt X) (_hs3 : fit X.sr) (_h2 : fit z) :
    Calls Try.prog 3 #[.agg #[.slice A.c X.cl.length A.kc, .slice A.d X.dk.length A.kd, .slice A.l X.lg.length A.kl, .int .i64 X.sr, .slice A.o X.op.length A.ko], .int .i64 z] w fun e w' => e = .returned (.bool true) ∧ Below w.heap.size w w' :=
  law_WhoHas A X z w hc h fun hf => ⟨whoV X z, whoOk X z, fun A v h1 h2 => swhoU_any A X z v hf h2 h1, fun A v h1 h2 => iwhoU_any A X z v hf h2 h1⟩
end Go.Proofs.Ytgompioaknfjgab

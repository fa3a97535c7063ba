/- WhoHas, both sides. -/
import Derived.Test.YtgompioaknfjgabUwWh
import Derived.Test.YtgompioaknfjgabUwGg
namespace Go.Proofs.Ytgompioaknfjgab
set_option maxRecDepth 100000
open Go Go.ChangeShapes Go.WideShapes Go.ChangeAt Go.RowKit
set_option maxHeartbeats 4000000 in
theorem swhoU_any (A : UwA) (X : Uw) (z : Int) (w : World) (hf : UwFit X) (hcap : X.lg.length ≤ A.kl) (h : UwR w.heap.size A X w) :
    Calls Try.prog 5 #[.agg #[.slice A.c X.cl.length A.kc, .slice A.d X.dk.length A.kd, .slice A.l X.lg.length A.kl, .int .i64 X.sr, .slice A.o X.op.length A.ko], .int .i64 z] w fun e w' => e = .returned (.tuple #[.int .i64 (whoV X z), .bool (whoOk X z)]) ∧ Below w.heap.size w w' := by
  have HB0 := hid (boxB w (.cells #[.slice A.c X.cl.length A.kc, .slice A.d X.dk.length A.kd, .slice A.l X.lg.length A.kl, .int .i64 X.sr, .slice A.o X.op.length A.ko] 31))
  have HK0 := hid (heap_last w (.cells #[.slice A.c X.cl.length A.kc, .slice A.d X.dk.length A.kd, .slice A.l X.lg.length A.kl, .int .i64 X.sr, .slice A.o X.op.length A.ko] 31))
  have HZ : Hid (∀ v, Below w.heap.size w v → UwR v.heap.size A X v) := fun v g => h.up g g.size
  have HG := hid (fun v g => sgoodU_any A X v hf (HZ.out v g))
  have HI := hid (fun v => l1In_b z 0 5 v)
  have HWF : Hid (∀ v, Below w.heap.size w v → Calls Try.prog 13 #[.agg #[.slice A.c X.cl.length A.kc, .slice A.d X.dk.length A.kd, .slice A.l X.lg.length A.kl, .int .i64 X.sr, .slice A.o X.op.length A.ko], .int .i64 z] v fun e w' => e = .returned (.int .i64 (whoF X.lg z X.op)) ∧ Below v.heap.size v w') := fun v g => swho_any A X z v hf (HZ.out v g)
  have HOW : Hid (goodU X = true → ∀ v, Below w.heap.size w v → Calls Try.prog 18 #[.agg #[.slice A.c X.cl.length A.kc, .slice A.d X.dk.length A.kd, .slice A.l X.lg.length A.kl, .int .i64 X.sr, .slice A.o X.op.length A.ko], .int .i64 z, .int .i64 0] v fun e w' => e = .returned (.tuple #[.int .i64 (whoF X.lg z X.op), .bool (decide (whoF X.lg z X.op ≠ 0))]) ∧ Below v.heap.size v w') := fun hg v g => by
    obtain ⟨p1, -, -, -, -, p6⟩ := goodU_parts hg
    have hm : ∀ who ∈ X.op, 1 ≤ who ∧ isO X.lg who = true := fun who hw => by
      rw [p6] at hw
      exact ⟨(mem_openK hw).1, openL_isO p1 hw⟩
    have := iow_any A X z 0 v hf hcap (fun who hw => (hm who hw).2) (HZ.out v g)
    rw [owF_who X.lg z X.op hm] at this
    exact this
  have EV : Hid (whoV X z = if goodU X && inB 0 5 z then whoF X.lg z X.op else 0) := rfl
  have EO : Hid (whoOk X z = decide (whoV X z ≠ 0)) := rfl
  rw [show whoOk X z = decide (whoV X z ≠ 0) from rfl]
  obtain ⟨vv, hvv⟩ : ∃ v, v = whoV X z := ⟨_, rfl⟩
  rw [← hvv] at EV ⊢
  have ED : Hid (vv = whoF X.lg z X.op → decide (vv ≠ 0) = decide (whoF X.lg z X.op ≠ 0)) := fun h => by rw [h]
  clear h hf hcap hvv EO
  generalize goodU X = g at *
  generalize inB 0 5 z = q at *
  generalize decide (whoF X.lg z X.op ≠ 0) = dd at *
  generalize whoF X.lg z X.op = r at *
  go_enter Try.func5, Try.ntmps5
  go_upto_region 1 with fail
  generalize w.alloc (.cells #[.slice A.c X.cl.length A.kc, .slice A.d X.dk.length A.kd, .slice A.l X.lg.length A.kl, .int .i64 X.sr, .slice A.o X.op.length A.ko] 31) = W at *
  have x0 : W.cell? ⟨w.heap.size, 0, none⟩ = some (.slice A.c X.cl.length A.kc) := box_cell HK0.out 0
  have x1 : W.cell? ⟨w.heap.size, 1, none⟩ = some (.slice A.d X.dk.length A.kd) := box_cell HK0.out 1
  have x2 : W.cell? ⟨w.heap.size, 2, none⟩ = some (.slice A.l X.lg.length A.kl) := box_cell HK0.out 2
  have x3 : W.cell? ⟨w.heap.size, 3, none⟩ = some (.int .i64 X.sr) := box_cell HK0.out 3
  have x4 : W.cell? ⟨w.heap.size, 4, none⟩ = some (.slice A.o X.op.length A.ko) := box_cell HK0.out 4
  go_wp2_with fail
  refine (HG.out W HB0.out).mono ?_
  rintro e w2 ⟨rfl, b2⟩
  have HB2 := hid (HB0.out.trans (b2.mono HB0.out.size))
  have HK2 := hid ((b2.block _ (kbox HK0.out)).trans HK0.out)
  clear b2 HG x0 x1 x2 x3 x4
  cases g
  · have E0 : Hid (vv = 0) := by show vv = 0; rw [EV.out]; rfl
    go_wp2_with fail
    go_ret2
    exact ⟨by rw [E0.out]; rfl, HB2.out⟩
  have HOW2 := hid (HOW.out rfl)
  clear HOW
  have x0 : w2.cell? ⟨w.heap.size, 0, none⟩ = some (.slice A.c X.cl.length A.kc) := box_cell HK2.out 0
  have x1 : w2.cell? ⟨w.heap.size, 1, none⟩ = some (.slice A.d X.dk.length A.kd) := box_cell HK2.out 1
  have x2 : w2.cell? ⟨w.heap.size, 2, none⟩ = some (.slice A.l X.lg.length A.kl) := box_cell HK2.out 2
  have x3 : w2.cell? ⟨w.heap.size, 3, none⟩ = some (.int .i64 X.sr) := box_cell HK2.out 3
  have x4 : w2.cell? ⟨w.heap.size, 4, none⟩ = some (.slice A.o X.op.length A.ko) := box_cell HK2.out 4
  go_wp2_with fail
  refine (HI.out w2).mono ?_
  rintro e w3 ⟨rfl, hw3⟩
  rw [hw3]
  clear hw3 HI
  cases q
  · have E0 : Hid (vv = 0) := by show vv = 0; rw [EV.out]; rfl
    go_wp2_with fail
    go_ret2
    exact ⟨by rw [E0.out]; rfl, HB2.out⟩
  have E1 : Hid (vv = r) := by show vv = r; rw [EV.out]; rfl
  go_wp2_with fail
  refine (HWF.out w2 HB2.out).mono ?_
  rintro e w3 ⟨rfl, b3⟩
  have HB3 := hid (HB2.out.trans (b3.mono HB2.out.size))
  have HK3 := hid ((b3.block _ (kbox HK2.out)).trans HK2.out)
  clear b3 HOW2 x0 x1 x2 x3 x4
  by_cases hr : r = 0
  · have e1 : (r == 0) = true := beq_iff_eq.2 hr
    have E0 : Hid (vv = 0) := by show vv = 0; rw [E1.out]; exact hr
    clear hr E1 EV
    go_wp2_with fail
    go_ret2
    exact ⟨by rw [E0.out]; rfl, HB3.out⟩
  have e1 : (r == 0) = false := beq_eq_false_iff_ne.2 hr
  have E2 : Hid (decide (vv ≠ 0) = true) := by show _ = true; rw [E1.out]; exact decide_eq_true hr
  have x0 : w3.cell? ⟨w.heap.size, 0, none⟩ = some (.slice A.c X.cl.length A.kc) := box_cell HK3.out 0
  have x1 : w3.cell? ⟨w.heap.size, 1, none⟩ = some (.slice A.d X.dk.length A.kd) := box_cell HK3.out 1
  have x2 : w3.cell? ⟨w.heap.size, 2, none⟩ = some (.slice A.l X.lg.length A.kl) := box_cell HK3.out 2
  have x3 : w3.cell? ⟨w.heap.size, 3, none⟩ = some (.int .i64 X.sr) := box_cell HK3.out 3
  have x4 : w3.cell? ⟨w.heap.size, 4, none⟩ = some (.slice A.o X.op.length A.ko) := box_cell HK3.out 4
  clear hr EV
  go_wp2_with fail
  refine (HWF.out w3 HB3.out).mono ?_
  rintro e w4 ⟨rfl, b4⟩
  have HB4 := hid (HB3.out.trans (b4.mono HB3.out.size))
  clear b4 HWF
  go_wp2_with fail
  go_ret2
  exact ⟨by rw [E2.out, E1.out]; rfl, HB4.out⟩
set_option maxHeartbeats 4000000 in
theorem iwhoU_any (A : UwA) (X : Uw) (z : Int) (w : World) (hf : UwFit X) (hcap : X.lg.length ≤ A.kl) (h : UwR w.heap.size A X w) :
    Calls Try.prog 7 #[.agg #[.slice A.c X.cl.length A.kc, .slice A.d X.dk.length A.kd, .slice A.l X.lg.length A.kl, .int .i64 X.sr, .slice A.o X.op.length A.ko], .int .i64 z] w fun e w' => e = .returned (.tuple #[.int .i64 (whoV X z), .bool (whoOk X z)]) ∧ Below w.heap.size w w' := by
  have HB0 := hid (boxB w (.cells #[.slice A.c X.cl.length A.kc, .slice A.d X.dk.length A.kd, .slice A.l X.lg.length A.kl, .int .i64 X.sr, .slice A.o X.op.length A.ko] 31))
  have HK0 := hid (heap_last w (.cells #[.slice A.c X.cl.length A.kc, .slice A.d X.dk.length A.kd, .slice A.l X.lg.length A.kl, .int .i64 X.sr, .slice A.o X.op.length A.ko] 31))
  have HZ : Hid (∀ v, Below w.heap.size w v → UwR v.heap.size A X v) := fun v g => h.up g g.size
  have HG := hid (fun v g => igoodU_any A X v hf (HZ.out v g))
  have HI := hid (fun v => isCell_any z v)
  have HWF : Hid (∀ v, Below w.heap.size w v → Calls Try.prog 13 #[.agg #[.slice A.c X.cl.length A.kc, .slice A.d X.dk.length A.kd, .slice A.l X.lg.length A.kl, .int .i64 X.sr, .slice A.o X.op.length A.ko], .int .i64 z] v fun e w' => e = .returned (.int .i64 (whoF X.lg z X.op)) ∧ Below v.heap.size v w') := fun v g => swho_any A X z v hf (HZ.out v g)
  have HOW : Hid (goodU X = true → ∀ v, Below w.heap.size w v → Calls Try.prog 18 #[.agg #[.slice A.c X.cl.length A.kc, .slice A.d X.dk.length A.kd, .slice A.l X.lg.length A.kl, .int .i64 X.sr, .slice A.o X.op.length A.ko], .int .i64 z, .int .i64 0] v fun e w' => e = .returned (.tuple #[.int .i64 (whoF X.lg z X.op), .bool (decide (whoF X.lg z X.op ≠ 0))]) ∧ Below v.heap.size v w') := fun hg v g => by
    obtain ⟨p1, -, -, -, -, p6⟩ := goodU_parts hg
    have hm : ∀ who ∈ X.op, 1 ≤ who ∧ isO X.lg who = true := fun who hw => by
      rw [p6] at hw
      exact ⟨(mem_openK hw).1, openL_isO p1 hw⟩
    have := iow_any A X z 0 v hf hcap (fun who hw => (hm who hw).2) (HZ.out v g)
    rw [owF_who X.lg z X.op hm] at this
    exact this
  have EV : Hid (whoV X z = if goodU X && inB 0 5 z then whoF X.lg z X.op else 0) := rfl
  have EO : Hid (whoOk X z = decide (whoV X z ≠ 0)) := rfl
  rw [show whoOk X z = decide (whoV X z ≠ 0) from rfl]
  obtain ⟨vv, hvv⟩ : ∃ v, v = whoV X z := ⟨_, rfl⟩
  rw [← hvv] at EV ⊢
  have ED : Hid (vv = whoF X.lg z X.op → decide (vv ≠ 0) = decide (whoF X.lg z X.op ≠ 0)) := fun h => by rw [h]
  clear h hf hcap hvv EO
  generalize goodU X = g at *
  generalize inB 0 5 z = q at *
  generalize decide (whoF X.lg z X.op ≠ 0) = dd at *
  generalize whoF X.lg z X.op = r at *
  go_enter Try.func7, Try.ntmps7
  go_upto_region 1 with fail
  generalize w.alloc (.cells #[.slice A.c X.cl.length A.kc, .slice A.d X.dk.length A.kd, .slice A.l X.lg.length A.kl, .int .i64 X.sr, .slice A.o X.op.length A.ko] 31) = W at *
  have x0 : W.cell? ⟨w.heap.size, 0, none⟩ = some (.slice A.c X.cl.length A.kc) := box_cell HK0.out 0
  have x1 : W.cell? ⟨w.heap.size, 1, none⟩ = some (.slice A.d X.dk.length A.kd) := box_cell HK0.out 1
  have x2 : W.cell? ⟨w.heap.size, 2, none⟩ = some (.slice A.l X.lg.length A.kl) := box_cell HK0.out 2
  have x3 : W.cell? ⟨w.heap.size, 3, none⟩ = some (.int .i64 X.sr) := box_cell HK0.out 3
  have x4 : W.cell? ⟨w.heap.size, 4, none⟩ = some (.slice A.o X.op.length A.ko) := box_cell HK0.out 4
  go_wp2_with fail
  refine (HG.out W HB0.out).mono ?_
  rintro e w2 ⟨rfl, b2⟩
  have HB2 := hid (HB0.out.trans (b2.mono HB0.out.size))
  have HK2 := hid ((b2.block _ (kbox HK0.out)).trans HK0.out)
  clear b2 HG x0 x1 x2 x3 x4
  cases g
  · have E0 : Hid (vv = 0) := by show vv = 0; rw [EV.out]; rfl
    go_wp2_with fail
    go_ret2
    exact ⟨by rw [E0.out]; rfl, HB2.out⟩
  have HOW2 := hid (HOW.out rfl)
  clear HOW
  have x0 : w2.cell? ⟨w.heap.size, 0, none⟩ = some (.slice A.c X.cl.length A.kc) := box_cell HK2.out 0
  have x1 : w2.cell? ⟨w.heap.size, 1, none⟩ = some (.slice A.d X.dk.length A.kd) := box_cell HK2.out 1
  have x2 : w2.cell? ⟨w.heap.size, 2, none⟩ = some (.slice A.l X.lg.length A.kl) := box_cell HK2.out 2
  have x3 : w2.cell? ⟨w.heap.size, 3, none⟩ = some (.int .i64 X.sr) := box_cell HK2.out 3
  have x4 : w2.cell? ⟨w.heap.size, 4, none⟩ = some (.slice A.o X.op.length A.ko) := box_cell HK2.out 4
  go_wp2_with fail
  refine (HI.out w2).mono ?_
  rintro e w3 ⟨rfl, hw3⟩
  rw [hw3]
  clear hw3 HI
  cases q
  · have E0 : Hid (vv = 0) := by show vv = 0; rw [EV.out]; rfl
    go_wp2_with fail
    go_ret2
    exact ⟨by rw [E0.out]; rfl, HB2.out⟩
  have E1 : Hid (vv = r) := by show vv = r; rw [EV.out]; rfl
  go_wp2_with fail
  refine (HOW2.out w2 HB2.out).mono ?_
  rintro e w3 ⟨rfl, b3⟩
  have HB3 := hid (HB2.out.trans (b3.mono HB2.out.size))
  clear b3 HOW2 HWF
  go_wp2_with fail
  go_ret2
  exact ⟨by rw [ED.out E1.out, E1.out]; rfl, HB3.out⟩
end Go.Proofs.Ytgompioaknfjgab

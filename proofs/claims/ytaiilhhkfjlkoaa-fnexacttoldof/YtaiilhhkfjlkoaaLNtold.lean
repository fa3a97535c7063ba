/- The exact law of ToldOf: its walk. -/
import Derived.Test.YtaiilhhkfjlkoaaNTl
import Derived.Test.YtaiilhhkfjlkoaaNWt
import Derived.Test.YtaiilhhkfjlkoaaNWm
import Derived.Test.YtaiilhhkfjlkoaaNOpen
import Derived.Deep.RegionHeld
namespace Go.Proofs.Ytaiilhhkfjlkoaa
set_option maxRecDepth 100000
open Go.ChangeShapes Go.WideShapes Go.ChangeAt Go.RowKit
set_option maxHeartbeats 16000000 in
theorem law_ToldOf (A : Ad) (X : Wd) (w : World) (hc : CntW X) (h : WR w.heap.size A X w)
    (H : FitW X → ∃ (V : List ByteArray) (ok : Bool), V.length ≤ 1048576 ∧ TellsTold 36 X V ok ∧ TellsTold 37 X V ok) :
    Calls Try.prog 8 #[.agg #[.slice A.p X.pc.length A.kp, .int .i64 X.sz, .slice A.h X.hd.length A.kh, .slice A.l X.ln.length A.kl, .slice A.e X.hl.length A.ke, .slice A.s X.hs.length A.ks, .int .i64 X.td]] w fun e w' => e = .returned (.bool true) ∧ Below w.heap.size w w' := by
  have HH := hid H
  obtain ⟨w0, hw0⟩ : ∃ w0, w0 = w.alloc (.cells #[.slice A.p X.pc.length A.kp, .int .i64 X.sz, .slice A.h X.hd.length A.kh, .slice A.l X.ln.length A.kl, .slice A.e X.hl.length A.ke, .slice A.s X.hs.length A.ks, .int .i64 X.td] 37) := ⟨_, rfl⟩
  have HB0 : Hid (Below w.heap.size w w0) := by show Below w.heap.size w w0; rw [hw0]; exact boxB w _
  have HZ : Hid (∀ v, Below w0.heap.size w0 v → WR v.heap.size A X v) := fun v g => by
    have g' := HB0.out.trans (g.mono HB0.out.size)
    exact h.up g' g'.size
  have HX : Hid (∀ v, Below w0.heap.size w0 v → v.cell? ⟨w.heap.size, 0, none⟩ = some (.slice A.p X.pc.length A.kp) ∧ v.cell? ⟨w.heap.size, 1, none⟩ = some (.int .i64 X.sz) ∧ v.cell? ⟨w.heap.size, 2, none⟩ = some (.slice A.h X.hd.length A.kh) ∧ v.cell? ⟨w.heap.size, 3, none⟩ = some (.slice A.l X.ln.length A.kl) ∧ v.cell? ⟨w.heap.size, 4, none⟩ = some (.slice A.e X.hl.length A.ke) ∧ v.cell? ⟨w.heap.size, 5, none⟩ = some (.slice A.s X.hs.length A.ks) ∧ v.cell? ⟨w.heap.size, 6, none⟩ = some (.int .i64 X.td)) := fun v g => by
    have h1 : v.heap[w.heap.size]? = some (.cells #[.slice A.p X.pc.length A.kp, .int .i64 X.sz, .slice A.h X.hd.length A.kh, .slice A.l X.ln.length A.kl, .slice A.e X.hl.length A.ke, .slice A.s X.hs.length A.ks, .int .i64 X.td] 37) := (g.block _ (by rw [hw0]; simp)).trans (by rw [hw0]; exact heap_last _ _)
    exact (box7 h1).1
  have HSZ : Hid (∀ v, Below w0.heap.size w0 v → Calls Try.prog 18 #[.agg #[.slice A.p X.pc.length A.kp, .int .i64 X.sz, .slice A.h X.hd.length A.kh, .slice A.l X.ln.length A.kl, .slice A.e X.hl.length A.ke, .slice A.s X.hs.length A.ks, .int .i64 X.td], .int .i64 1048576] v fun e w' => (∃ r : Int, e = .returned (.int .i64 r) ∧ (0 ≤ r → FitW X)) ∧ Below v.heap.size v w') := fun v g => szWindow_any A X v hc (HZ.out v g)
  have HTO : Hid (FitW X → ∀ v, Below w0.heap.size w0 v → Calls Try.prog 20 #[.agg #[.slice A.p X.pc.length A.kp, .int .i64 X.sz, .slice A.h X.hd.length A.kh, .slice A.l X.ln.length A.kl, .slice A.e X.hl.length A.ke, .slice A.s X.hs.length A.ks, .int .i64 X.td]] v fun e w' => ∃ A', e = .returned (.agg #[.slice A'.p X.pc.length A'.kp, .int .i64 X.sz, .slice A'.h X.hd.length A'.kh, .slice A'.l X.ln.length A'.kl, .slice A'.e X.hl.length A'.ke, .slice A'.s X.hs.length A'.ks, .int .i64 X.td]) ∧ WO v.heap.size w'.heap.size A' X w' ∧ Below v.heap.size v w') := fun f v g => toWindow_any A X v f (HZ.out v g)
  have W0 : Hid (w0 = w.alloc (.cells #[.slice A.p X.pc.length A.kp, .int .i64 X.sz, .slice A.h X.hd.length A.kh, .slice A.l X.ln.length A.kl, .slice A.e X.hl.length A.ke, .slice A.s X.hs.length A.ks, .int .i64 X.td] 37)) := hw0
  clear h H hw0 hc
  have B_0 : Hid (Below w0.heap.size w0 w0) := Below.refl _ _
  go_enter Try.func8, Try.ntmps8
  go_wp2_with fail
  rw [← W0.out]
  refine (HSZ.out _ B_0.out).mono ?_
  rintro e w1 ⟨⟨r, rfl, hr⟩, g1⟩
  have HR := hid hr
  clear hr HSZ
  have s1 := g1.size
  have B_1 : Hid (Below w0.heap.size w0 w1) := B_0.out.trans (g1.mono B_0.out.size)
  clear B_0
  clear g1
  by_cases p0 : 0 ≤ r
  case neg =>
    have hd0 : decide (r < 0) = true := decide_eq_true (by omega)
    clear HR
    go_wp2_with fail
    go_ret
    exact ⟨rfl, HB0.out.trans (B_1.out.mono HB0.out.size)⟩
  have hd0 : decide (r < 0) = false := decide_eq_false (by omega)
  have HF := hid (HR.out p0)
  have HT := hid (HTO.out HF.out)
  obtain ⟨V, ok, hV, h9, h11⟩ := HH.out HF.out
  have H9 := hid h9
  have H11 := hid h11
  have HVL := hid hV
  clear h9 h11 hV HH HR HTO
  have hbk : (ok != ok) = false := by cases ok <;> rfl
  have hbl : (ok == ok) = true := by cases ok <;> rfl
  obtain ⟨x0, x1, x2, x3, x4, x5, x6⟩ := HX.out _ B_1.out
  go_wp2_with fail
  refine (HT.out _ B_1.out).mono ?_
  rintro e w2 ⟨A1, rfl, oT, gT⟩
  clear x0 x1 x2 x3 x4 x5 x6
  have s2 := gT.size
  have B_2 : Hid (Below w0.heap.size w0 w2) := B_1.out.trans (gT.mono B_1.out.size)
  clear B_1
  have OT := hid oT
  clear oT gT
  go_wp2_with fail
  refine (H9.out A1 _ OT.out.read OT.out.cap).mono ?_
  rintro e w3 ⟨bW, cW, rfl, oA, gA⟩
  clear OT
  have s3 := gA.size
  have B_3 : Hid (Below w0.heap.size w0 w3) := B_2.out.trans (gA.mono B_2.out.size)
  clear B_2
  have W_3 : Hid (OwnS w2.heap.size w3.heap.size bW V w3) := oA
  clear oA gA
  obtain ⟨x0, x1, x2, x3, x4, x5, x6⟩ := HX.out _ B_3.out
  go_wp2_with fail
  refine (HT.out _ B_3.out).mono ?_
  rintro e w4 ⟨A4, rfl, oT, gT⟩
  clear x0 x1 x2 x3 x4 x5 x6
  have s4 := gT.size
  have B_4 : Hid (Below w0.heap.size w0 w4) := B_3.out.trans (gT.mono B_3.out.size)
  have W_4 : Hid (OwnS w2.heap.size w3.heap.size bW V w4) := W_3.out.below gT
  clear B_3 W_3
  have Xo_4 : Hid (WO w3.heap.size w4.heap.size A4 X w4) := oT
  clear oT gT
  go_wp2_with fail
  have gA := boxB w4 (.cells #[.slice A4.p X.pc.length A4.kp, .int .i64 X.sz, .slice A4.h X.hd.length A4.kh, .slice A4.l X.ln.length A4.kl, .slice A4.e X.hl.length A4.ke, .slice A4.s X.hs.length A4.ks, .int .i64 X.td] 27)
  have hA := heap_last w4 (.cells #[.slice A4.p X.pc.length A4.kp, .int .i64 X.sz, .slice A4.h X.hd.length A4.kh, .slice A4.l X.ln.length A4.kl, .slice A4.e X.hl.length A4.ke, .slice A4.s X.hs.length A4.ks, .int .i64 X.td] 27)
  have zA : (w4.alloc (.cells #[.slice A4.p X.pc.length A4.kp, .int .i64 X.sz, .slice A4.h X.hd.length A4.kh, .slice A4.l X.ln.length A4.kl, .slice A4.e X.hl.length A4.ke, .slice A4.s X.hs.length A4.ks, .int .i64 X.td] 27)).heap.size ≤ w4.heap.size + 1 := Nat.le_of_eq (heap_size _ _)
  have yA : w4.heap.size < (w4.alloc (.cells #[.slice A4.p X.pc.length A4.kp, .int .i64 X.sz, .slice A4.h X.hd.length A4.kh, .slice A4.l X.ln.length A4.kl, .slice A4.e X.hl.length A4.ke, .slice A4.s X.hs.length A4.ks, .int .i64 X.td] 27)).heap.size := by simp
  generalize w4.alloc (.cells #[.slice A4.p X.pc.length A4.kp, .int .i64 X.sz, .slice A4.h X.hd.length A4.kh, .slice A4.l X.ln.length A4.kl, .slice A4.e X.hl.length A4.ke, .slice A4.s X.hs.length A4.ks, .int .i64 X.td] 27) = w5 at *
  have s5 := gA.size
  have B_5 : Hid (Below w0.heap.size w0 w5) := B_4.out.trans (gA.mono B_4.out.size)
  have W_5 : Hid (OwnS w2.heap.size w3.heap.size bW V w5) := W_4.out.below gA
  have Xo_5 : Hid (WO w3.heap.size w4.heap.size A4 X w5) := Xo_4.out.below gA
  clear B_4 W_4 Xo_4
  have Xk_5 : Hid (w5.heap[w4.heap.size]? = some (.cells #[.slice A4.p X.pc.length A4.kp, .int .i64 X.sz, .slice A4.h X.hd.length A4.kh, .slice A4.l X.ln.length A4.kl, .slice A4.e X.hl.length A4.ke, .slice A4.s X.hs.length A4.ks, .int .i64 X.td] 27)) := hA
  have zz5 := zA
  have yy5 := yA
  clear gA hA zA yA
  obtain ⟨⟨y0, y1, y2, y3, y4, y5, y6⟩, -⟩ := box7 Xk_5.out
  go_wp2_with fail
  refine (H11.out A4 _ Xo_5.out.read Xo_5.out.cap).mono ?_
  rintro e w6 ⟨bG, cG, rfl, oA, gA⟩
  clear y0 y1 y2 y3 y4 y5 y6
  have s6 := gA.size
  have B_6 : Hid (Below w0.heap.size w0 w6) := B_5.out.trans (gA.mono B_5.out.size)
  have W_6 : Hid (OwnS w2.heap.size w3.heap.size bW V w6) := W_5.out.below gA
  have Xo_6 : Hid (WO w3.heap.size w4.heap.size A4 X w6) := Xo_5.out.below gA
  have Xk_6 : Hid (w6.heap[w4.heap.size]? = some (.cells #[.slice A4.p X.pc.length A4.kp, .int .i64 X.sz, .slice A4.h X.hd.length A4.kh, .slice A4.l X.ln.length A4.kl, .slice A4.e X.hl.length A4.ke, .slice A4.s X.hs.length A4.ks, .int .i64 X.td] 27)) := (gA.block _ (kbox Xk_5.out)).trans Xk_5.out
  clear B_5 W_5 Xo_5 Xk_5
  have G_6 : Hid (OwnS w5.heap.size w6.heap.size bG V w6) := oA
  clear oA gA
  go_wp2_with fail
  refine (eqStringS_same bG bW cG cW V _ HVL.out G_6.out.ss W_6.out.ss).mono ?_
  rintro e w7 ⟨rfl, gE⟩
  have s7 := gE.size
  have B_7 : Hid (Below w0.heap.size w0 w7) := B_6.out.trans (gE.mono B_6.out.size)
  have W_7 : Hid (OwnS w2.heap.size w3.heap.size bW V w7) := W_6.out.below gE
  have Xo_7 : Hid (WO w3.heap.size w4.heap.size A4 X w7) := Xo_6.out.below gE
  have Xk_7 : Hid (w7.heap[w4.heap.size]? = some (.cells #[.slice A4.p X.pc.length A4.kp, .int .i64 X.sz, .slice A4.h X.hd.length A4.kh, .slice A4.l X.ln.length A4.kl, .slice A4.e X.hl.length A4.ke, .slice A4.s X.hs.length A4.ks, .int .i64 X.td] 27)) := (gE.block _ (kbox Xk_6.out)).trans Xk_6.out
  have G_7 : Hid (OwnS w5.heap.size w6.heap.size bG V w7) := G_6.out.below gE
  clear B_6 W_6 Xo_6 Xk_6 G_6
  clear gE
  have BD : Below w7.heap.size w7 w7.drew := (Below.refl _ _).drew
  have HS : Hid (∀ v, Below w7.heap.size w7 v → (v.cell? ⟨w4.heap.size, 0, none⟩ = some (.slice A4.p X.pc.length A4.kp) ∧ v.cell? ⟨w4.heap.size, 1, none⟩ = some (.int .i64 X.sz) ∧ v.cell? ⟨w4.heap.size, 2, none⟩ = some (.slice A4.h X.hd.length A4.kh) ∧ v.cell? ⟨w4.heap.size, 3, none⟩ = some (.slice A4.l X.ln.length A4.kl) ∧ v.cell? ⟨w4.heap.size, 4, none⟩ = some (.slice A4.e X.hl.length A4.ke) ∧ v.cell? ⟨w4.heap.size, 5, none⟩ = some (.slice A4.s X.hs.length A4.ks) ∧ v.cell? ⟨w4.heap.size, 6, none⟩ = some (.int .i64 X.td)) ∧ v.cell? ⟨w.heap.size, 0, none⟩ = some (.slice A.p X.pc.length A.kp) ∧ v.cell? ⟨w.heap.size, 1, none⟩ = some (.int .i64 X.sz) ∧ v.cell? ⟨w.heap.size, 2, none⟩ = some (.slice A.h X.hd.length A.kh) ∧ v.cell? ⟨w.heap.size, 3, none⟩ = some (.slice A.l X.ln.length A.kl) ∧ v.cell? ⟨w.heap.size, 4, none⟩ = some (.slice A.e X.hl.length A.ke) ∧ v.cell? ⟨w.heap.size, 5, none⟩ = some (.slice A.s X.hs.length A.ks) ∧ v.cell? ⟨w.heap.size, 6, none⟩ = some (.int .i64 X.td)) := fun v g => by
    have h1 := (g.block _ (kbox Xk_7.out)).trans Xk_7.out
    exact ⟨(box7 h1).1, HX.out v (B_7.out.trans (g.mono B_7.out.size))⟩
  have HCd : Hid (∀ v, Below w7.heap.size w7 v → Calls Try.prog 20 #[.agg #[.slice A.p X.pc.length A.kp, .int .i64 X.sz, .slice A.h X.hd.length A.kh, .slice A.l X.ln.length A.kl, .slice A.e X.hl.length A.ke, .slice A.s X.hs.length A.ks, .int .i64 X.td]] v fun e w' => ∃ A', e = .returned (.agg #[.slice A'.p X.pc.length A'.kp, .int .i64 X.sz, .slice A'.h X.hd.length A'.kh, .slice A'.l X.ln.length A'.kl, .slice A'.e X.hl.length A'.ke, .slice A'.s X.hs.length A'.ks, .int .i64 X.td]) ∧ WO v.heap.size w'.heap.size A' X w' ∧ Below v.heap.size v w') := fun v g => HT.out v (B_7.out.trans (g.mono B_7.out.size))
  have HEQ : Hid (∀ v (C : Ad), Below w7.heap.size w7 v → WR v.heap.size C X v → Calls Try.prog 13 #[.agg #[.slice A4.p X.pc.length A4.kp, .int .i64 X.sz, .slice A4.h X.hd.length A4.kh, .slice A4.l X.ln.length A4.kl, .slice A4.e X.hl.length A4.ke, .slice A4.s X.hs.length A4.ks, .int .i64 X.td], .agg #[.slice C.p X.pc.length C.kp, .int .i64 X.sz, .slice C.h X.hd.length C.kh, .slice C.l X.ln.length C.kl, .slice C.e X.hl.length C.ke, .slice C.s X.hs.length C.ks, .int .i64 X.td]] v fun e w' => e = .returned (.bool true) ∧ Below v.heap.size v w') := fun v C g h1 => eqWindow_same A4 C X v HF.out (Xo_7.out.read.up g g.size) h1
  obtain ⟨⟨z0, z1, z2, z3, z4, z5, z6⟩, t0, t1, t2, t3, t4, t5, t6⟩ := HS.out _ BD
  obtain ⟨⟨y0, y1, y2, y3, y4, y5, y6⟩, -⟩ := box7 Xk_7.out
  go_wp2_with fail
  go_region_held (fun v => (v.cell? ⟨w4.heap.size, 0, none⟩ = some (.slice A4.p X.pc.length A4.kp) ∧ v.cell? ⟨w4.heap.size, 1, none⟩ = some (.int .i64 X.sz) ∧ v.cell? ⟨w4.heap.size, 2, none⟩ = some (.slice A4.h X.hd.length A4.kh) ∧ v.cell? ⟨w4.heap.size, 3, none⟩ = some (.slice A4.l X.ln.length A4.kl) ∧ v.cell? ⟨w4.heap.size, 4, none⟩ = some (.slice A4.e X.hl.length A4.ke) ∧ v.cell? ⟨w4.heap.size, 5, none⟩ = some (.slice A4.s X.hs.length A4.ks) ∧ v.cell? ⟨w4.heap.size, 6, none⟩ = some (.int .i64 X.td)) ∧ v.cell? ⟨w.heap.size, 0, none⟩ = some (.slice A.p X.pc.length A.kp) ∧ v.cell? ⟨w.heap.size, 1, none⟩ = some (.int .i64 X.sz) ∧ v.cell? ⟨w.heap.size, 2, none⟩ = some (.slice A.h X.hd.length A.kh) ∧ v.cell? ⟨w.heap.size, 3, none⟩ = some (.slice A.l X.ln.length A.kl) ∧ v.cell? ⟨w.heap.size, 4, none⟩ = some (.slice A.e X.hl.length A.ke) ∧ v.cell? ⟨w.heap.size, 5, none⟩ = some (.slice A.s X.hs.length A.ks) ∧ v.cell? ⟨w.heap.size, 6, none⟩ = some (.int .i64 X.td)) (first | exact HS.out _ (by with_reducible assumption)) (first | (go_at_call 20; refine (HCd.out _ (by with_reducible assumption)).mono ?_; rintro e wa ⟨A7, rfl, o7, g7⟩; have B7 : Below w7.heap.size w7 wa := BD.trans (g7.mono BD.size)) | (go_at_call 13; refine (HEQ.out _ _ B7 o7.read).mono ?_; rintro e w8 ⟨rfl, g8⟩; have B8 : Below w7.heap.size w7 w8 := B7.trans (g8.mono B7.size)))
  all_goals
    have gR := B8
    clear o7 g7 g8 B7 B8 BD HS HCd HEQ z0 t0 y0 z1 t1 y1 z2 t2 y2 z3 t3 y3 z4 t4 y4 z5 t5 y5 z6 t6 y6
    have s8 := gR.size
    have B_8 : Hid (Below w0.heap.size w0 w8) := B_7.out.trans (gR.mono B_7.out.size)
    have W_8 : Hid (OwnS w2.heap.size w3.heap.size bW V w8) := W_7.out.below gR
    have Xo_8 : Hid (WO w3.heap.size w4.heap.size A4 X w8) := Xo_7.out.below gR
    have Xk_8 : Hid (w8.heap[w4.heap.size]? = some (.cells #[.slice A4.p X.pc.length A4.kp, .int .i64 X.sz, .slice A4.h X.hd.length A4.kh, .slice A4.l X.ln.length A4.kl, .slice A4.e X.hl.length A4.ke, .slice A4.s X.hs.length A4.ks, .int .i64 X.td] 27)) := (gR.block _ (kbox Xk_7.out)).trans Xk_7.out
    have G_8 : Hid (OwnS w5.heap.size w6.heap.size bG V w8) := G_7.out.below gR
    clear B_7 W_7 Xo_7 Xk_7 G_7
    clear gR
    obtain ⟨⟨y0, y1, y2, y3, y4, y5, y6⟩, -⟩ := box7 Xk_8.out
    go_wp2_with fail
    refine (markWindow_any _ _ A4 X _ HF.out (by omega) Xo_8.out).mono ?_
    rintro e w9 ⟨rfl, oM, tM⟩
    have hm1 : decide (((wlast X : Nat) : Int) < 0) = false := decide_eq_false (by omega)
    clear y0 y1 y2 y3 y4 y5 y6
    have s9 := tM.size
    have B_9 : Hid (Below w0.heap.size w0 w9) := B_8.out.trans (tM.below (by omega) B_8.out.size)
    have W_9 : Hid (OwnS w2.heap.size w3.heap.size bW V w9) := W_8.out.out tM (by omega)
    have Xo_9 : Hid (WO w3.heap.size w4.heap.size A4 (wmarks X) w9) := oM
    have Xk_9 : Hid (w9.heap[w4.heap.size]? = some (.cells #[.slice A4.p X.pc.length A4.kp, .int .i64 X.sz, .slice A4.h X.hd.length A4.kh, .slice A4.l X.ln.length A4.kl, .slice A4.e X.hl.length A4.ke, .slice A4.s X.hs.length A4.ks, .int .i64 X.td] 27)) := (tM.block _ (kbox Xk_8.out) (by have := kbox Xk_8.out; omega)).trans Xk_8.out
    have G_9 : Hid (OwnS w5.heap.size w6.heap.size bG V w9) := G_8.out.out tM (by omega)
    clear B_8 W_8 Xo_8 Xk_8 G_8
    clear oM tM
    generalize wlast X = m1 at *
    go_wp2_with fail
    refine (eqStringS_same bG bW cG cW V _ HVL.out G_9.out.ss W_9.out.ss).mono ?_
    rintro e w10 ⟨rfl, gE⟩
    have s10 := gE.size
    have B_10 : Hid (Below w0.heap.size w0 w10) := B_9.out.trans (gE.mono B_9.out.size)
    have W_10 : Hid (OwnS w2.heap.size w3.heap.size bW V w10) := W_9.out.below gE
    have Xo_10 : Hid (WO w3.heap.size w4.heap.size A4 (wmarks X) w10) := Xo_9.out.below gE
    have Xk_10 : Hid (w10.heap[w4.heap.size]? = some (.cells #[.slice A4.p X.pc.length A4.kp, .int .i64 X.sz, .slice A4.h X.hd.length A4.kh, .slice A4.l X.ln.length A4.kl, .slice A4.e X.hl.length A4.ke, .slice A4.s X.hs.length A4.ks, .int .i64 X.td] 27)) := (gE.block _ (kbox Xk_9.out)).trans Xk_9.out
    have G_10 : Hid (OwnS w5.heap.size w6.heap.size bG V w10) := G_9.out.below gE
    clear B_9 W_9 Xo_9 Xk_9 G_9
    clear gE
    clear Xo_10
    clear Xk_10
    go_wp2_with fail
    refine (mark_ownS _ _ bG cG V _ HVL.out G_10.out).mono ?_
    rintro e w11 ⟨rfl, oM, tM⟩
    have s11 := tM.size
    have B_11 : Hid (Below w0.heap.size w0 w11) := B_10.out.trans (tM.below (by omega) B_10.out.size)
    have W_11 : Hid (OwnS w2.heap.size w3.heap.size bW V w11) := W_10.out.out tM (by omega)
    have G_11 : Hid (OwnS w5.heap.size w6.heap.size bG (smarks V.length 1) w11) := oM
    clear B_10 W_10 G_10
    clear oM tM
    have hm2 : decide (((1 + V.length : Nat) : Int) < 0) = false := decide_eq_false (by omega)
    go_wp2_with fail
    refine (held_ownS _ _ bG cG V.length _ HVL.out G_11.out).mono ?_
    rintro e w12 ⟨rfl, gH⟩
    have s12 := gH.size
    have B_12 : Hid (Below w0.heap.size w0 w12) := B_11.out.trans (gH.mono B_11.out.size)
    have W_12 : Hid (OwnS w2.heap.size w3.heap.size bW V w12) := W_11.out.below gH
    have G_12 : Hid (OwnS w5.heap.size w6.heap.size bG (smarks V.length 1) w12) := G_11.out.below gH
    clear B_11 W_11 G_11
    clear gH
    obtain ⟨x0, x1, x2, x3, x4, x5, x6⟩ := HX.out _ B_12.out
    go_wp2_with fail
    refine (HT.out _ B_12.out).mono ?_
    rintro e w13 ⟨A12, rfl, oT, gT⟩
    clear x0 x1 x2 x3 x4 x5 x6
    have s13 := gT.size
    have B_13 : Hid (Below w0.heap.size w0 w13) := B_12.out.trans (gT.mono B_12.out.size)
    have W_13 : Hid (OwnS w2.heap.size w3.heap.size bW V w13) := W_12.out.below gT
    have G_13 : Hid (OwnS w5.heap.size w6.heap.size bG (smarks V.length 1) w13) := G_12.out.below gT
    clear B_12 W_12 G_12
    have OT := hid oT
    clear oT gT
    go_wp2_with fail
    refine (H11.out A12 _ OT.out.read OT.out.cap).mono ?_
    rintro e w14 ⟨bH, cH, rfl, oA, gA⟩
    clear OT
    have s14 := gA.size
    have B_14 : Hid (Below w0.heap.size w0 w14) := B_13.out.trans (gA.mono B_13.out.size)
    have W_14 : Hid (OwnS w2.heap.size w3.heap.size bW V w14) := W_13.out.below gA
    have G_14 : Hid (OwnS w5.heap.size w6.heap.size bG (smarks V.length 1) w14) := G_13.out.below gA
    clear B_13 W_13 G_13
    have H_14 : Hid (OwnS w13.heap.size w14.heap.size bH V w14) := oA
    clear oA gA
    go_wp2_with fail
    refine (eqStringS_same bH bW cH cW V _ HVL.out H_14.out.ss W_14.out.ss).mono ?_
    rintro e w15 ⟨rfl, gE⟩
    have s15 := gE.size
    have B_15 : Hid (Below w0.heap.size w0 w15) := B_14.out.trans (gE.mono B_14.out.size)
    have W_15 : Hid (OwnS w2.heap.size w3.heap.size bW V w15) := W_14.out.below gE
    have G_15 : Hid (OwnS w5.heap.size w6.heap.size bG (smarks V.length 1) w15) := G_14.out.below gE
    have H_15 : Hid (OwnS w13.heap.size w14.heap.size bH V w15) := H_14.out.below gE
    clear B_14 W_14 G_14 H_14
    clear gE
    go_wp2_with fail
    refine (held_ownS _ _ bG cG V.length _ HVL.out G_15.out).mono ?_
    rintro e w16 ⟨rfl, gH⟩
    have s16 := gH.size
    have B_16 : Hid (Below w0.heap.size w0 w16) := B_15.out.trans (gH.mono B_15.out.size)
    have W_16 : Hid (OwnS w2.heap.size w3.heap.size bW V w16) := W_15.out.below gH
    have G_16 : Hid (OwnS w5.heap.size w6.heap.size bG (smarks V.length 1) w16) := G_15.out.below gH
    have H_16 : Hid (OwnS w13.heap.size w14.heap.size bH V w16) := H_15.out.below gH
    clear B_15 W_15 G_15 H_15
    clear gH
    go_wp2_with fail
    go_ret
    exact ⟨rfl, HB0.out.trans (B_16.out.mono HB0.out.size)⟩
theorem toldV_len (X : Wd) : (toldV X).length ≤ 1048576 := by
  unfold toldV
  cases hg : goodW X
  · exact Nat.zero_le _
  · have := (pcOk_iff.1 (goodW_iff.1 hg).pcs).1
    show (X.pc.take _).length ≤ _
    rw [List.length_take]; omega
theorem walk_ToldOf (A : Ad) (X : Wd) (w : World) (h : WR w.heap.size A X w) (hc : CntW X) (_h1 : fit X.sz) (_h2 : fit X.td) :
    Calls Try.prog 8 #[.agg #[.slice A.p X.pc.length A.kp, .int .i64 X.sz, .slice A.h X.hd.length A.kh, .slice A.l X.ln.length A.kl, .slice A.e X.hl.length A.ke, .slice A.s X.hs.length A.ks, .int .i64 X.td]] w fun e w' => e = .returned (.bool true) ∧ Below w.heap.size w w' :=
  law_ToldOf A X w hc h fun hf => ⟨toldV X, goodW X, toldV_len X, stold_any X hf, itold_any X hf⟩
end Go.Proofs.Ytaiilhhkfjlkoaa

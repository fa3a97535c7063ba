/- The exact law of FirstOpen: its walk out of the contracts of the model and of the program. -/
import Derived.Test.YtaiilhhkfjlkoaaNWm
import Derived.Test.YtaiilhhkfjlkoaaNFo
import Derived.Test.YtaiilhhkfjlkoaaNOpen
import Derived.Deep.RegionHeld
namespace Go.Proofs.Ytaiilhhkfjlkoaa
set_option maxRecDepth 100000
open Go.ChangeShapes Go.WideShapes Go.ChangeAt Go.RowKit
/-- function f answers so -/
def TellsFirstOpen (f : Nat) (X : Wd) (n : Int) (x : Bool) : Prop := ∀ (A : Ad) (v : World), WR v.heap.size A X v →
  Calls Try.prog f #[.agg #[.slice A.p X.pc.length A.kp, .int .i64 X.sz, .slice A.h X.hd.length A.kh, .slice A.l X.ln.length A.kl, .slice A.e X.hl.length A.ke, .slice A.s X.hs.length A.ks, .int .i64 X.td]] v fun e w' => e = .returned (.tuple #[.int .i64 n, .bool x]) ∧ Below v.heap.size v w'
set_option maxHeartbeats 8000000 in
theorem law_FirstOpen (A : Ad) (X : Wd) (w : World) (hc : CntW X) (h : WR w.heap.size A X w)
    (H : FitW X → ∃ (n : Int) (x : Bool), TellsFirstOpen 34 X n x ∧ TellsFirstOpen 35 X n x) :
    Calls Try.prog 7 #[.agg #[.slice A.p X.pc.length A.kp, .int .i64 X.sz, .slice A.h X.hd.length A.kh, .slice A.l X.ln.length A.kl, .slice A.e X.hl.length A.ke, .slice A.s X.hs.length A.ks, .int .i64 X.td]] w fun e w' => e = .returned (.bool true) ∧ Below w.heap.size w w' := by
  have HH : Hid (FitW X → ∃ (n : Int) (x : Bool), TellsFirstOpen 34 X n x ∧ TellsFirstOpen 35 X n x) := H
  obtain ⟨w0, hw0⟩ : ∃ w0, w0 = w.alloc (.cells #[.slice A.p X.pc.length A.kp, .int .i64 X.sz, .slice A.h X.hd.length A.kh, .slice A.l X.ln.length A.kl, .slice A.e X.hl.length A.ke, .slice A.s X.hs.length A.ks, .int .i64 X.td] 37) := ⟨_, rfl⟩
  have HB0 : Hid (Below w.heap.size w w0) := by show Below w.heap.size w w0; rw [hw0]; exact boxB w _
  have HZ : Hid (∀ v, Below w0.heap.size w0 v → WR v.heap.size A X v) := fun v g => by
    have g' := HB0.out.trans (g.mono HB0.out.size)
    exact h.up g' g'.size
  have HX : Hid (∀ v, Below w0.heap.size w0 v → v.cell? ⟨w.heap.size, 0, none⟩ = some (.slice A.p X.pc.length A.kp) ∧ v.cell? ⟨w.heap.size, 1, none⟩ = some (.int .i64 X.sz) ∧ v.cell? ⟨w.heap.size, 2, none⟩ = some (.slice A.h X.hd.length A.kh) ∧ v.cell? ⟨w.heap.size, 3, none⟩ = some (.slice A.l X.ln.length A.kl) ∧ v.cell? ⟨w.heap.size, 4, none⟩ = some (.slice A.e X.hl.length A.ke) ∧ v.cell? ⟨w.heap.size, 5, none⟩ = some (.slice A.s X.hs.length A.ks) ∧ v.cell? ⟨w.heap.size, 6, none⟩ = some (.int .i64 X.td)) := fun v g => by
    have h1 : v.heap[w.heap.size]? = some (.cells #[.slice A.p X.pc.length A.kp, .int .i64 X.sz, .slice A.h X.hd.length A.kh, .slice A.l X.ln.length A.kl, .slice A.e X.hl.length A.ke, .slice A.s X.hs.length A.ks, .int .i64 X.td] 37) := (g.block _ (by rw [hw0]; simp)).trans (by rw [hw0]; exact heap_last _ _)
    exact ⟨box_cell h1 0, box_cell h1 1, box_cell h1 2, box_cell h1 3, box_cell h1 4, box_cell h1 5, box_cell h1 6⟩
  have HSZ : Hid (∀ v, Below w0.heap.size w0 v → Calls Try.prog 18 #[.agg #[.slice A.p X.pc.length A.kp, .int .i64 X.sz, .slice A.h X.hd.length A.kh, .slice A.l X.ln.length A.kl, .slice A.e X.hl.length A.ke, .slice A.s X.hs.length A.ks, .int .i64 X.td], .int .i64 1048576] v fun e w' => (∃ r : Int, e = .returned (.int .i64 r) ∧ (0 ≤ r → FitW X)) ∧ Below v.heap.size v w') := fun v g => szWindow_any A X v hc (HZ.out v g)
  have HTO : Hid (FitW X → ∀ v, Below w0.heap.size w0 v → Calls Try.prog 20 #[.agg #[.slice A.p X.pc.length A.kp, .int .i64 X.sz, .slice A.h X.hd.length A.kh, .slice A.l X.ln.length A.kl, .slice A.e X.hl.length A.ke, .slice A.s X.hs.length A.ks, .int .i64 X.td]] v fun e w' => ∃ A', e = .returned (.agg #[.slice A'.p X.pc.length A'.kp, .int .i64 X.sz, .slice A'.h X.hd.length A'.kh, .slice A'.l X.ln.length A'.kl, .slice A'.e X.hl.length A'.ke, .slice A'.s X.hs.length A'.ks, .int .i64 X.td]) ∧ WO v.heap.size w'.heap.size A' X w' ∧ Below v.heap.size v w') := fun f v g => toWindow_any A X v f (HZ.out v g)
  have W0 : Hid (w0 = w.alloc (.cells #[.slice A.p X.pc.length A.kp, .int .i64 X.sz, .slice A.h X.hd.length A.kh, .slice A.l X.ln.length A.kl, .slice A.e X.hl.length A.ke, .slice A.s X.hs.length A.ks, .int .i64 X.td] 37)) := hw0
  clear h H hw0 hc
  have B0 : Hid (Below w0.heap.size w0 w0) := Below.refl _ _
  go_enter Try.func7, Try.ntmps7
  go_wp2_with fail
  rw [← W0.out]
  refine (HSZ.out _ B0.out).mono ?_
  rintro e w1 ⟨⟨r, rfl, hr⟩, g1⟩
  have HR := hid hr
  have B1 : Hid (Below w0.heap.size w0 w1) := g1
  clear hr g1 HSZ
  by_cases p0 : 0 ≤ r
  case neg =>
    have hd0 : decide (r < 0) = true := by simp; omega
    clear HR
    go_wp2_with fail
    go_ret
    exact ⟨rfl, HB0.out.trans (B1.out.mono HB0.out.size)⟩
  have hd0 : decide (r < 0) = false := by simp; omega
  have HF := hid (HR.out p0)
  have HT := hid (HTO.out HF.out)
  obtain ⟨n, x, h9, h11⟩ := HH.out HF.out
  have H9 : Hid (TellsFirstOpen 34 X n x) := h9
  have H11 : Hid (TellsFirstOpen 35 X n x) := h11
  clear h9 h11 HH HR HTO
  obtain ⟨x0, x1, x2, x3, x4, x5, x6⟩ := HX.out _ B1.out
  go_wp2_with fail
  refine (HT.out _ B1.out).mono ?_
  rintro e w2 ⟨A2, rfl, o2, g2⟩
  have B2 : Hid (Below w0.heap.size w0 w2) := B1.out.trans (g2.mono B1.out.size)
  have C2 := hid (H9.out A2 _ o2.read)
  clear o2 g2 x0 x1 x2 x3 x4 x5 x6
  go_wp2_with fail
  refine C2.out.mono ?_
  rintro e w3 ⟨rfl, g3⟩
  have B3 : Hid (Below w0.heap.size w0 w3) := B2.out.trans (g3.mono B2.out.size)
  clear g3 C2 B2 H9
  obtain ⟨x0, x1, x2, x3, x4, x5, x6⟩ := HX.out _ B3.out
  go_wp2_with fail
  refine (HT.out _ B3.out).mono ?_
  rintro e w4 ⟨A4, rfl, o4, g4⟩
  have B4 : Hid (Below w0.heap.size w0 w4) := B3.out.trans (g4.mono B3.out.size)
  have O4 := hid o4
  clear o4 g4 x0 x1 x2 x3 x4 x5 x6
  go_wp2_with fail
  have G5 : Hid (Below w4.heap.size w4 (w4.alloc (.cells #[.slice A4.p X.pc.length A4.kp, .int .i64 X.sz, .slice A4.h X.hd.length A4.kh, .slice A4.l X.ln.length A4.kl, .slice A4.e X.hl.length A4.ke, .slice A4.s X.hs.length A4.ks, .int .i64 X.td] 27))) := boxB _ _
  have K5 := hid (heap_last w4 (.cells #[.slice A4.p X.pc.length A4.kp, .int .i64 X.sz, .slice A4.h X.hd.length A4.kh, .slice A4.l X.ln.length A4.kl, .slice A4.e X.hl.length A4.ke, .slice A4.s X.hs.length A4.ks, .int .i64 X.td] 27))
  generalize w4.alloc (.cells #[.slice A4.p X.pc.length A4.kp, .int .i64 X.sz, .slice A4.h X.hd.length A4.kh, .slice A4.l X.ln.length A4.kl, .slice A4.e X.hl.length A4.ke, .slice A4.s X.hs.length A4.ks, .int .i64 X.td] 27) = w5 at *
  have y0 : w5.cell? ⟨w4.heap.size, 0, none⟩ = some (.slice A4.p X.pc.length A4.kp) := box_cell K5.out 0
  have y1 : w5.cell? ⟨w4.heap.size, 1, none⟩ = some (.int .i64 X.sz) := box_cell K5.out 1
  have y2 : w5.cell? ⟨w4.heap.size, 2, none⟩ = some (.slice A4.h X.hd.length A4.kh) := box_cell K5.out 2
  have y3 : w5.cell? ⟨w4.heap.size, 3, none⟩ = some (.slice A4.l X.ln.length A4.kl) := box_cell K5.out 3
  have y4 : w5.cell? ⟨w4.heap.size, 4, none⟩ = some (.slice A4.e X.hl.length A4.ke) := box_cell K5.out 4
  have y5 : w5.cell? ⟨w4.heap.size, 5, none⟩ = some (.slice A4.s X.hs.length A4.ks) := box_cell K5.out 5
  have y6 : w5.cell? ⟨w4.heap.size, 6, none⟩ = some (.int .i64 X.td) := box_cell K5.out 6
  have O5 := hid (O4.out.below G5.out)
  have B5 : Hid (Below w0.heap.size w0 w5) := B4.out.trans (G5.out.mono B4.out.size)
  have C5 := hid (H11.out A4 _ O5.out.read)
  clear O4 G5 B4 H11
  go_wp2_with fail
  refine C5.out.mono ?_
  rintro e w6 ⟨rfl, g6⟩
  have B6 : Hid (Below w0.heap.size w0 w6) := B5.out.trans (g6.mono B5.out.size)
  have O6 := hid (O5.out.below g6)
  have K6 := hid ((g6.block _ (kbox K5.out)).trans K5.out)
  clear g6 C5 O5 B5 K5 y0 y1 y2 y3 y4 y5 y6
  have y0 : w6.cell? ⟨w4.heap.size, 0, none⟩ = some (.slice A4.p X.pc.length A4.kp) := box_cell K6.out 0
  have y1 : w6.cell? ⟨w4.heap.size, 1, none⟩ = some (.int .i64 X.sz) := box_cell K6.out 1
  have y2 : w6.cell? ⟨w4.heap.size, 2, none⟩ = some (.slice A4.h X.hd.length A4.kh) := box_cell K6.out 2
  have y3 : w6.cell? ⟨w4.heap.size, 3, none⟩ = some (.slice A4.l X.ln.length A4.kl) := box_cell K6.out 3
  have y4 : w6.cell? ⟨w4.heap.size, 4, none⟩ = some (.slice A4.e X.hl.length A4.ke) := box_cell K6.out 4
  have y5 : w6.cell? ⟨w4.heap.size, 5, none⟩ = some (.slice A4.s X.hs.length A4.ks) := box_cell K6.out 5
  have y6 : w6.cell? ⟨w4.heap.size, 6, none⟩ = some (.int .i64 X.td) := box_cell K6.out 6
  have BD : Below w6.heap.size w6 w6.drew := (Below.refl _ _).drew
  have HS : Hid (∀ v, Below w6.heap.size w6 v → (v.cell? ⟨w4.heap.size, 0, none⟩ = some (.slice A4.p X.pc.length A4.kp) ∧ v.cell? ⟨w4.heap.size, 1, none⟩ = some (.int .i64 X.sz) ∧ v.cell? ⟨w4.heap.size, 2, none⟩ = some (.slice A4.h X.hd.length A4.kh) ∧ v.cell? ⟨w4.heap.size, 3, none⟩ = some (.slice A4.l X.ln.length A4.kl) ∧ v.cell? ⟨w4.heap.size, 4, none⟩ = some (.slice A4.e X.hl.length A4.ke) ∧ v.cell? ⟨w4.heap.size, 5, none⟩ = some (.slice A4.s X.hs.length A4.ks) ∧ v.cell? ⟨w4.heap.size, 6, none⟩ = some (.int .i64 X.td)) ∧ v.cell? ⟨w.heap.size, 0, none⟩ = some (.slice A.p X.pc.length A.kp) ∧ v.cell? ⟨w.heap.size, 1, none⟩ = some (.int .i64 X.sz) ∧ v.cell? ⟨w.heap.size, 2, none⟩ = some (.slice A.h X.hd.length A.kh) ∧ v.cell? ⟨w.heap.size, 3, none⟩ = some (.slice A.l X.ln.length A.kl) ∧ v.cell? ⟨w.heap.size, 4, none⟩ = some (.slice A.e X.hl.length A.ke) ∧ v.cell? ⟨w.heap.size, 5, none⟩ = some (.slice A.s X.hs.length A.ks) ∧ v.cell? ⟨w.heap.size, 6, none⟩ = some (.int .i64 X.td)) := fun v g => by
    have h1 := (g.block _ (kbox K6.out)).trans K6.out
    exact ⟨⟨box_cell h1 0, box_cell h1 1, box_cell h1 2, box_cell h1 3, box_cell h1 4, box_cell h1 5, box_cell h1 6⟩, HX.out v (B6.out.trans (g.mono B6.out.size))⟩
  have HCd : Hid (∀ v, Below w6.heap.size w6 v → Calls Try.prog 20 #[.agg #[.slice A.p X.pc.length A.kp, .int .i64 X.sz, .slice A.h X.hd.length A.kh, .slice A.l X.ln.length A.kl, .slice A.e X.hl.length A.ke, .slice A.s X.hs.length A.ks, .int .i64 X.td]] v fun e w' => ∃ A', e = .returned (.agg #[.slice A'.p X.pc.length A'.kp, .int .i64 X.sz, .slice A'.h X.hd.length A'.kh, .slice A'.l X.ln.length A'.kl, .slice A'.e X.hl.length A'.ke, .slice A'.s X.hs.length A'.ks, .int .i64 X.td]) ∧ WO v.heap.size w'.heap.size A' X w' ∧ Below v.heap.size v w') := fun v g => HT.out v (B6.out.trans (g.mono B6.out.size))
  have HEQ : Hid (∀ v (C : Ad), Below w6.heap.size w6 v → WR v.heap.size C X v → Calls Try.prog 13 #[.agg #[.slice A4.p X.pc.length A4.kp, .int .i64 X.sz, .slice A4.h X.hd.length A4.kh, .slice A4.l X.ln.length A4.kl, .slice A4.e X.hl.length A4.ke, .slice A4.s X.hs.length A4.ks, .int .i64 X.td], .agg #[.slice C.p X.pc.length C.kp, .int .i64 X.sz, .slice C.h X.hd.length C.kh, .slice C.l X.ln.length C.kl, .slice C.e X.hl.length C.ke, .slice C.s X.hs.length C.ks, .int .i64 X.td]] v fun e w' => e = .returned (.bool true) ∧ Below v.heap.size v w') := fun v C g h1 => eqWindow_same A4 C X v HF.out (O6.out.read.up g g.size) h1
  obtain ⟨⟨z0, z1, z2, z3, z4, z5, z6⟩, t0, t1, t2, t3, t4, t5, t6⟩ := HS.out _ BD
  go_wp2_with fail
  go_region_held (fun v => (v.cell? ⟨w4.heap.size, 0, none⟩ = some (.slice A4.p X.pc.length A4.kp) ∧ v.cell? ⟨w4.heap.size, 1, none⟩ = some (.int .i64 X.sz) ∧ v.cell? ⟨w4.heap.size, 2, none⟩ = some (.slice A4.h X.hd.length A4.kh) ∧ v.cell? ⟨w4.heap.size, 3, none⟩ = some (.slice A4.l X.ln.length A4.kl) ∧ v.cell? ⟨w4.heap.size, 4, none⟩ = some (.slice A4.e X.hl.length A4.ke) ∧ v.cell? ⟨w4.heap.size, 5, none⟩ = some (.slice A4.s X.hs.length A4.ks) ∧ v.cell? ⟨w4.heap.size, 6, none⟩ = some (.int .i64 X.td)) ∧ v.cell? ⟨w.heap.size, 0, none⟩ = some (.slice A.p X.pc.length A.kp) ∧ v.cell? ⟨w.heap.size, 1, none⟩ = some (.int .i64 X.sz) ∧ v.cell? ⟨w.heap.size, 2, none⟩ = some (.slice A.h X.hd.length A.kh) ∧ v.cell? ⟨w.heap.size, 3, none⟩ = some (.slice A.l X.ln.length A.kl) ∧ v.cell? ⟨w.heap.size, 4, none⟩ = some (.slice A.e X.hl.length A.ke) ∧ v.cell? ⟨w.heap.size, 5, none⟩ = some (.slice A.s X.hs.length A.ks) ∧ v.cell? ⟨w.heap.size, 6, none⟩ = some (.int .i64 X.td)) (first | exact HS.out _ (by with_reducible assumption)) (first | (go_at_call 20; refine (HCd.out _ (by with_reducible assumption)).mono ?_; rintro e w7 ⟨A7, rfl, o7, g7⟩; have B7 : Below w6.heap.size w6 w7 := BD.trans (g7.mono BD.size)) | (go_at_call 13; refine (HEQ.out _ _ B7 o7.read).mono ?_; rintro e w8 ⟨rfl, g8⟩; have B8 : Below w6.heap.size w6 w8 := B7.trans (g8.mono B7.size)))
  all_goals
    have HB8 := hid B8
    clear o7 g7 g8 y0 y1 y2 y3 y4 y5 y6 z0 t0 z1 t1 z2 t2 z3 t3 z4 t4 z5 t5 z6 t6 B7 B8
    go_wp2_with fail
    go_ret
    exact ⟨rfl, HB0.out.trans ((B6.out.trans (HB8.out.mono B6.out.size)).mono HB0.out.size)⟩
theorem walk_FirstOpen (A : Ad) (X : Wd) (w : World) (h : WR w.heap.size A X w) (hc : CntW X) (_h1 : fit X.sz) (_h2 : fit X.td) :
    Calls Try.prog 7 #[.agg #[.slice A.p X.pc.length A.kp, .int .i64 X.sz, .slice A.h X.hd.length A.kh, .slice A.l X.ln.length A.kl, .slice A.e X.hl.length A.ke, .slice A.s X.hs.length A.ks, .int .i64 X.td]] w fun e w' => e = .returned (.bool true) ∧ Below w.heap.size w w' :=
  law_FirstOpen A X w hc h fun hf => ⟨firstN X, goodW X, fun A v h1 => sfirst_any A X v hf h1, fun A v h1 => ifirst_any A X v hf h1⟩
end Go.Proofs.Ytaiilhhkfjlkoaa

/- Marks over Works. -/
import Derived.Test.YtgompioaknfjgaaUwW
import Derived.Deep.DeepCutAuto
namespace Go.Proofs.Ytgompioaknfjgaa
set_option maxRecDepth 100000
open Go Go.ChangeShapes Go.WideShapes Go.ChangeAt Go.RowKit
def Uwk1 (X : Uw) : Nat := 1 + X.cl.length
def Uwk2 (X : Uw) : Nat := Uwk1 X + X.dk.length
def Uwk3 (X : Uw) : Nat := Uwk2 X + 5 * X.lg.length
def Uwk4 (X : Uw) : Nat := Uwk3 X + X.op.length
def Uwmk (X : Uw) : Uw := ⟨imarks X.cl.length 1, imarks X.dk.length (Uwk1 X), ntcMarks X.lg.length (Uwk2 X), X.sr, imarks X.op.length (Uwk3 X)⟩
theorem Uwk_le {X : Uw} (h : UwFit X) : (1 ≤ Uwk1 X ∧ Uwk1 X ≤ 5000000000000) ∧ (1 ≤ Uwk2 X ∧ Uwk2 X ≤ 5000000000000) ∧ (1 ≤ Uwk3 X ∧ Uwk3 X ≤ 5000000000000) ∧ (1 ≤ Uwk4 X ∧ Uwk4 X ≤ 5000000000000) := by
  have h0 := h.c
  have h1 := h.d
  have h2 := h.l
  have h3 := h.o
  unfold Uwk4 Uwk3 Uwk2 Uwk1
  omega
def UwMk (P : Nat → Prop) (A : UwA) (X : Uw) (w : World) : Prop := ∃ col : Nat → Nat, MI (fun b => P b ∧ col b = 0) A.c X.cl w ∧ MI (fun b => P b ∧ col b = 1) A.d X.dk w ∧ MNt (fun b => P b ∧ col b = 2) A.l X.lg w ∧ MI (fun b => P b ∧ col b = 3) A.o X.op w
theorem UwMk.read {P : Nat → Prop} {A : UwA} {X : Uw} {w : World} (h : UwMk P A X w) : UwR w.heap.size A X w := by
  obtain ⟨_, h0, h1, h2, h3⟩ := h
  exact ⟨h0.is, h1.is, h2.ps, h3.is⟩
theorem UwMk.keep {P Q : Nat → Prop} {A : UwA} {X : Uw} {w w' : World} (h : UwMk P A X w) (g : OutP Q w w') (hPQ : ∀ k, P k → ¬ Q k) : UwMk P A X w' := by
  obtain ⟨col, h0, h1, h2, h3⟩ := h
  exact ⟨col, h0.keep g (fun k hk => hPQ k hk.1), h1.keep g (fun k hk => hPQ k hk.1), h2.keep g (fun k hk => hPQ k hk.1), h3.keep g (fun k hk => hPQ k hk.1)⟩
theorem UwMk.on {P : Nat → Prop} {A : UwA} {X : Uw} {w w' : World} (h : UwMk P A X w) (g : Below w.heap.size w w') : UwMk P A X w' := h.keep (OutP.below g) (fun _ _ h => h)
theorem UwMk.wide {P Q : Nat → Prop} {A : UwA} {X : Uw} {w : World} (h : UwMk P A X w) (g : ∀ k, P k → Q k) : UwMk Q A X w := by
  obtain ⟨col, h0, h1, h2, h3⟩ := h
  exact ⟨col, h0.wide (fun k hk => ⟨g k hk.1, hk.2⟩), h1.wide (fun k hk => ⟨g k hk.1, hk.2⟩), h2.wide (fun k hk => ⟨g k hk.1, hk.2⟩), h3.wide (fun k hk => ⟨g k hk.1, hk.2⟩)⟩
theorem UwMk.zero (P : Nat → Prop) (A : UwA) (w : World) : UwMk P A Uwzero w := ⟨fun _ => 0, Or.inl rfl, Or.inl rfl, Or.inl rfl, Or.inl rfl⟩
set_option maxHeartbeats 8000000 in
theorem markWorks_m (P : Nat → Prop) (A : UwA) (X : Uw) (w : World) (hf : UwFit X) (hP : ∀ k, P k → k < w.heap.size) (h : UwMk P A X w) :
    Calls Try.prog 12 #[.agg #[.slice A.c X.cl.length A.kc, .slice A.d X.dk.length A.kd, .slice A.l X.lg.length A.kl, .int .i64 X.sr, .slice A.o X.op.length A.ko], .int .i64 1] w fun e w' => e = .returned (.int .i64 (Uwk4 X : Nat)) ∧ UwMk P A (Uwmk X) w' ∧ OutP P w w' := by
  have HB : Hid (OutP P w (w.alloc (.cells #[.slice A.c X.cl.length A.kc, .slice A.d X.dk.length A.kd, .slice A.l X.lg.length A.kl, .int .i64 X.sr, .slice A.o X.op.length A.ko] 25))) := OutP.on (boxB w _)
  have HK0 : Hid ((w.alloc (.cells #[.slice A.c X.cl.length A.kc, .slice A.d X.dk.length A.kd, .slice A.l X.lg.length A.kl, .int .i64 X.sr, .slice A.o X.op.length A.ko] 25)).heap[w.heap.size]? = some (.cells #[.slice A.c X.cl.length A.kc, .slice A.d X.dk.length A.kd, .slice A.l X.lg.length A.kl, .int .i64 X.sr, .slice A.o X.op.length A.ko] 25)) := heap_last _ _
  obtain ⟨col, h0, h1, h2, h3⟩ := h.on (boxB w (.cells #[.slice A.c X.cl.length A.kc, .slice A.d X.dk.length A.kd, .slice A.l X.lg.length A.kl, .int .i64 X.sr, .slice A.o X.op.length A.ko] 25))
  have HX : Hid (¬ P w.heap.size) := fun hp => by have := hP _ hp; omega
  have hk := Uwk_le hf
  have HM0 : Hid (∀ v, MI (fun b => P b ∧ col b = 0) A.c X.cl v → Calls Try.prog 39 #[.slice A.c X.cl.length A.kc, .int .i64 1] v fun e w' => e = .returned (.int .i64 (Uwk1 X : Nat)) ∧ MI (fun b => P b ∧ col b = 0) A.c (imarks X.cl.length 1) w' ∧ OutP (fun b => P b ∧ col b = 0) v w') := fun v hv => markIntS_m _ A.c A.kc 1 X.cl v hf.c (Nat.le_refl _) (by decide) hv
  have HM1 : Hid (∀ v, MI (fun b => P b ∧ col b = 1) A.d X.dk v → Calls Try.prog 39 #[.slice A.d X.dk.length A.kd, .int .i64 ((Uwk1 X : Nat) : Int)] v fun e w' => e = .returned (.int .i64 (Uwk2 X : Nat)) ∧ MI (fun b => P b ∧ col b = 1) A.d (imarks X.dk.length (Uwk1 X)) w' ∧ OutP (fun b => P b ∧ col b = 1) v w') := fun v hv => markIntS_m _ A.d A.kd (Uwk1 X) X.dk v hf.d (by omega) (by omega) hv
  have HM2 : Hid (∀ v, MNt (fun b => P b ∧ col b = 2) A.l X.lg v → Calls Try.prog 38 #[.slice A.l X.lg.length A.kl, .int .i64 ((Uwk2 X : Nat) : Int)] v fun e w' => e = .returned (.int .i64 (Uwk3 X : Nat)) ∧ MNt (fun b => P b ∧ col b = 2) A.l (ntcMarks X.lg.length (Uwk2 X)) w' ∧ OutP (fun b => P b ∧ col b = 2) v w') := fun v hv => markNoteS_m _ A.l A.kl (Uwk2 X) X.lg v hf.l (by omega) (by omega) hv
  have HM3 : Hid (∀ v, MI (fun b => P b ∧ col b = 3) A.o X.op v → Calls Try.prog 39 #[.slice A.o X.op.length A.ko, .int .i64 ((Uwk3 X : Nat) : Int)] v fun e w' => e = .returned (.int .i64 (Uwk4 X : Nat)) ∧ MI (fun b => P b ∧ col b = 3) A.o (imarks X.op.length (Uwk3 X)) w' ∧ OutP (fun b => P b ∧ col b = 3) v w') := fun v hv => markIntS_m _ A.o A.ko (Uwk3 X) X.op v hf.o (by omega) (by omega) hv
  have H0_0 := hid h0
  have H1_0 := hid h1
  have H2_0 := hid h2
  have H3_0 := hid h3
  clear h hP hf hk h0 h1 h2 h3
  unfold Uwmk
  generalize Uwk1 X = n1 at *
  generalize Uwk2 X = n2 at *
  generalize Uwk3 X = n3 at *
  generalize Uwk4 X = n4 at *
  go_enter Try.func12, Try.ntmps12
  go_upto_region 1 with fail
  generalize w.alloc (.cells #[.slice A.c X.cl.length A.kc, .slice A.d X.dk.length A.kd, .slice A.l X.lg.length A.kl, .int .i64 X.sr, .slice A.o X.op.length A.ko] 25) = W0 at *
  have x0 : W0.cell? ⟨w.heap.size, 0, none⟩ = some (.slice A.c X.cl.length A.kc) := box_cell HK0.out 0
  go_wp2_with fail
  refine (HM0.out W0 H0_0.out).mono ?_
  rintro e W1 ⟨rfl, m0, o0⟩
  have H0_1 := hid m0
  have H1_1 := hid (H1_0.out.keep o0 (fun b hb hc => by have := hb.2; have := hc.2; omega))
  have H2_1 := hid (H2_0.out.keep o0 (fun b hb hc => by have := hb.2; have := hc.2; omega))
  have H3_1 := hid (H3_0.out.keep o0 (fun b hb hc => by have := hb.2; have := hc.2; omega))
  have HK1 := hid ((o0.block w.heap.size (kbox HK0.out) (fun h => HX.out h.1)).trans HK0.out)
  have HO1 := hid (HB.out.trans (o0.wide (fun _ h => h.1)))
  clear x0 m0 o0 HK0 HM0 HB H0_0 H1_0 H2_0 H3_0
  have x1 : W1.cell? ⟨w.heap.size, 1, none⟩ = some (.slice A.d X.dk.length A.kd) := box_cell HK1.out 1
  go_wp2_with fail
  refine (HM1.out W1 H1_1.out).mono ?_
  rintro e W2 ⟨rfl, m1, o1⟩
  have H0_2 := hid (H0_1.out.keep o1 (fun b hb hc => by have := hb.2; have := hc.2; omega))
  have H1_2 := hid m1
  have H2_2 := hid (H2_1.out.keep o1 (fun b hb hc => by have := hb.2; have := hc.2; omega))
  have H3_2 := hid (H3_1.out.keep o1 (fun b hb hc => by have := hb.2; have := hc.2; omega))
  have HK2 := hid ((o1.block w.heap.size (kbox HK1.out) (fun h => HX.out h.1)).trans HK1.out)
  have HO2 := hid (HO1.out.trans (o1.wide (fun _ h => h.1)))
  clear x1 m1 o1 HK1 HM1 HO1 H0_1 H1_1 H2_1 H3_1
  have x2 : W2.cell? ⟨w.heap.size, 2, none⟩ = some (.slice A.l X.lg.length A.kl) := box_cell HK2.out 2
  go_wp2_with fail
  refine (HM2.out W2 H2_2.out).mono ?_
  rintro e W3 ⟨rfl, m2, o2⟩
  have H0_3 := hid (H0_2.out.keep o2 (fun b hb hc => by have := hb.2; have := hc.2; omega))
  have H1_3 := hid (H1_2.out.keep o2 (fun b hb hc => by have := hb.2; have := hc.2; omega))
  have H2_3 := hid m2
  have H3_3 := hid (H3_2.out.keep o2 (fun b hb hc => by have := hb.2; have := hc.2; omega))
  have HK3 := hid ((o2.block w.heap.size (kbox HK2.out) (fun h => HX.out h.1)).trans HK2.out)
  have HO3 := hid (HO2.out.trans (o2.wide (fun _ h => h.1)))
  clear x2 m2 o2 HK2 HM2 HO2 H0_2 H1_2 H2_2 H3_2
  have x3 : W3.cell? ⟨w.heap.size, 4, none⟩ = some (.slice A.o X.op.length A.ko) := box_cell HK3.out 4
  go_wp2_with fail
  refine (HM3.out W3 H3_3.out).mono ?_
  rintro e W4 ⟨rfl, m3, o3⟩
  have H0_4 := hid (H0_3.out.keep o3 (fun b hb hc => by have := hb.2; have := hc.2; omega))
  have H1_4 := hid (H1_3.out.keep o3 (fun b hb hc => by have := hb.2; have := hc.2; omega))
  have H2_4 := hid (H2_3.out.keep o3 (fun b hb hc => by have := hb.2; have := hc.2; omega))
  have H3_4 := hid m3
  have HK4 := hid ((o3.block w.heap.size (kbox HK3.out) (fun h => HX.out h.1)).trans HK3.out)
  have HO4 := hid (HO3.out.trans (o3.wide (fun _ h => h.1)))
  clear x3 m3 o3 HK3 HM3 HO3 H0_3 H1_3 H2_3 H3_3
  go_wp2_with fail
  go_ret
  exact ⟨rfl, ⟨col, H0_4.out, H1_4.out, H2_4.out, H3_4.out⟩, HO4.out⟩
set_option maxHeartbeats 8000000 in
theorem heldWorks_g (A : UwA) (X : Uw) (w : World) (hf : UwFit X) (h : UwR w.heap.size A (Uwmk X) w) :
    Calls Try.prog 13 #[.agg #[.slice A.c X.cl.length A.kc, .slice A.d X.dk.length A.kd, .slice A.l X.lg.length A.kl, .int .i64 X.sr, .slice A.o X.op.length A.ko], .int .i64 1] w fun e w' => e = .returned (.int .i64 (Uwk4 X : Nat)) ∧ Below w.heap.size w w' := by
  have HB0 := hid (boxB w (.cells #[.slice A.c X.cl.length A.kc, .slice A.d X.dk.length A.kd, .slice A.l X.lg.length A.kl, .int .i64 X.sr, .slice A.o X.op.length A.ko] 25))
  have HK0 := hid (heap_last w (.cells #[.slice A.c X.cl.length A.kc, .slice A.d X.dk.length A.kd, .slice A.l X.lg.length A.kl, .int .i64 X.sr, .slice A.o X.op.length A.ko] 25))
  have HZ : Hid (∀ v, Below w.heap.size w v → UwR v.heap.size A (Uwmk X) v) := fun v g => h.up g g.size
  have hk := Uwk_le hf
  have HM0 : Hid (∀ v, Below w.heap.size w v → Calls Try.prog 40 #[.slice A.c X.cl.length A.kc, .int .i64 1] v fun e w' => e = .returned (.int .i64 (Uwk1 X : Nat)) ∧ Below v.heap.size v w') := fun v g => heldIntS_row A.c A.kc 1 X.cl.length v hf.c (Nat.le_refl _) (by decide) (HZ.out v g).c
  have HM1 : Hid (∀ v, Below w.heap.size w v → Calls Try.prog 40 #[.slice A.d X.dk.length A.kd, .int .i64 ((Uwk1 X : Nat) : Int)] v fun e w' => e = .returned (.int .i64 (Uwk2 X : Nat)) ∧ Below v.heap.size v w') := fun v g => heldIntS_row A.d A.kd (Uwk1 X) X.dk.length v hf.d (by omega) (by omega) (HZ.out v g).d
  have HM2 : Hid (∀ v, Below w.heap.size w v → Calls Try.prog 41 #[.slice A.l X.lg.length A.kl, .int .i64 ((Uwk2 X : Nat) : Int)] v fun e w' => e = .returned (.int .i64 (Uwk3 X : Nat)) ∧ Below v.heap.size v w') := fun v g => heldNoteS_row A.l A.kl (Uwk2 X) X.lg.length v hf.l (by omega) (by omega) (HZ.out v g).l
  have HM3 : Hid (∀ v, Below w.heap.size w v → Calls Try.prog 40 #[.slice A.o X.op.length A.ko, .int .i64 ((Uwk3 X : Nat) : Int)] v fun e w' => e = .returned (.int .i64 (Uwk4 X : Nat)) ∧ Below v.heap.size v w') := fun v g => heldIntS_row A.o A.ko (Uwk3 X) X.op.length v hf.o (by omega) (by omega) (HZ.out v g).o
  have d1 : decide (((Uwk1 X : Nat) : Int) < 0) = false := decide_eq_false (by omega)
  have d2 : decide (((Uwk2 X : Nat) : Int) < 0) = false := decide_eq_false (by omega)
  have d3 : decide (((Uwk3 X : Nat) : Int) < 0) = false := decide_eq_false (by omega)
  have d4 : decide (((Uwk4 X : Nat) : Int) < 0) = false := decide_eq_false (by omega)
  clear h hf hk HZ
  generalize Uwk1 X = n1 at *
  generalize Uwk2 X = n2 at *
  generalize Uwk3 X = n3 at *
  generalize Uwk4 X = n4 at *
  go_enter Try.func13, Try.ntmps13
  go_upto_region 1 with fail
  generalize w.alloc (.cells #[.slice A.c X.cl.length A.kc, .slice A.d X.dk.length A.kd, .slice A.l X.lg.length A.kl, .int .i64 X.sr, .slice A.o X.op.length A.ko] 25) = W0 at *
  have x0 : W0.cell? ⟨w.heap.size, 0, none⟩ = some (.slice A.c X.cl.length A.kc) := box_cell HK0.out 0
  go_wp2_with fail
  refine (HM0.out W0 HB0.out).mono ?_
  rintro e W1 ⟨rfl, b0⟩
  have HB1 := hid (HB0.out.trans (b0.mono HB0.out.size))
  have HK1 := hid ((b0.block _ (kbox HK0.out)).trans HK0.out)
  clear x0 b0 HB0 HK0 HM0
  have x1 : W1.cell? ⟨w.heap.size, 1, none⟩ = some (.slice A.d X.dk.length A.kd) := box_cell HK1.out 1
  go_wp2_with fail
  refine (HM1.out W1 HB1.out).mono ?_
  rintro e W2 ⟨rfl, b1⟩
  have HB2 := hid (HB1.out.trans (b1.mono HB1.out.size))
  have HK2 := hid ((b1.block _ (kbox HK1.out)).trans HK1.out)
  clear x1 b1 HB1 HK1 HM1
  have x2 : W2.cell? ⟨w.heap.size, 2, none⟩ = some (.slice A.l X.lg.length A.kl) := box_cell HK2.out 2
  go_wp2_with fail
  refine (HM2.out W2 HB2.out).mono ?_
  rintro e W3 ⟨rfl, b2⟩
  have HB3 := hid (HB2.out.trans (b2.mono HB2.out.size))
  have HK3 := hid ((b2.block _ (kbox HK2.out)).trans HK2.out)
  clear x2 b2 HB2 HK2 HM2
  have x3 : W3.cell? ⟨w.heap.size, 4, none⟩ = some (.slice A.o X.op.length A.ko) := box_cell HK3.out 4
  go_wp2_with fail
  refine (HM3.out W3 HB3.out).mono ?_
  rintro e W4 ⟨rfl, b3⟩
  have HB4 := hid (HB3.out.trans (b3.mono HB3.out.size))
  have HK4 := hid ((b3.block _ (kbox HK3.out)).trans HK3.out)
  clear x3 b3 HB3 HK3 HM3
  go_wp2_with fail
  go_ret
  exact ⟨rfl, HB4.out⟩
end Go.Proofs.Ytgompioaknfjgaa

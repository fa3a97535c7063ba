/- Marks over fences. -/
import Derived.Test.YtikmkkklgdkpaaaFcW
import Derived.Deep.DeepCutAuto
namespace Go.Proofs.Ytikmkkklgdkpaaa
set_option maxRecDepth 100000
open Go Go.ChangeShapes Go.WideShapes Go.ChangeAt Go.RowKit
/-- rows whose cells may be marked, in blocks of P -/
def MRx (P : Nat → Prop) (a : Option Addr) (L : List (List Int)) (w : World) : Prop := ∃ q c f, MR P a q c f L w
theorem MRx.js {P : Nat → Prop} {a : Option Addr} {L : List (List Int)} {w : World} (h : MRx P a L w) : Js w.heap.size a L w := by obtain ⟨q, c, f, h⟩ := h; exact h.vs
theorem MRx.keep {P Q : Nat → Prop} {a : Option Addr} {L : List (List Int)} {w w' : World} (h : MRx P a L w) (g : OutP Q w w') (hPQ : ∀ k, P k → ¬ Q k) : MRx P a L w' := by obtain ⟨q, c, f, h⟩ := h; exact ⟨q, c, f, h.keep g hPQ⟩
theorem MRx.wide {P Q : Nat → Prop} {a : Option Addr} {L : List (List Int)} {w : World} (h : MRx P a L w) (g : ∀ k, P k → Q k) : MRx Q a L w := by obtain ⟨q, c, f, h⟩ := h; exact ⟨q, c, f, h.wide g⟩
theorem markIntSS_x (P : Nat → Prop) (a : Option Addr) (cap k0 : Nat) (L : List (List Int)) (w : World) (hf : FitR L) (k1 : 1 ≤ k0) (k2 : k0 ≤ 2305843009213693952) (h : MRx P a L w) :
    Calls Try.prog 41 #[.slice a L.length cap, .int .i64 k0] w fun e w' => e = .returned (.int .i64 (k0 + totR L L.length : Nat)) ∧ MRx P a (markRR L k0) w' ∧ OutP P w w' := by
  obtain ⟨q, c, f, h⟩ := h
  exact (markIntSS_m P a cap k0 q c f L w hf.1 hf.2 k1 k2 h).mono fun _ _ ⟨he, hr, ho⟩ => ⟨he, ⟨q, c, f, hr⟩, ho⟩
def kF1 (X : Fc) : Nat := 1 + X.jd.length
def kF2 (X : Fc) : Nat := kF1 X + X.gv.length
def kF3 (X : Fc) : Nat := kF2 X + X.pl.length
def kF4 (X : Fc) : Nat := kF3 X + totR X.vt X.vt.length
def kF5 (X : Fc) : Nat := kF4 X + totR X.wn X.wn.length
def kF6 (X : Fc) : Nat := kF5 X + 4 * X.ln.length
def kF7 (X : Fc) : Nat := kF6 X + totR X.st X.st.length
/-- a fence all of whose lists bear marks -/
def fmk (X : Fc) : Fc := ⟨imarks X.jd.length 1, imarks X.gv.length (kF1 X), imarks X.pl.length (kF2 X), markRR X.vt (kF3 X), markRR X.wn (kF4 X), pmarks X.ln.length (kF5 X), X.sn, markRR X.st (kF6 X)⟩
theorem totR_fit {L : List (List Int)} (h : FitR L) : totR L L.length ≤ 1099512676352 := by
  have h1 := totR_le L h.1 h.2 L.length (Nat.le_refl _)
  have h2 : L.length * 1048577 ≤ 1048576 * 1048577 := Nat.mul_le_mul_right _ h.1
  omega
theorem kF_le {X : Fc} (h : FitF X) : (1 ≤ kF1 X ∧ kF1 X ≤ 5000000000000) ∧ (1 ≤ kF2 X ∧ kF2 X ≤ 5000000000000) ∧ (1 ≤ kF3 X ∧ kF3 X ≤ 5000000000000) ∧ (1 ≤ kF4 X ∧ kF4 X ≤ 5000000000000) ∧ (1 ≤ kF5 X ∧ kF5 X ≤ 5000000000000) ∧ (1 ≤ kF6 X ∧ kF6 X ≤ 5000000000000) ∧ (1 ≤ kF7 X ∧ kF7 X ≤ 5000000000000) := by
  have h0 := h.j
  have h1 := h.g
  have h2 := h.p
  have h3 := totR_fit h.v
  have h4 := totR_fit h.n
  have h5 := h.l
  have h6 := totR_fit h.s
  unfold kF7 kF6 kF5 kF4 kF3 kF2 kF1
  omega
/-- a fence whose cells may be marked, in blocks of P; each list in blocks of its own colour -/
def MkF (P : Nat → Prop) (A : Af) (X : Fc) (w : World) : Prop := ∃ col : Nat → Nat, MI (fun b => P b ∧ col b = 0) A.j X.jd w ∧ MI (fun b => P b ∧ col b = 1) A.g X.gv w ∧ MI (fun b => P b ∧ col b = 2) A.p X.pl w ∧ MRx (fun b => P b ∧ col b = 3) A.v X.vt w ∧ MRx (fun b => P b ∧ col b = 4) A.n X.wn w ∧ MP (fun b => P b ∧ col b = 5) A.l X.ln w ∧ MRx (fun b => P b ∧ col b = 6) A.s X.st w
theorem MkF.read {P : Nat → Prop} {A : Af} {X : Fc} {w : World} (h : MkF P A X w) : FR w.heap.size A X w := by
  obtain ⟨_, h0, h1, h2, h3, h4, h5, h6⟩ := h
  exact ⟨h0.is, h1.is, h2.is, h3.js, h4.js, h5.ps, h6.js⟩
theorem MkF.keep {P Q : Nat → Prop} {A : Af} {X : Fc} {w w' : World} (h : MkF P A X w) (g : OutP Q w w') (hPQ : ∀ k, P k → ¬ Q k) : MkF P A X w' := by
  obtain ⟨col, h0, h1, h2, h3, h4, h5, h6⟩ := h
  exact ⟨col, h0.keep g (fun k hk => hPQ k hk.1), h1.keep g (fun k hk => hPQ k hk.1), h2.keep g (fun k hk => hPQ k hk.1), h3.keep g (fun k hk => hPQ k hk.1), h4.keep g (fun k hk => hPQ k hk.1), h5.keep g (fun k hk => hPQ k hk.1), h6.keep g (fun k hk => hPQ k hk.1)⟩
theorem MkF.on {P : Nat → Prop} {A : Af} {X : Fc} {w w' : World} (h : MkF P A X w) (g : Below w.heap.size w w') : MkF P A X w' := h.keep (OutP.below g) (fun _ _ h => h)
theorem MkF.wide {P Q : Nat → Prop} {A : Af} {X : Fc} {w : World} (h : MkF P A X w) (g : ∀ k, P k → Q k) : MkF Q A X w := by
  obtain ⟨col, h0, h1, h2, h3, h4, h5, h6⟩ := h
  exact ⟨col, h0.wide (fun k hk => ⟨g k hk.1, hk.2⟩), h1.wide (fun k hk => ⟨g k hk.1, hk.2⟩), h2.wide (fun k hk => ⟨g k hk.1, hk.2⟩), h3.wide (fun k hk => ⟨g k hk.1, hk.2⟩), h4.wide (fun k hk => ⟨g k hk.1, hk.2⟩), h5.wide (fun k hk => ⟨g k hk.1, hk.2⟩), h6.wide (fun k hk => ⟨g k hk.1, hk.2⟩)⟩
theorem MkF.zero (P : Nat → Prop) (A : Af) (n : Int) (w : World) : MkF P A ⟨[], [], [], [], [], [], n, []⟩ w := ⟨fun _ => 0, Or.inl rfl, Or.inl rfl, Or.inl rfl, ⟨fun _ => none, fun _ => 0, fun _ => 0, Or.inl rfl⟩, ⟨fun _ => none, fun _ => 0, fun _ => 0, Or.inl rfl⟩, Or.inl rfl, ⟨fun _ => none, fun _ => 0, fun _ => 0, Or.inl rfl⟩⟩
set_option maxHeartbeats 8000000 in
theorem markFence_m (P : Nat → Prop) (A : Af) (X : Fc) (w : World) (hf : FitF X) (hP : ∀ k, P k → k < w.heap.size) (h : MkF P A X w) :
    Calls Try.prog 12 #[.agg #[.slice A.j X.jd.length A.kj, .slice A.g X.gv.length A.kg, .slice A.p X.pl.length A.kp, .slice A.v X.vt.length A.kv, .slice A.n X.wn.length A.kn, .slice A.l X.ln.length A.kl, .int .i64 X.sn, .slice A.s X.st.length A.ks], .int .i64 1] w fun e w' => e = .returned (.int .i64 (kF7 X : Nat)) ∧ MkF P A (fmk X) w' ∧ OutP P w w' := by
  have HB : Hid (OutP P w (w.alloc (.cells #[.slice A.j X.jd.length A.kj, .slice A.g X.gv.length A.kg, .slice A.p X.pl.length A.kp, .slice A.v X.vt.length A.kv, .slice A.n X.wn.length A.kn, .slice A.l X.ln.length A.kl, .int .i64 X.sn, .slice A.s X.st.length A.ks] 26))) := OutP.on (boxB w _)
  have HK0 : Hid ((w.alloc (.cells #[.slice A.j X.jd.length A.kj, .slice A.g X.gv.length A.kg, .slice A.p X.pl.length A.kp, .slice A.v X.vt.length A.kv, .slice A.n X.wn.length A.kn, .slice A.l X.ln.length A.kl, .int .i64 X.sn, .slice A.s X.st.length A.ks] 26)).heap[w.heap.size]? = some (.cells #[.slice A.j X.jd.length A.kj, .slice A.g X.gv.length A.kg, .slice A.p X.pl.length A.kp, .slice A.v X.vt.length A.kv, .slice A.n X.wn.length A.kn, .slice A.l X.ln.length A.kl, .int .i64 X.sn, .slice A.s X.st.length A.ks] 26)) := heap_last _ _
  obtain ⟨col, h0, h1, h2, h3, h4, h5, h6⟩ := h.on (boxB w (.cells #[.slice A.j X.jd.length A.kj, .slice A.g X.gv.length A.kg, .slice A.p X.pl.length A.kp, .slice A.v X.vt.length A.kv, .slice A.n X.wn.length A.kn, .slice A.l X.ln.length A.kl, .int .i64 X.sn, .slice A.s X.st.length A.ks] 26))
  have HX : Hid (¬ P w.heap.size) := fun hp => by have := hP _ hp; omega
  have hk := kF_le hf
  have HM0 : Hid (∀ v, MI (fun b => P b ∧ col b = 0) A.j X.jd v → Calls Try.prog 40 #[.slice A.j X.jd.length A.kj, .int .i64 1] v fun e w' => e = .returned (.int .i64 (kF1 X : Nat)) ∧ MI (fun b => P b ∧ col b = 0) A.j (imarks X.jd.length 1) w' ∧ OutP (fun b => P b ∧ col b = 0) v w') := fun v hv => markIntS_m _ A.j A.kj 1 X.jd v hf.j (Nat.le_refl _) (by decide) hv
  have HM1 : Hid (∀ v, MI (fun b => P b ∧ col b = 1) A.g X.gv v → Calls Try.prog 40 #[.slice A.g X.gv.length A.kg, .int .i64 ((kF1 X : Nat) : Int)] v fun e w' => e = .returned (.int .i64 (kF2 X : Nat)) ∧ MI (fun b => P b ∧ col b = 1) A.g (imarks X.gv.length (kF1 X)) w' ∧ OutP (fun b => P b ∧ col b = 1) v w') := fun v hv => markIntS_m _ A.g A.kg (kF1 X) X.gv v hf.g (by omega) (by omega) hv
  have HM2 : Hid (∀ v, MI (fun b => P b ∧ col b = 2) A.p X.pl v → Calls Try.prog 40 #[.slice A.p X.pl.length A.kp, .int .i64 ((kF2 X : Nat) : Int)] v fun e w' => e = .returned (.int .i64 (kF3 X : Nat)) ∧ MI (fun b => P b ∧ col b = 2) A.p (imarks X.pl.length (kF2 X)) w' ∧ OutP (fun b => P b ∧ col b = 2) v w') := fun v hv => markIntS_m _ A.p A.kp (kF2 X) X.pl v hf.p (by omega) (by omega) hv
  have HM3 : Hid (∀ v, MRx (fun b => P b ∧ col b = 3) A.v X.vt v → Calls Try.prog 41 #[.slice A.v X.vt.length A.kv, .int .i64 ((kF3 X : Nat) : Int)] v fun e w' => e = .returned (.int .i64 (kF4 X : Nat)) ∧ MRx (fun b => P b ∧ col b = 3) A.v (markRR X.vt (kF3 X)) w' ∧ OutP (fun b => P b ∧ col b = 3) v w') := fun v hv => markIntSS_x _ A.v A.kv (kF3 X) X.vt v hf.v (by omega) (by omega) hv
  have HM4 : Hid (∀ v, MRx (fun b => P b ∧ col b = 4) A.n X.wn v → Calls Try.prog 41 #[.slice A.n X.wn.length A.kn, .int .i64 ((kF4 X : Nat) : Int)] v fun e w' => e = .returned (.int .i64 (kF5 X : Nat)) ∧ MRx (fun b => P b ∧ col b = 4) A.n (markRR X.wn (kF4 X)) w' ∧ OutP (fun b => P b ∧ col b = 4) v w') := fun v hv => markIntSS_x _ A.n A.kn (kF4 X) X.wn v hf.n (by omega) (by omega) hv
  have HM5 : Hid (∀ v, MP (fun b => P b ∧ col b = 5) A.l X.ln v → Calls Try.prog 42 #[.slice A.l X.ln.length A.kl, .int .i64 ((kF5 X : Nat) : Int)] v fun e w' => e = .returned (.int .i64 (kF6 X : Nat)) ∧ MP (fun b => P b ∧ col b = 5) A.l (pmarks X.ln.length (kF5 X)) w' ∧ OutP (fun b => P b ∧ col b = 5) v w') := fun v hv => markPaperS_m _ A.l A.kl (kF5 X) X.ln v hf.l (by omega) (by omega) hv
  have HM6 : Hid (∀ v, MRx (fun b => P b ∧ col b = 6) A.s X.st v → Calls Try.prog 41 #[.slice A.s X.st.length A.ks, .int .i64 ((kF6 X : Nat) : Int)] v fun e w' => e = .returned (.int .i64 (kF7 X : Nat)) ∧ MRx (fun b => P b ∧ col b = 6) A.s (markRR X.st (kF6 X)) w' ∧ OutP (fun b => P b ∧ col b = 6) v w') := fun v hv => markIntSS_x _ A.s A.ks (kF6 X) X.st v hf.s (by omega) (by omega) hv
  have H0_0 := hid h0
  have H1_0 := hid h1
  have H2_0 := hid h2
  have H3_0 := hid h3
  have H4_0 := hid h4
  have H5_0 := hid h5
  have H6_0 := hid h6
  clear h hP hf hk h0 h1 h2 h3 h4 h5 h6
  unfold fmk
  generalize kF1 X = n1 at *
  generalize kF2 X = n2 at *
  generalize kF3 X = n3 at *
  generalize kF4 X = n4 at *
  generalize kF5 X = n5 at *
  generalize kF6 X = n6 at *
  generalize kF7 X = n7 at *
  go_enter Try.func12, Try.ntmps12
  go_upto_region 1 with fail
  generalize w.alloc (.cells #[.slice A.j X.jd.length A.kj, .slice A.g X.gv.length A.kg, .slice A.p X.pl.length A.kp, .slice A.v X.vt.length A.kv, .slice A.n X.wn.length A.kn, .slice A.l X.ln.length A.kl, .int .i64 X.sn, .slice A.s X.st.length A.ks] 26) = W0 at *
  have x0 : W0.cell? ⟨w.heap.size, 0, none⟩ = some (.slice A.j X.jd.length A.kj) := box_cell HK0.out 0
  go_wp2_with fail
  refine (HM0.out W0 H0_0.out).mono ?_
  rintro e W1 ⟨rfl, m0, o0⟩
  have H0_1 := hid m0
  have H1_1 := hid (H1_0.out.keep o0 (fun b hb hc => by have := hb.2; have := hc.2; omega))
  have H2_1 := hid (H2_0.out.keep o0 (fun b hb hc => by have := hb.2; have := hc.2; omega))
  have H3_1 := hid (H3_0.out.keep o0 (fun b hb hc => by have := hb.2; have := hc.2; omega))
  have H4_1 := hid (H4_0.out.keep o0 (fun b hb hc => by have := hb.2; have := hc.2; omega))
  have H5_1 := hid (H5_0.out.keep o0 (fun b hb hc => by have := hb.2; have := hc.2; omega))
  have H6_1 := hid (H6_0.out.keep o0 (fun b hb hc => by have := hb.2; have := hc.2; omega))
  have HK1 := hid ((o0.block w.heap.size (kbox HK0.out) (fun h => HX.out h.1)).trans HK0.out)
  have HO1 := hid (HB.out.trans (o0.wide (fun _ h => h.1)))
  clear x0 m0 o0 HK0 HM0 HB H0_0 H1_0 H2_0 H3_0 H4_0 H5_0 H6_0
  have x1 : W1.cell? ⟨w.heap.size, 1, none⟩ = some (.slice A.g X.gv.length A.kg) := box_cell HK1.out 1
  go_wp2_with fail
  refine (HM1.out W1 H1_1.out).mono ?_
  rintro e W2 ⟨rfl, m1, o1⟩
  have H0_2 := hid (H0_1.out.keep o1 (fun b hb hc => by have := hb.2; have := hc.2; omega))
  have H1_2 := hid m1
  have H2_2 := hid (H2_1.out.keep o1 (fun b hb hc => by have := hb.2; have := hc.2; omega))
  have H3_2 := hid (H3_1.out.keep o1 (fun b hb hc => by have := hb.2; have := hc.2; omega))
  have H4_2 := hid (H4_1.out.keep o1 (fun b hb hc => by have := hb.2; have := hc.2; omega))
  have H5_2 := hid (H5_1.out.keep o1 (fun b hb hc => by have := hb.2; have := hc.2; omega))
  have H6_2 := hid (H6_1.out.keep o1 (fun b hb hc => by have := hb.2; have := hc.2; omega))
  have HK2 := hid ((o1.block w.heap.size (kbox HK1.out) (fun h => HX.out h.1)).trans HK1.out)
  have HO2 := hid (HO1.out.trans (o1.wide (fun _ h => h.1)))
  clear x1 m1 o1 HK1 HM1 HO1 H0_1 H1_1 H2_1 H3_1 H4_1 H5_1 H6_1
  have x2 : W2.cell? ⟨w.heap.size, 2, none⟩ = some (.slice A.p X.pl.length A.kp) := box_cell HK2.out 2
  go_wp2_with fail
  refine (HM2.out W2 H2_2.out).mono ?_
  rintro e W3 ⟨rfl, m2, o2⟩
  have H0_3 := hid (H0_2.out.keep o2 (fun b hb hc => by have := hb.2; have := hc.2; omega))
  have H1_3 := hid (H1_2.out.keep o2 (fun b hb hc => by have := hb.2; have := hc.2; omega))
  have H2_3 := hid m2
  have H3_3 := hid (H3_2.out.keep o2 (fun b hb hc => by have := hb.2; have := hc.2; omega))
  have H4_3 := hid (H4_2.out.keep o2 (fun b hb hc => by have := hb.2; have := hc.2; omega))
  have H5_3 := hid (H5_2.out.keep o2 (fun b hb hc => by have := hb.2; have := hc.2; omega))
  have H6_3 := hid (H6_2.out.keep o2 (fun b hb hc => by have := hb.2; have := hc.2; omega))
  have HK3 := hid ((o2.block w.heap.size (kbox HK2.out) (fun h => HX.out h.1)).trans HK2.out)
  have HO3 := hid (HO2.out.trans (o2.wide (fun _ h => h.1)))
  clear x2 m2 o2 HK2 HM2 HO2 H0_2 H1_2 H2_2 H3_2 H4_2 H5_2 H6_2
  have x3 : W3.cell? ⟨w.heap.size, 3, none⟩ = some (.slice A.v X.vt.length A.kv) := box_cell HK3.out 3
  go_wp2_with fail
  refine (HM3.out W3 H3_3.out).mono ?_
  rintro e W4 ⟨rfl, m3, o3⟩
  have H0_4 := hid (H0_3.out.keep o3 (fun b hb hc => by have := hb.2; have := hc.2; omega))
  have H1_4 := hid (H1_3.out.keep o3 (fun b hb hc => by have := hb.2; have := hc.2; omega))
  have H2_4 := hid (H2_3.out.keep o3 (fun b hb hc => by have := hb.2; have := hc.2; omega))
  have H3_4 := hid m3
  have H4_4 := hid (H4_3.out.keep o3 (fun b hb hc => by have := hb.2; have := hc.2; omega))
  have H5_4 := hid (H5_3.out.keep o3 (fun b hb hc => by have := hb.2; have := hc.2; omega))
  have H6_4 := hid (H6_3.out.keep o3 (fun b hb hc => by have := hb.2; have := hc.2; omega))
  have HK4 := hid ((o3.block w.heap.size (kbox HK3.out) (fun h => HX.out h.1)).trans HK3.out)
  have HO4 := hid (HO3.out.trans (o3.wide (fun _ h => h.1)))
  clear x3 m3 o3 HK3 HM3 HO3 H0_3 H1_3 H2_3 H3_3 H4_3 H5_3 H6_3
  have x4 : W4.cell? ⟨w.heap.size, 4, none⟩ = some (.slice A.n X.wn.length A.kn) := box_cell HK4.out 4
  go_wp2_with fail
  refine (HM4.out W4 H4_4.out).mono ?_
  rintro e W5 ⟨rfl, m4, o4⟩
  have H0_5 := hid (H0_4.out.keep o4 (fun b hb hc => by have := hb.2; have := hc.2; omega))
  have H1_5 := hid (H1_4.out.keep o4 (fun b hb hc => by have := hb.2; have := hc.2; omega))
  have H2_5 := hid (H2_4.out.keep o4 (fun b hb hc => by have := hb.2; have := hc.2; omega))
  have H3_5 := hid (H3_4.out.keep o4 (fun b hb hc => by have := hb.2; have := hc.2; omega))
  have H4_5 := hid m4
  have H5_5 := hid (H5_4.out.keep o4 (fun b hb hc => by have := hb.2; have := hc.2; omega))
  have H6_5 := hid (H6_4.out.keep o4 (fun b hb hc => by have := hb.2; have := hc.2; omega))
  have HK5 := hid ((o4.block w.heap.size (kbox HK4.out) (fun h => HX.out h.1)).trans HK4.out)
  have HO5 := hid (HO4.out.trans (o4.wide (fun _ h => h.1)))
  clear x4 m4 o4 HK4 HM4 HO4 H0_4 H1_4 H2_4 H3_4 H4_4 H5_4 H6_4
  have x5 : W5.cell? ⟨w.heap.size, 5, none⟩ = some (.slice A.l X.ln.length A.kl) := box_cell HK5.out 5
  go_wp2_with fail
  refine (HM5.out W5 H5_5.out).mono ?_
  rintro e W6 ⟨rfl, m5, o5⟩
  have H0_6 := hid (H0_5.out.keep o5 (fun b hb hc => by have := hb.2; have := hc.2; omega))
  have H1_6 := hid (H1_5.out.keep o5 (fun b hb hc => by have := hb.2; have := hc.2; omega))
  have H2_6 := hid (H2_5.out.keep o5 (fun b hb hc => by have := hb.2; have := hc.2; omega))
  have H3_6 := hid (H3_5.out.keep o5 (fun b hb hc => by have := hb.2; have := hc.2; omega))
  have H4_6 := hid (H4_5.out.keep o5 (fun b hb hc => by have := hb.2; have := hc.2; omega))
  have H5_6 := hid m5
  have H6_6 := hid (H6_5.out.keep o5 (fun b hb hc => by have := hb.2; have := hc.2; omega))
  have HK6 := hid ((o5.block w.heap.size (kbox HK5.out) (fun h => HX.out h.1)).trans HK5.out)
  have HO6 := hid (HO5.out.trans (o5.wide (fun _ h => h.1)))
  clear x5 m5 o5 HK5 HM5 HO5 H0_5 H1_5 H2_5 H3_5 H4_5 H5_5 H6_5
  have x6 : W6.cell? ⟨w.heap.size, 7, none⟩ = some (.slice A.s X.st.length A.ks) := box_cell HK6.out 7
  go_wp2_with fail
  refine (HM6.out W6 H6_6.out).mono ?_
  rintro e W7 ⟨rfl, m6, o6⟩
  have H0_7 := hid (H0_6.out.keep o6 (fun b hb hc => by have := hb.2; have := hc.2; omega))
  have H1_7 := hid (H1_6.out.keep o6 (fun b hb hc => by have := hb.2; have := hc.2; omega))
  have H2_7 := hid (H2_6.out.keep o6 (fun b hb hc => by have := hb.2; have := hc.2; omega))
  have H3_7 := hid (H3_6.out.keep o6 (fun b hb hc => by have := hb.2; have := hc.2; omega))
  have H4_7 := hid (H4_6.out.keep o6 (fun b hb hc => by have := hb.2; have := hc.2; omega))
  have H5_7 := hid (H5_6.out.keep o6 (fun b hb hc => by have := hb.2; have := hc.2; omega))
  have H6_7 := hid m6
  have HK7 := hid ((o6.block w.heap.size (kbox HK6.out) (fun h => HX.out h.1)).trans HK6.out)
  have HO7 := hid (HO6.out.trans (o6.wide (fun _ h => h.1)))
  clear x6 m6 o6 HK6 HM6 HO6 H0_6 H1_6 H2_6 H3_6 H4_6 H5_6 H6_6
  go_wp2_with fail
  go_ret
  exact ⟨rfl, ⟨col, H0_7.out, H1_7.out, H2_7.out, H3_7.out, H4_7.out, H5_7.out, H6_7.out⟩, HO7.out⟩
set_option maxHeartbeats 8000000 in
theorem heldFence_g (A : Af) (X : Fc) (w : World) (hf : FitF X) (h : FR w.heap.size A (fmk X) w) :
    Calls Try.prog 13 #[.agg #[.slice A.j X.jd.length A.kj, .slice A.g X.gv.length A.kg, .slice A.p X.pl.length A.kp, .slice A.v X.vt.length A.kv, .slice A.n X.wn.length A.kn, .slice A.l X.ln.length A.kl, .int .i64 X.sn, .slice A.s X.st.length A.ks], .int .i64 1] w fun e w' => e = .returned (.int .i64 (kF7 X : Nat)) ∧ Below w.heap.size w w' := by
  have HB0 := hid (boxB w (.cells #[.slice A.j X.jd.length A.kj, .slice A.g X.gv.length A.kg, .slice A.p X.pl.length A.kp, .slice A.v X.vt.length A.kv, .slice A.n X.wn.length A.kn, .slice A.l X.ln.length A.kl, .int .i64 X.sn, .slice A.s X.st.length A.ks] 26))
  have HK0 := hid (heap_last w (.cells #[.slice A.j X.jd.length A.kj, .slice A.g X.gv.length A.kg, .slice A.p X.pl.length A.kp, .slice A.v X.vt.length A.kv, .slice A.n X.wn.length A.kn, .slice A.l X.ln.length A.kl, .int .i64 X.sn, .slice A.s X.st.length A.ks] 26))
  have HZ : Hid (∀ v, Below w.heap.size w v → FR v.heap.size A (fmk X) v) := fun v g => h.up g g.size
  have hk := kF_le hf
  have HM0 : Hid (∀ v, Below w.heap.size w v → Calls Try.prog 43 #[.slice A.j X.jd.length A.kj, .int .i64 1] v fun e w' => e = .returned (.int .i64 (kF1 X : Nat)) ∧ Below v.heap.size v w') := fun v g => heldIntS_row A.j A.kj 1 X.jd.length v hf.j (Nat.le_refl _) (by decide) (HZ.out v g).j
  have HM1 : Hid (∀ v, Below w.heap.size w v → Calls Try.prog 43 #[.slice A.g X.gv.length A.kg, .int .i64 ((kF1 X : Nat) : Int)] v fun e w' => e = .returned (.int .i64 (kF2 X : Nat)) ∧ Below v.heap.size v w') := fun v g => heldIntS_row A.g A.kg (kF1 X) X.gv.length v hf.g (by omega) (by omega) (HZ.out v g).g
  have HM2 : Hid (∀ v, Below w.heap.size w v → Calls Try.prog 43 #[.slice A.p X.pl.length A.kp, .int .i64 ((kF2 X : Nat) : Int)] v fun e w' => e = .returned (.int .i64 (kF3 X : Nat)) ∧ Below v.heap.size v w') := fun v g => heldIntS_row A.p A.kp (kF2 X) X.pl.length v hf.p (by omega) (by omega) (HZ.out v g).p
  have HM3 : Hid (∀ v, Below w.heap.size w v → Calls Try.prog 44 #[.slice A.v X.vt.length A.kv, .int .i64 ((kF3 X : Nat) : Int)] v fun e w' => e = .returned (.int .i64 (kF4 X : Nat)) ∧ Below v.heap.size v w') := fun v g => heldIntSS_g A.v A.kv (kF3 X) X.vt v hf.v.1 hf.v.2 (by omega) (by omega) (HZ.out v g).v
  have HM4 : Hid (∀ v, Below w.heap.size w v → Calls Try.prog 44 #[.slice A.n X.wn.length A.kn, .int .i64 ((kF4 X : Nat) : Int)] v fun e w' => e = .returned (.int .i64 (kF5 X : Nat)) ∧ Below v.heap.size v w') := fun v g => heldIntSS_g A.n A.kn (kF4 X) X.wn v hf.n.1 hf.n.2 (by omega) (by omega) (HZ.out v g).n
  have HM5 : Hid (∀ v, Below w.heap.size w v → Calls Try.prog 45 #[.slice A.l X.ln.length A.kl, .int .i64 ((kF5 X : Nat) : Int)] v fun e w' => e = .returned (.int .i64 (kF6 X : Nat)) ∧ Below v.heap.size v w') := fun v g => heldPaperS_row A.l A.kl (kF5 X) X.ln.length v hf.l (by omega) (by omega) (HZ.out v g).l
  have HM6 : Hid (∀ v, Below w.heap.size w v → Calls Try.prog 44 #[.slice A.s X.st.length A.ks, .int .i64 ((kF6 X : Nat) : Int)] v fun e w' => e = .returned (.int .i64 (kF7 X : Nat)) ∧ Below v.heap.size v w') := fun v g => heldIntSS_g A.s A.ks (kF6 X) X.st v hf.s.1 hf.s.2 (by omega) (by omega) (HZ.out v g).s
  have d1 : decide (((kF1 X : Nat) : Int) < 0) = false := decide_eq_false (by omega)
  have d2 : decide (((kF2 X : Nat) : Int) < 0) = false := decide_eq_false (by omega)
  have d3 : decide (((kF3 X : Nat) : Int) < 0) = false := decide_eq_false (by omega)
  have d4 : decide (((kF4 X : Nat) : Int) < 0) = false := decide_eq_false (by omega)
  have d5 : decide (((kF5 X : Nat) : Int) < 0) = false := decide_eq_false (by omega)
  have d6 : decide (((kF6 X : Nat) : Int) < 0) = false := decide_eq_false (by omega)
  have d7 : decide (((kF7 X : Nat) : Int) < 0) = false := decide_eq_false (by omega)
  clear h hf hk HZ
  generalize kF1 X = n1 at *
  generalize kF2 X = n2 at *
  generalize kF3 X = n3 at *
  generalize kF4 X = n4 at *
  generalize kF5 X = n5 at *
  generalize kF6 X = n6 at *
  generalize kF7 X = n7 at *
  go_enter Try.func13, Try.ntmps13
  go_upto_region 1 with fail
  generalize w.alloc (.cells #[.slice A.j X.jd.length A.kj, .slice A.g X.gv.length A.kg, .slice A.p X.pl.length A.kp, .slice A.v X.vt.length A.kv, .slice A.n X.wn.length A.kn, .slice A.l X.ln.length A.kl, .int .i64 X.sn, .slice A.s X.st.length A.ks] 26) = W0 at *
  have x0 : W0.cell? ⟨w.heap.size, 0, none⟩ = some (.slice A.j X.jd.length A.kj) := box_cell HK0.out 0
  go_wp2_with fail
  refine (HM0.out W0 HB0.out).mono ?_
  rintro e W1 ⟨rfl, b0⟩
  have HB1 := hid (HB0.out.trans (b0.mono HB0.out.size))
  have HK1 := hid ((b0.block _ (kbox HK0.out)).trans HK0.out)
  clear x0 b0 HB0 HK0 HM0
  have x1 : W1.cell? ⟨w.heap.size, 1, none⟩ = some (.slice A.g X.gv.length A.kg) := box_cell HK1.out 1
  go_wp2_with fail
  refine (HM1.out W1 HB1.out).mono ?_
  rintro e W2 ⟨rfl, b1⟩
  have HB2 := hid (HB1.out.trans (b1.mono HB1.out.size))
  have HK2 := hid ((b1.block _ (kbox HK1.out)).trans HK1.out)
  clear x1 b1 HB1 HK1 HM1
  have x2 : W2.cell? ⟨w.heap.size, 2, none⟩ = some (.slice A.p X.pl.length A.kp) := box_cell HK2.out 2
  go_wp2_with fail
  refine (HM2.out W2 HB2.out).mono ?_
  rintro e W3 ⟨rfl, b2⟩
  have HB3 := hid (HB2.out.trans (b2.mono HB2.out.size))
  have HK3 := hid ((b2.block _ (kbox HK2.out)).trans HK2.out)
  clear x2 b2 HB2 HK2 HM2
  have x3 : W3.cell? ⟨w.heap.size, 3, none⟩ = some (.slice A.v X.vt.length A.kv) := box_cell HK3.out 3
  go_wp2_with fail
  refine (HM3.out W3 HB3.out).mono ?_
  rintro e W4 ⟨rfl, b3⟩
  have HB4 := hid (HB3.out.trans (b3.mono HB3.out.size))
  have HK4 := hid ((b3.block _ (kbox HK3.out)).trans HK3.out)
  clear x3 b3 HB3 HK3 HM3
  have x4 : W4.cell? ⟨w.heap.size, 4, none⟩ = some (.slice A.n X.wn.length A.kn) := box_cell HK4.out 4
  go_wp2_with fail
  refine (HM4.out W4 HB4.out).mono ?_
  rintro e W5 ⟨rfl, b4⟩
  have HB5 := hid (HB4.out.trans (b4.mono HB4.out.size))
  have HK5 := hid ((b4.block _ (kbox HK4.out)).trans HK4.out)
  clear x4 b4 HB4 HK4 HM4
  have x5 : W5.cell? ⟨w.heap.size, 5, none⟩ = some (.slice A.l X.ln.length A.kl) := box_cell HK5.out 5
  go_wp2_with fail
  refine (HM5.out W5 HB5.out).mono ?_
  rintro e W6 ⟨rfl, b5⟩
  have HB6 := hid (HB5.out.trans (b5.mono HB5.out.size))
  have HK6 := hid ((b5.block _ (kbox HK5.out)).trans HK5.out)
  clear x5 b5 HB5 HK5 HM5
  have x6 : W6.cell? ⟨w.heap.size, 7, none⟩ = some (.slice A.s X.st.length A.ks) := box_cell HK6.out 7
  go_wp2_with fail
  refine (HM6.out W6 HB6.out).mono ?_
  rintro e W7 ⟨rfl, b6⟩
  have HB7 := hid (HB6.out.trans (b6.mono HB6.out.size))
  have HK7 := hid ((b6.block _ (kbox HK6.out)).trans HK6.out)
  clear x6 b6 HB6 HK6 HM6
  go_wp2_with fail
  go_ret
  exact ⟨rfl, HB7.out⟩
end Go.Proofs.Ytikmkkklgdkpaaa

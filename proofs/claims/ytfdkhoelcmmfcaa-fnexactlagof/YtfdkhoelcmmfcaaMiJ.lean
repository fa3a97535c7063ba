/- The program's GoodMirror. -/
import Derived.Test.YtfdkhoelcmmfcaaMiI
namespace Go.Proofs.Ytfdkhoelcmmfcaa
set_option maxRecDepth 100000
open Go Go.ChangeShapes Go.WideShapes Go.ChangeAt Go.RowKit
theorem meth_nl (a : Value) (w : World) : (method 235 77 a "loop.example/g00541/impl.good").run Try.prog w = .ok (109, a) w := by kernel_rfl
theorem meth_sh (a : Value) (w : World) : (method 235 79 a "loop.example/g00541/impl.good").run Try.prog w = .ok (110, a) w := by kernel_rfl
set_option maxHeartbeats 2000000 in
theorem areGoodM_any (s r : Option Addr) (ks kr : Nat) (S R : List Ly) (w : World) (fS : FitK S) (fR : FitK R) (hS : Ys w.heap.size s S w) (hR : Ys w.heap.size r R w) :
    Calls Try.prog 43 #[.agg #[.slice s S.length ks], .agg #[.slice r R.length kr]] w fun e w' => e = .returned (.bool (goodK S && goodK R)) ∧ Below w.heap.size w w' := by
  have b0 : Below w.heap.size w ((w.alloc (.cells #[.slice s S.length ks] 24)).alloc (.cells #[.slice r R.length kr] 24)) := (boxB _ _).trans ((boxB _ _).mono (boxB _ _).size)
  have k0 : ((w.alloc (.cells #[.slice s S.length ks] 24)).alloc (.cells #[.slice r R.length kr] 24)).heap[w.heap.size]? = some (.cells #[.slice s S.length ks] 24) := heap_mid2 _ _ _
  have k1 : ((w.alloc (.cells #[.slice s S.length ks] 24)).alloc (.cells #[.slice r R.length kr] 24)).heap[w.heap.size + 1]? = some (.cells #[.slice r R.length kr] 24) := heap_last2 _ _ _
  generalize hW : (w.alloc (.cells #[.slice s S.length ks] 24)).alloc (.cells #[.slice r R.length kr] 24) = W at *
  have HX : Hid (∀ v, Below W.heap.size W v → v.cell? ⟨w.heap.size, 0, none⟩ = some (.slice s S.length ks) ∧ v.cell? ⟨w.heap.size + 1, 0, none⟩ = some (.slice r R.length kr)) := fun v g => ⟨box_cell ((g.block _ (kbox k0)).trans k0) 0, box_cell ((g.block _ (kbox k1)).trans k1) 0⟩
  have HU : Hid (∀ v, Below W.heap.size W v → Below w.heap.size w v) := fun v g => b0.trans (g.mono b0.size)
  have B0 : Hid (Below W.heap.size W W) := Below.refl _ _
  obtain ⟨x0, x1⟩ := HX.out _ B0.out
  have HG1 : Hid (∀ v, Below W.heap.size W v → Calls Try.prog 59 #[.agg #[.slice s S.length ks]] v fun e w' => e = .returned (.bool (goodK S)) ∧ Below v.heap.size v w') := fun v g => igoodK_any s ks S v fS.bl ((hS.below (HU.out v g)).mono (HU.out v g).size)
  have HG2 : Hid (∀ v, Below W.heap.size W v → Calls Try.prog 59 #[.agg #[.slice r R.length kr]] v fun e w' => e = .returned (.bool (goodK R)) ∧ Below v.heap.size v w') := fun v g => igoodK_any r kr R v fR.bl ((hR.below (HU.out v g)).mono (HU.out v g).size)
  clear hS hR k0 k1 b0 fS fR
  generalize goodK S = q1 at *
  generalize goodK R = q2 at *
  go_enter Try.func43, Try.ntmps43
  go_wp2_with fail
  clear hW
  refine (HG1.out _ B0.out).mono ?_
  rintro e w1 ⟨rfl, g1⟩
  have B1 : Hid (Below W.heap.size W w1) := B0.out.trans (g1.mono B0.out.size)
  clear g1 x0 x1
  obtain ⟨x0, x1⟩ := HX.out _ B1.out
  cases q1
  · go_wp2_with fail
    go_ret
    exact ⟨rfl, HU.out _ B1.out⟩
  go_wp2_with fail
  refine (HG2.out _ B1.out).mono ?_
  rintro e w2 ⟨rfl, g2⟩
  have B2 : Hid (Below W.heap.size W w2) := B1.out.trans (g2.mono B1.out.size)
  clear g2 x0 x1
  obtain ⟨x0, x1⟩ := HX.out _ B2.out
  go_wp2_with fail
  go_ret
  exact ⟨by simp, HU.out _ B2.out⟩
set_option maxHeartbeats 2000000 in
theorem loadOf_none (s r t d : Option Addr) (ks kr kt kd : Nat) (S R : List Ly) (st : List Int) (dt : List ByteArray) (tx he : Int) (w : World) (h : tx = 0) :
    Calls Try.prog 47 #[.agg #[.slice s S.length ks, .slice r R.length kr, .slice t st.length kt, .slice d dt.length kd, .int .i64 tx, .int .i64 he]] w fun e w' => e = .returned (.iface 77 (.agg #[])) ∧ Below w.heap.size w w' := by
  subst h
  obtain ⟨k0, b0⟩ := alloc1 w (.cells #[.slice s S.length ks, .slice r R.length kr, .slice t st.length kt, .slice d dt.length kd, .int .i64 0, .int .i64 he] 28)
  generalize hW : w.alloc (.cells #[.slice s S.length ks, .slice r R.length kr, .slice t st.length kt, .slice d dt.length kd, .int .i64 0, .int .i64 he] 28) = W at *
  have x4 := box_cell k0 4
  have HB := hid b0
  clear k0 b0
  go_enter Try.func47, Try.ntmps47
  go_wp2_with fail
  go_ret
  exact ⟨rfl, HB.out⟩
set_option maxHeartbeats 2000000 in
theorem loadOf_some (s r t d : Option Addr) (ks kr kt kd : Nat) (S R : List Ly) (st : List Int) (dt : List ByteArray) (tx he : Int) (w : World) (h : ¬ tx = 0) :
    Calls Try.prog 47 #[.agg #[.slice s S.length ks, .slice r R.length kr, .slice t st.length kt, .slice d dt.length kd, .int .i64 tx, .int .i64 he]] w fun e w' => e = .returned (.iface 79 (.agg #[.int .i64 tx, .slice t st.length kt, .slice d dt.length kd])) ∧ Below w.heap.size w w' := by
  obtain ⟨k0, b0⟩ := alloc1 w (.cells #[.slice s S.length ks, .slice r R.length kr, .slice t st.length kt, .slice d dt.length kd, .int .i64 tx, .int .i64 he] 28)
  generalize hW : w.alloc (.cells #[.slice s S.length ks, .slice r R.length kr, .slice t st.length kt, .slice d dt.length kd, .int .i64 tx, .int .i64 he] 28) = W at *
  have x2 := box_cell k0 2
  have x3 := box_cell k0 3
  have x4 := box_cell k0 4
  have HB := hid b0
  have d1a : ((tx : Int) == (0 : Int)) = false := beq_eq_false_iff_ne.2 (by omega)
  have d1b : ((tx : Int) != (0 : Int)) = true := by rw [bne, d1a]; rfl
  have d1c : decide ((tx : Int) = (0 : Int)) = false := decide_eq_false (by omega)
  clear k0 b0 h
  go_enter Try.func47, Try.ntmps47
  go_wp2_with fail
  go_ret
  exact ⟨rfl, HB.out⟩
set_option maxHeartbeats 4000000 in
theorem noLoad_good_any (s r t d : Option Addr) (ks kr kt kd : Nat) (S R : List Ly) (st : List Int) (dt : List ByteArray) (tx he : Int) (w : World) (h2 : R.length = 2) (hR : Ys w.heap.size r R w) :
    Calls Try.prog 109 #[.agg #[], .agg #[.slice s S.length ks, .slice r R.length kr, .slice t st.length kt, .slice d dt.length kd, .int .i64 tx, .int .i64 he]] w fun e w' => e = .returned (.bool (decide (st.length = 0 ∧ dt.length = 0 ∧ (bl1 R).length = 0))) ∧ Below w.heap.size w w' := by
  have b0 : Below w.heap.size w ((w.alloc (.cells #[] 77)).alloc (.cells #[.slice s S.length ks, .slice r R.length kr, .slice t st.length kt, .slice d dt.length kd, .int .i64 tx, .int .i64 he] 28)) := (boxB _ _).trans ((boxB _ _).mono (boxB _ _).size)
  have k0 : ((w.alloc (.cells #[] 77)).alloc (.cells #[.slice s S.length ks, .slice r R.length kr, .slice t st.length kt, .slice d dt.length kd, .int .i64 tx, .int .i64 he] 28)).heap[w.heap.size + 1]? = some (.cells #[.slice s S.length ks, .slice r R.length kr, .slice t st.length kt, .slice d dt.length kd, .int .i64 tx, .int .i64 he] 28) := heap_last2 _ _ _
  generalize hW : (w.alloc (.cells #[] 77)).alloc (.cells #[.slice s S.length ks, .slice r R.length kr, .slice t st.length kt, .slice d dt.length kd, .int .i64 tx, .int .i64 he] 28) = W at *
  obtain ⟨rb, off, rfl, hrb, hrc⟩ := (hR.below b0) (by omega)
  obtain ⟨p1, c1, q1, e1, -, r11, -, -, -⟩ := hrc 1 (by omega)
  rw [← bl1_at (by omega)] at r11
  simp only [Nat.one_mul] at r11
  have hr1 : 1 < R.length := by omega
  obtain ⟨o, ho⟩ : ∃ o, decide (st.length = 0 ∧ dt.length = 0 ∧ (bl1 R).length = 0) = o := ⟨_, rfl⟩
  have HO := hid ho
  rw [ho]
  have x1 := box_cell k0 1
  have x2 := box_cell k0 2
  have x3 := box_cell k0 3
  have HB := hid b0
  clear k0 b0 hrc hR ho h2
  generalize bl1 R = B1 at *
  generalize st.length = a at *
  generalize dt.length = b at *
  generalize B1.length = c at *
  go_enter Try.func109, Try.ntmps109
  by_cases ha : a = 0
  case neg =>
    have E : Hid (o = false) := by show o = false; rw [← HO.out]; exact decide_eq_false (fun h => ha h.1)
    have d1a : (((a : Nat) : Int) == (0 : Int)) = false := beq_eq_false_iff_ne.2 (by omega)
    have d1b : (((a : Nat) : Int) != (0 : Int)) = true := by rw [bne, d1a]; rfl
    have d1c : decide (((a : Nat) : Int) = (0 : Int)) = false := decide_eq_false (by omega)
    have d1d : decide (a = 0) = false := decide_eq_false ha
    have d1e : (a == 0) = false := beq_eq_false_iff_ne.2 ha
    go_wp2_with fail
    go_ret
    exact ⟨by rw [E.out] <;> rfl, HB.out⟩
  have d1a : (((a : Nat) : Int) == (0 : Int)) = true := beq_iff_eq.2 (by omega)
  have d1b : (((a : Nat) : Int) != (0 : Int)) = false := by rw [bne, d1a]; rfl
  have d1c : decide (((a : Nat) : Int) = (0 : Int)) = true := decide_eq_true (by omega)
  have d1d : decide (a = 0) = true := decide_eq_true ha
  have d1e : (a == 0) = true := beq_iff_eq.2 ha
  by_cases hb : b = 0
  case neg =>
    have E : Hid (o = false) := by show o = false; rw [← HO.out]; exact decide_eq_false (fun h => hb h.2.1)
    have d2a : (((b : Nat) : Int) == (0 : Int)) = false := beq_eq_false_iff_ne.2 (by omega)
    have d2b : (((b : Nat) : Int) != (0 : Int)) = true := by rw [bne, d2a]; rfl
    have d2c : decide (((b : Nat) : Int) = (0 : Int)) = false := decide_eq_false (by omega)
    have d2d : decide (b = 0) = false := decide_eq_false hb
    have d2e : (b == 0) = false := beq_eq_false_iff_ne.2 hb
    clear ha
    go_wp2_with fail
    go_ret
    exact ⟨by rw [E.out] <;> rfl, HB.out⟩
  have d2a : (((b : Nat) : Int) == (0 : Int)) = true := beq_iff_eq.2 (by omega)
  have d2b : (((b : Nat) : Int) != (0 : Int)) = false := by rw [bne, d2a]; rfl
  have d2c : decide (((b : Nat) : Int) = (0 : Int)) = true := decide_eq_true (by omega)
  have d2d : decide (b = 0) = true := decide_eq_true hb
  have d2e : (b == 0) = true := beq_iff_eq.2 hb
  by_cases hc : c = 0
  case neg =>
    have E : Hid (o = false) := by show o = false; rw [← HO.out]; exact decide_eq_false (fun h => hc h.2.2)
    have d3a : (((c : Nat) : Int) == (0 : Int)) = false := beq_eq_false_iff_ne.2 (by omega)
    have d3b : (((c : Nat) : Int) != (0 : Int)) = true := by rw [bne, d3a]; rfl
    have d3c : decide (((c : Nat) : Int) = (0 : Int)) = false := decide_eq_false (by omega)
    have d3d : decide (c = 0) = false := decide_eq_false hc
    have d3e : (c == 0) = false := beq_eq_false_iff_ne.2 hc
    clear ha hb
    go_wp2_with fail
    go_ret
    exact ⟨by rw [E.out] <;> rfl, HB.out⟩
  have d3a : (((c : Nat) : Int) == (0 : Int)) = true := beq_iff_eq.2 (by omega)
  have d3b : (((c : Nat) : Int) != (0 : Int)) = false := by rw [bne, d3a]; rfl
  have d3c : decide (((c : Nat) : Int) = (0 : Int)) = true := decide_eq_true (by omega)
  have d3d : decide (c = 0) = true := decide_eq_true hc
  have d3e : (c == 0) = true := beq_iff_eq.2 hc
  have E : Hid (o = true) := by show o = true; rw [← HO.out]; exact decide_eq_true ⟨ha, hb, hc⟩
  clear ha hb hc
  go_wp2_with fail
  go_ret
  exact ⟨by rw [E.out] <;> rfl, HB.out⟩
set_option maxHeartbeats 8000000 in
theorem shipment_good_any (s r t d : Option Addr) (ks kr kt kd : Nat) (S R : List Ly) (st : List Int) (dt : List ByteArray) (tx he : Int) (w : World) (hz : ¬ tx = 0) (hgS : GoodK S) (h0 : 0 < R.length) (nt : st.length ≤ 1048576) (hS : Ys w.heap.size s S w) (hR : Ys w.heap.size r R w) (ht : Is w.heap.size t st w) (hd : Ss w.heap.size d dt w) :
    Calls Try.prog 110 #[.agg #[.int .i64 tx, .slice t st.length kt, .slice d dt.length kd], .agg #[.slice s S.length ks, .slice r R.length kr, .slice t st.length kt, .slice d dt.length kd, .int .i64 tx, .int .i64 he]] w fun e w' => e = .returned (.bool (decide (tx = nextM S (mk0 R) ∧ 0 < st.length ∧ lyOk ⟨tx, st, dt⟩))) ∧ Below w.heap.size w w' := by
  have b0 : Below w.heap.size w ((w.alloc (.cells #[.int .i64 tx, .slice t st.length kt, .slice d dt.length kd] 79)).alloc (.cells #[.slice s S.length ks, .slice r R.length kr, .slice t st.length kt, .slice d dt.length kd, .int .i64 tx, .int .i64 he] 28)) := (boxB _ _).trans ((boxB _ _).mono (boxB _ _).size)
  have k0 : ((w.alloc (.cells #[.int .i64 tx, .slice t st.length kt, .slice d dt.length kd] 79)).alloc (.cells #[.slice s S.length ks, .slice r R.length kr, .slice t st.length kt, .slice d dt.length kd, .int .i64 tx, .int .i64 he] 28)).heap[w.heap.size]? = some (.cells #[.int .i64 tx, .slice t st.length kt, .slice d dt.length kd] 79) := heap_mid2 _ _ _
  have k1 : ((w.alloc (.cells #[.int .i64 tx, .slice t st.length kt, .slice d dt.length kd] 79)).alloc (.cells #[.slice s S.length ks, .slice r R.length kr, .slice t st.length kt, .slice d dt.length kd, .int .i64 tx, .int .i64 he] 28)).heap[w.heap.size + 1]? = some (.cells #[.slice s S.length ks, .slice r R.length kr, .slice t st.length kt, .slice d dt.length kd, .int .i64 tx, .int .i64 he] 28) := heap_last2 _ _ _
  generalize hW : (w.alloc (.cells #[.int .i64 tx, .slice t st.length kt, .slice d dt.length kd] 79)).alloc (.cells #[.slice s S.length ks, .slice r R.length kr, .slice t st.length kt, .slice d dt.length kd, .int .i64 tx, .int .i64 he] 28) = W at *
  have HX : Hid (∀ v, Below W.heap.size W v → v.cell? ⟨w.heap.size + 1, 0, none⟩ = some (.slice s S.length ks) ∧ v.cell? ⟨w.heap.size + 1, 1, none⟩ = some (.slice r R.length kr) ∧ v.cell? ⟨w.heap.size + 1, 2, none⟩ = some (.slice t st.length kt) ∧ v.cell? ⟨w.heap.size + 1, 3, none⟩ = some (.slice d dt.length kd) ∧ v.cell? ⟨w.heap.size + 1, 4, none⟩ = some (.int .i64 tx) ∧ v.cell? ⟨w.heap.size + 1, 5, none⟩ = some (.int .i64 he)) := fun v g => by
    have h1 := (g.block _ (kbox k1)).trans k1
    exact ⟨box_cell h1 0, box_cell h1 1, box_cell h1 2, box_cell h1 3, box_cell h1 4, box_cell h1 5⟩
  have HZ : Hid (∀ v, Below W.heap.size W v → v.cell? ⟨w.heap.size, 0, none⟩ = some (.int .i64 tx) ∧ v.cell? ⟨w.heap.size, 1, none⟩ = some (.slice t st.length kt) ∧ v.cell? ⟨w.heap.size, 2, none⟩ = some (.slice d dt.length kd)) := fun v g => by
    have h1 := (g.block _ (kbox k0)).trans k0
    exact ⟨box_cell h1 0, box_cell h1 1, box_cell h1 2⟩
  have HU : Hid (∀ v, Below W.heap.size W v → Below w.heap.size w v) := fun v g => b0.trans (g.mono b0.size)
  have HML : Hid (Calls Try.prog 49 #[.agg #[.slice s S.length ks, .slice r R.length kr, .slice t st.length kt, .slice d dt.length kd, .int .i64 tx, .int .i64 he]] W fun e w' => ∃ v, e = .returned v ∧ AL W.heap.size v (lackL S (mk0 R)) w' ∧ Below W.heap.size W w') := marksLacked_any s r t d ks kr kt kd S R st dt tx he W hgS h0 ((hS.below b0).mono b0.size) ((hR.below b0).mono b0.size)
  have HGL : Hid (∀ v, Below W.heap.size W v → Calls Try.prog 67 #[.agg #[.int .i64 tx, .slice t st.length kt, .slice d dt.length kd]] v fun e w' => e = .returned (.bool (decide (lyOk ⟨tx, st, dt⟩))) ∧ Below v.heap.size v w') := fun v g => goodLayer_any t d kt kd tx st dt v nt ((ht.below (HU.out v g)).mono (HU.out v g).size) ((hd.below (HU.out v g)).mono (HU.out v g).size)
  obtain ⟨o, ho⟩ : ∃ o, decide (tx = nextM S (mk0 R) ∧ 0 < st.length ∧ lyOk ⟨tx, st, dt⟩) = o := ⟨_, rfl⟩
  have HNO : Hid (¬ (tx = nextM S (mk0 R) ∧ 0 < st.length ∧ lyOk ⟨tx, st, dt⟩) → o = false) := fun h => ho.symm.trans (decide_eq_false h)
  have HYES : Hid (tx = nextM S (mk0 R) → 0 < st.length → lyOk ⟨tx, st, dt⟩ → o = true) := fun h1 h2 h3 => ho.symm.trans (decide_eq_true ⟨h1, h2, h3⟩)
  have HN : Hid (nextM S (mk0 R) = (lackL S (mk0 R)).headD 0) := rfl
  rw [ho]
  have HB0 := hid b0
  have B0 : Hid (Below W.heap.size W W) := Below.refl _ _
  obtain ⟨x0, x1, x2, x3, x4, x5⟩ := HX.out _ B0.out
  have HTZ := hid hz
  clear hS hR ht hd k0 k1 b0 ho hgS nt hz
  generalize nextM S (mk0 R) = nx at *
  generalize lackL S (mk0 R) = L at *
  go_enter Try.func110, Try.ntmps110
  go_wp2_with fail
  clear hW
  refine HML.out.mono ?_
  rintro e w1 ⟨v, rfl, hal, g1⟩
  have B1 : Hid (Below W.heap.size W w1) := g1
  obtain ⟨p, cp, rfl, hown, -⟩ := hal.own
  have HIL := hid hown.is
  clear g1 hal hown HML x0 x1 x2 x3 x4 x5
  go_upto_region 2 with fail
  have hz0 : ∀ v : Gw w1, v.v.cell? ⟨w.heap.size, 0, none⟩ = some (.int .i64 tx) := fun v => (HZ.out _ (B1.out.trans (v.b.mono B1.out.size))).1
  have hz1 : ∀ v : Gw w1, v.v.cell? ⟨w.heap.size, 1, none⟩ = some (.slice t st.length kt) := fun v => (HZ.out _ (B1.out.trans (v.b.mono B1.out.size))).2.1
  have hz2 : ∀ v : Gw w1, v.v.cell? ⟨w.heap.size, 2, none⟩ = some (.slice d dt.length kd) := fun v => (HZ.out _ (B1.out.trans (v.b.mono B1.out.size))).2.2
  have P1 : Hid (∀ v : Gw w1, Calls Try.prog 67 #[.agg #[.int .i64 tx, .slice t st.length kt, .slice d dt.length kd]] v.v fun e w'' => e = .returned (.bool (decide (lyOk ⟨tx, st, dt⟩))) ∧ ∃ s' : Gw w1, w'' = s'.v) := fun v => grown_of (HGL.out v.v (B1.out.trans (v.b.mono B1.out.size)))
  have hne : Nonempty (Gw w1) := ⟨⟨w1, Below.refl _ _⟩⟩
  have hcl : ∀ v : Gw w1, ∃ s' : Gw w1, v.v = s'.v := fun v => ⟨v, rfl⟩
  by_cases q0 : 0 < L.length
  case neg =>
    have e0 : L = [] := List.eq_nil_of_length_eq_zero (by omega)
    have E : Hid (o = false) := HNO.out (fun h => by have := h.1; rw [HN.out, e0] at this; exact HTZ.out this)
    have d1 : decide ((0 : Int) < ((L.length : Nat) : Int)) = false := decide_eq_false (by omega)
    have d1b : decide (0 < L.length) = false := decide_eq_false q0
    clear e0
    refine region_grown w1 (Below.refl _ _) (by kernel_rfl) (by kernel_rfl) ?_
    repeat (go_big_quiet_step (fail))
    refine wpQuiet_nil ?_
    rintro _ ⟨v, rfl⟩
    have Hv := hid (HU.out _ (B1.out.trans (v.b.mono B1.out.size)))
    clear hz0 hz1 hz2 P1 hne hcl
    go_wp2_with fail
    go_ret
    exact ⟨by rw [E.out] <;> rfl, Hv.out⟩
  have d1 : decide ((0 : Int) < ((L.length : Nat) : Int)) = true := decide_eq_true (by omega)
  have d1b : decide (0 < L.length) = true := decide_eq_true q0
  obtain ⟨lb, lof, rfl, hlb, hlc⟩ := HIL.out.cell q0
  have c0 := hlc 0 q0
  have hnx : nx = L[0] := by
    have h1 := HN.out
    match L, q0, h1 with
    | x :: l, _, h1 => exact h1
  rw [← hnx] at c0
  simp only [Nat.add_zero] at c0
  have hc0 : ∀ v : Gw w1, v.v.cell? ⟨lb, lof, none⟩ = some (.int .i64 nx) := fun v => (v.b.cell (p := ⟨lb, lof, none⟩) hlb).trans c0
  clear hlc hnx c0
  by_cases q1 : tx = nx
  case neg =>
    have E : Hid (o = false) := HNO.out (fun h => q1 h.1)
    have d2a : ((tx : Int) == (nx : Int)) = false := beq_eq_false_iff_ne.2 (by omega)
    have d2b : ((tx : Int) != (nx : Int)) = true := by rw [bne, d2a]; rfl
    have d2c : decide ((tx : Int) = (nx : Int)) = false := decide_eq_false (by omega)
    clear q1
    refine region_grown w1 (Below.refl _ _) (by kernel_rfl) (by kernel_rfl) ?_
    repeat (go_big_quiet_step (fail))
    refine wpQuiet_nil ?_
    rintro _ ⟨v, rfl⟩
    have Hv := hid (HU.out _ (B1.out.trans (v.b.mono B1.out.size)))
    clear hz0 hz1 hz2 P1 hne hcl hc0
    go_wp2_with fail
    go_ret
    exact ⟨by rw [E.out] <;> rfl, Hv.out⟩
  have d2a : ((tx : Int) == (nx : Int)) = true := beq_iff_eq.2 (by omega)
  have d2b : ((tx : Int) != (nx : Int)) = false := by rw [bne, d2a]; rfl
  have d2c : decide ((tx : Int) = (nx : Int)) = true := decide_eq_true (by omega)
  by_cases q2 : 0 < st.length
  case neg =>
    have E : Hid (o = false) := HNO.out (fun h => q2 h.2.1)
    have d3 : decide ((0 : Int) < ((st.length : Nat) : Int)) = false := decide_eq_false (by omega)
    have d3b : decide (0 < st.length) = false := decide_eq_false q2
    clear q1
    refine region_grown w1 (Below.refl _ _) (by kernel_rfl) (by kernel_rfl) ?_
    repeat (go_big_quiet_step (fail))
    refine wpQuiet_nil ?_
    rintro _ ⟨v, rfl⟩
    have Hv := hid (HU.out _ (B1.out.trans (v.b.mono B1.out.size)))
    clear hz0 hz1 hz2 P1 hne hcl hc0
    go_wp2_with fail
    go_ret
    exact ⟨by rw [E.out] <;> rfl, Hv.out⟩
  have d3 : decide ((0 : Int) < ((st.length : Nat) : Int)) = true := decide_eq_true (by omega)
  have d3b : decide (0 < st.length) = true := decide_eq_true q2
  by_cases q3 : lyOk ⟨tx, st, dt⟩
  case neg =>
    have E : Hid (o = false) := HNO.out (fun h => q3 h.2.2)
    rw [decide_eq_false q3] at P1
    clear q1
    refine region_grown w1 (Below.refl _ _) (by kernel_rfl) (by kernel_rfl) ?_
    repeat (go_big_quiet_step ((go_at_call 67; with_reducible exact P1.out _)))
    refine wpQuiet_nil ?_
    rintro _ ⟨v, rfl⟩
    have Hv := hid (HU.out _ (B1.out.trans (v.b.mono B1.out.size)))
    clear hz0 hz1 hz2 P1 hne hcl hc0
    go_wp2_with fail
    go_ret
    exact ⟨by rw [E.out] <;> rfl, Hv.out⟩
  have E : Hid (o = true) := HYES.out q1 q2 q3
  rw [decide_eq_true q3] at P1
  clear q1
  refine region_grown w1 (Below.refl _ _) (by kernel_rfl) (by kernel_rfl) ?_
  repeat (go_big_quiet_step ((go_at_call 67; with_reducible exact P1.out _)))
  refine wpQuiet_nil ?_
  rintro _ ⟨v, rfl⟩
  have Hv := hid (HU.out _ (B1.out.trans (v.b.mono B1.out.size)))
  clear hz0 hz1 hz2 P1 hne hcl hc0
  go_wp2_with fail
  go_ret
  exact ⟨by rw [E.out] <;> rfl, Hv.out⟩
set_option maxHeartbeats 8000000 in
theorem igoodMi_any (s r t d : Option Addr) (ks kr kt kd : Nat) (S R : List Ly) (st : List Int) (dt : List ByteArray) (tx he : Int) (w : World) (fS : FitK S) (fR : FitK R) (nt : st.length ≤ 1048576) (hS : Ys w.heap.size s S w) (hR : Ys w.heap.size r R w) (ht : Is w.heap.size t st w) (hd : Ss w.heap.size d dt w) :
    Calls Try.prog 15 #[.agg #[.slice s S.length ks, .slice r R.length kr, .slice t st.length kt, .slice d dt.length kd, .int .i64 tx, .int .i64 he]] w fun e w' => e = .returned (.bool (decide (GoodMi S R st dt tx he))) ∧ Below w.heap.size w w' := by
  obtain ⟨k0, b0⟩ := alloc1 w (.cells #[.slice s S.length ks, .slice r R.length kr, .slice t st.length kt, .slice d dt.length kd, .int .i64 tx, .int .i64 he] 28)
  generalize hW : w.alloc (.cells #[.slice s S.length ks, .slice r R.length kr, .slice t st.length kt, .slice d dt.length kd, .int .i64 tx, .int .i64 he] 28) = W at *
  have HX : Hid (∀ v, Below W.heap.size W v → v.cell? ⟨w.heap.size, 0, none⟩ = some (.slice s S.length ks) ∧ v.cell? ⟨w.heap.size, 1, none⟩ = some (.slice r R.length kr) ∧ v.cell? ⟨w.heap.size, 2, none⟩ = some (.slice t st.length kt) ∧ v.cell? ⟨w.heap.size, 3, none⟩ = some (.slice d dt.length kd) ∧ v.cell? ⟨w.heap.size, 4, none⟩ = some (.int .i64 tx) ∧ v.cell? ⟨w.heap.size, 5, none⟩ = some (.int .i64 he)) := fun v g => by
    have h1 := (g.block _ (Array.getElem?_eq_some_iff.1 k0).1).trans k0
    exact ⟨box_cell h1 0, box_cell h1 1, box_cell h1 2, box_cell h1 3, box_cell h1 4, box_cell h1 5⟩
  have HU : Hid (∀ v, Below W.heap.size W v → Below w.heap.size w v) := fun v g => b0.trans (g.mono b0.size)
  have B0 : Hid (Below W.heap.size W W) := Below.refl _ _
  have HYS : Hid (∀ v, Below W.heap.size W v → Ys v.heap.size s S v) := fun v g => (hS.below (HU.out v g)).mono (HU.out v g).size
  have HYR : Hid (∀ v, Below W.heap.size W v → Ys v.heap.size r R v) := fun v g => (hR.below (HU.out v g)).mono (HU.out v g).size
  have HIT : Hid (∀ v, Below W.heap.size W v → Is v.heap.size t st v) := fun v g => (ht.below (HU.out v g)).mono (HU.out v g).size
  have HSD : Hid (∀ v, Below W.heap.size W v → Ss v.heap.size d dt v) := fun v g => (hd.below (HU.out v g)).mono (HU.out v g).size
  have HAG : Hid (Calls Try.prog 43 #[.agg #[.slice s S.length ks], .agg #[.slice r R.length kr]] W fun e w' => e = .returned (.bool (goodK S && goodK R)) ∧ Below W.heap.size W w') := areGoodM_any s r ks kr S R W fS fR (HYS.out _ B0.out) (HYR.out _ B0.out)
  have HIP : Hid (GoodK R → ∀ v, Below W.heap.size W v → Calls Try.prog 44 #[.agg #[.slice r R.length kr]] v fun e w' => e = .returned (.bool (decide (R.length = 2 ∧ mk1 R = mk0 R + 1))) ∧ Below v.heap.size v w') := fun h v g => isPair_any r kr R v h (HYR.out v g)
  have HFM : Hid (0 < R.length → ∀ v, Below W.heap.size W v → Calls Try.prog 45 #[.agg #[.slice r R.length kr]] v fun e w' => e = .returned (.int .i64 (mk0 R)) ∧ Below v.heap.size v w') := fun h v g => firstMark_any r kr R v h (HYR.out v g)
  have HIS : Hid (GoodK S → ∀ (m : Int) v, Below W.heap.size W v → Calls Try.prog 46 #[.agg #[.slice s S.length ks], .int .i64 m] v fun e w' => e = .returned (.bool (setM S m)) ∧ Below v.heap.size v w') := fun h m v g => isSet_any s ks S m v h (HYS.out v g)
  have HL0 : Hid (tx = 0 → ∀ v, Calls Try.prog 47 #[.agg #[.slice s S.length ks, .slice r R.length kr, .slice t st.length kt, .slice d dt.length kd, .int .i64 tx, .int .i64 he]] v fun e w' => e = .returned (.iface 77 (.agg #[])) ∧ Below v.heap.size v w') := fun h v => loadOf_none s r t d ks kr kt kd S R st dt tx he v h
  have HL1 : Hid (¬ tx = 0 → ∀ v, Calls Try.prog 47 #[.agg #[.slice s S.length ks, .slice r R.length kr, .slice t st.length kt, .slice d dt.length kd, .int .i64 tx, .int .i64 he]] v fun e w' => e = .returned (.iface 79 (.agg #[.int .i64 tx, .slice t st.length kt, .slice d dt.length kd])) ∧ Below v.heap.size v w') := fun h v => loadOf_some s r t d ks kr kt kd S R st dt tx he v h
  have HN0 : Hid (R.length = 2 → ∀ v, Below W.heap.size W v → Calls Try.prog 109 #[.agg #[], .agg #[.slice s S.length ks, .slice r R.length kr, .slice t st.length kt, .slice d dt.length kd, .int .i64 tx, .int .i64 he]] v fun e w' => e = .returned (.bool (decide (st.length = 0 ∧ dt.length = 0 ∧ (bl1 R).length = 0))) ∧ Below v.heap.size v w') := fun h v g => noLoad_good_any s r t d ks kr kt kd S R st dt tx he v h (HYR.out v g)
  have HS0 : Hid (¬ tx = 0 → GoodK S → 0 < R.length → ∀ v, Below W.heap.size W v → Calls Try.prog 110 #[.agg #[.int .i64 tx, .slice t st.length kt, .slice d dt.length kd], .agg #[.slice s S.length ks, .slice r R.length kr, .slice t st.length kt, .slice d dt.length kd, .int .i64 tx, .int .i64 he]] v fun e w' => e = .returned (.bool (decide (tx = nextM S (mk0 R) ∧ 0 < st.length ∧ lyOk ⟨tx, st, dt⟩))) ∧ Below v.heap.size v w') := fun h1 h2 h3 v g => shipment_good_any s r t d ks kr kt kd S R st dt tx he v h1 h2 h3 nt (HYS.out v g) (HYR.out v g) (HIT.out v g) (HSD.out v g)
  obtain ⟨o, ho⟩ : ∃ o, decide (GoodMi S R st dt tx he) = o := ⟨_, rfl⟩
  have HNO : Hid (¬ GoodMi S R st dt tx he → o = false) := fun h => ho.symm.trans (decide_eq_false h)
  have HYES : Hid (GoodMi S R st dt tx he → o = true) := fun h => ho.symm.trans (decide_eq_true h)
  rw [ho]
  obtain ⟨x0, x1, x2, x3, x4, x5⟩ := HX.out _ B0.out
  clear hS hR ht hd k0 b0 ho fS fR nt HIT HSD HYS HYR
  go_enter Try.func15, Try.ntmps15
  go_wp2_with fail
  clear hW
  refine HAG.out.mono ?_
  rintro e w1 ⟨rfl, g1⟩
  have B1 : Hid (Below W.heap.size W w1) := g1
  clear g1 HAG x0 x1 x2 x3 x4 x5
  obtain ⟨x0, x1, x2, x3, x4, x5⟩ := HX.out _ B1.out
  by_cases gS : GoodK S
  case neg =>
    have E := hid (HNO.out (fun h => gS h.1.1))
    rw [goodK_no gS, Bool.false_and]
    clear gS
    go_wp2_with fail
    go_ret
    exact ⟨by rw [E.out] <;> rfl, HU.out _ B1.out⟩
  by_cases gR : GoodK R
  case neg =>
    have E := hid (HNO.out (fun h => gR h.1.2.1))
    rw [goodK_no gR, Bool.and_false]
    clear gS gR
    go_wp2_with fail
    go_ret
    exact ⟨by rw [E.out] <;> rfl, HU.out _ B1.out⟩
  rw [goodK_iff.2 gS, goodK_iff.2 gR, Bool.true_and]
  have HIP1 := hid (HIP.out gR)
  have HIS1 := hid (HIS.out gS)
  have GG := hid (And.intro gS gR)
  have hr0 : 0 < R.length := gR.1
  have HFM1 := hid (HFM.out hr0)
  clear gS gR HIP HIS HFM
  go_wp2_with fail
  refine (HIP1.out _ B1.out).mono ?_
  rintro e w2 ⟨rfl, g2⟩
  have B2 : Hid (Below W.heap.size W w2) := B1.out.trans (g2.mono B1.out.size)
  clear g2 HIP1 x0 x1 x2 x3 x4 x5
  obtain ⟨x0, x1, x2, x3, x4, x5⟩ := HX.out _ B2.out
  by_cases gp : R.length = 2 ∧ mk1 R = mk0 R + 1
  case neg =>
    have E := hid (HNO.out (fun h => gp h.1.2.2))
    rw [decide_eq_false gp]
    clear gp
    go_wp2_with fail
    go_ret
    exact ⟨by rw [E.out] <;> rfl, HU.out _ B2.out⟩
  rw [decide_eq_true gp]
  have GP := hid gp
  have HN1 := hid (HN0.out gp.1)
  clear gp HN0
  go_wp2_with fail
  refine (HFM1.out _ B2.out).mono ?_
  rintro e w3 ⟨rfl, g3⟩
  have B3 : Hid (Below W.heap.size W w3) := B2.out.trans (g3.mono B2.out.size)
  clear g3 HFM1 x0 x1 x2 x3 x4 x5
  have HM2 : Hid (setM S (mk0 R) = false → o = false) := fun h => HNO.out (fun g => by rw [g.2.1.1] at h; cases h)
  have HM3 : Hid (setM S he = false → o = false) := fun h => HNO.out (fun g => by rw [g.2.1.2.1] at h; cases h)
  have HM4 : Hid (¬ he ≤ mk0 R → o = false) := fun h => HNO.out (fun g => h g.2.1.2.2)
  have HM5 : Hid (tx = 0 → setM S (mk0 R) = true → setM S he = true → he ≤ mk0 R → decide (st.length = 0 ∧ dt.length = 0 ∧ (bl1 R).length = 0) = o) := fun h0 h1 h2 h3 => by
    by_cases h : st.length = 0 ∧ dt.length = 0 ∧ (bl1 R).length = 0
    · rw [decide_eq_true h]
      refine (HYES.out ⟨⟨GG.out.1, GG.out.2, GP.out.1, GP.out.2⟩, ⟨h1, h2, h3⟩, fun k hk => absurd hk (by omega), ⟨fun k hk => absurd hk (by omega), by omega⟩, ?_⟩).symm
      rw [if_pos h0]
      exact ⟨h.1, h.2.2⟩
    · rw [decide_eq_false h]
      refine (HNO.out (fun g => h ?_)).symm
      have g1 := g.2.2.2.2
      rw [if_pos h0] at g1
      exact ⟨g1.1, by rw [g.2.2.2.1.2]; exact g1.1, g1.2⟩
  have HM6 : Hid (¬ tx = 0 → setM S (mk0 R) = true → setM S he = true → he ≤ mk0 R → decide (tx = nextM S (mk0 R) ∧ 0 < st.length ∧ lyOk ⟨tx, st, dt⟩) = o) := fun h0 h1 h2 h3 => by
    by_cases h : tx = nextM S (mk0 R) ∧ 0 < st.length ∧ lyOk ⟨tx, st, dt⟩
    · rw [decide_eq_true h]
      refine (HYES.out ⟨⟨GG.out.1, GG.out.2, GP.out.1, GP.out.2⟩, ⟨h1, h2, h3⟩, h.2.2.2.2, ⟨h.2.2.1, h.2.2.2.1⟩, ?_⟩).symm
      rw [if_neg h0]
      exact ⟨h.1, h.2.1⟩
    · rw [decide_eq_false h]
      refine (HNO.out (fun g => h ?_)).symm
      have g1 := g.2.2.2.2
      rw [if_neg h0] at g1
      exact ⟨g1.1, g1.2, g.2.2.2.1.1, g.2.2.2.1.2, g.2.2.1⟩
  have HS1 := hid (fun h => HS0.out h GG.out.1 hr0)
  clear HNO HYES HS0 GG GP
  go_upto_region 4 with fail
  have hs0 : ∀ v : Gw w3, v.v.cell? ⟨w.heap.size, 0, none⟩ = some (.slice s S.length ks) := fun v => (HX.out _ (B3.out.trans (v.b.mono B3.out.size))).1
  have hs1 : ∀ v : Gw w3, v.v.cell? ⟨w.heap.size, 1, none⟩ = some (.slice r R.length kr) := fun v => (HX.out _ (B3.out.trans (v.b.mono B3.out.size))).2.1
  have hs2 : ∀ v : Gw w3, v.v.cell? ⟨w.heap.size, 2, none⟩ = some (.slice t st.length kt) := fun v => (HX.out _ (B3.out.trans (v.b.mono B3.out.size))).2.2.1
  have hs3 : ∀ v : Gw w3, v.v.cell? ⟨w.heap.size, 3, none⟩ = some (.slice d dt.length kd) := fun v => (HX.out _ (B3.out.trans (v.b.mono B3.out.size))).2.2.2.1
  have hs4 : ∀ v : Gw w3, v.v.cell? ⟨w.heap.size, 4, none⟩ = some (.int .i64 tx) := fun v => (HX.out _ (B3.out.trans (v.b.mono B3.out.size))).2.2.2.2.1
  have hs5 : ∀ v : Gw w3, v.v.cell? ⟨w.heap.size, 5, none⟩ = some (.int .i64 he) := fun v => (HX.out _ (B3.out.trans (v.b.mono B3.out.size))).2.2.2.2.2
  have hne : Nonempty (Gw w3) := ⟨⟨w3, Below.refl _ _⟩⟩
  have hcl : ∀ v : Gw w3, ∃ s' : Gw w3, v.v = s'.v := fun v => ⟨v, rfl⟩
  have P1 : Hid (∀ v : Gw w3, Calls Try.prog 46 #[.agg #[.slice s S.length ks], .int .i64 (mk0 R)] v.v fun e w'' => e = .returned (.bool (setM S (mk0 R))) ∧ ∃ s' : Gw w3, w'' = s'.v) := fun v => grown_of (HIS1.out _ v.v (B3.out.trans (v.b.mono B3.out.size)))
  have P2 : Hid (∀ v : Gw w3, Calls Try.prog 46 #[.agg #[.slice s S.length ks], .int .i64 he] v.v fun e w'' => e = .returned (.bool (setM S he)) ∧ ∃ s' : Gw w3, w'' = s'.v) := fun v => grown_of (HIS1.out _ v.v (B3.out.trans (v.b.mono B3.out.size)))
  have P3 : Hid (tx = 0 → ∀ v : Gw w3, Calls Try.prog 47 #[.agg #[.slice s S.length ks, .slice r R.length kr, .slice t st.length kt, .slice d dt.length kd, .int .i64 tx, .int .i64 he]] v.v fun e w'' => e = .returned (.iface 77 (.agg #[])) ∧ ∃ s' : Gw w3, w'' = s'.v) := fun h v => grown_of (HL0.out h v.v)
  have P4 : Hid (¬ tx = 0 → ∀ v : Gw w3, Calls Try.prog 47 #[.agg #[.slice s S.length ks, .slice r R.length kr, .slice t st.length kt, .slice d dt.length kd, .int .i64 tx, .int .i64 he]] v.v fun e w'' => e = .returned (.iface 79 (.agg #[.int .i64 tx, .slice t st.length kt, .slice d dt.length kd])) ∧ ∃ s' : Gw w3, w'' = s'.v) := fun h v => grown_of (HL1.out h v.v)
  have P5 : Hid (∀ v : Gw w3, Calls Try.prog 109 #[.agg #[], .agg #[.slice s S.length ks, .slice r R.length kr, .slice t st.length kt, .slice d dt.length kd, .int .i64 tx, .int .i64 he]] v.v fun e w'' => e = .returned (.bool (decide (st.length = 0 ∧ dt.length = 0 ∧ (bl1 R).length = 0))) ∧ ∃ s' : Gw w3, w'' = s'.v) := fun v => grown_of (HN1.out v.v (B3.out.trans (v.b.mono B3.out.size)))
  have P6 : Hid (¬ tx = 0 → ∀ v : Gw w3, Calls Try.prog 110 #[.agg #[.int .i64 tx, .slice t st.length kt, .slice d dt.length kd], .agg #[.slice s S.length ks, .slice r R.length kr, .slice t st.length kt, .slice d dt.length kd, .int .i64 tx, .int .i64 he]] v.v fun e w'' => e = .returned (.bool (decide (tx = nextM S (mk0 R) ∧ 0 < st.length ∧ lyOk ⟨tx, st, dt⟩))) ∧ ∃ s' : Gw w3, w'' = s'.v) := fun h v => grown_of (HS1.out h v.v (B3.out.trans (v.b.mono B3.out.size)))
  have hmn := meth_nl
  have hms := meth_sh
  clear HS1 HL0 HL1 HN1 HIS1
  generalize mk0 R = m0 at *
  generalize (decide (st.length = 0 ∧ dt.length = 0 ∧ (bl1 R).length = 0)) = g0 at *
  generalize (decide (tx = nextM S m0 ∧ 0 < st.length ∧ lyOk ⟨tx, st, dt⟩)) = g1 at *
  cases h4 : setM S m0
  · rw [h4] at P1
    have E := hid (HM2.out h4)
    clear h4
    refine region_grown w3 (Below.refl _ _) (by kernel_rfl) (by kernel_rfl) ?_
    repeat (go_big_quiet_step ((go_at_call 46; with_reducible exact P1.out _)))
    refine wpQuiet_nil ?_
    rintro _ ⟨v, rfl⟩
    have Hv := hid (HU.out _ (B3.out.trans (v.b.mono B3.out.size)))
    clear hs0 hs1 hs2 hs3 hs4 hs5 P1 P2 P3 P4 P5 P6 hne hcl hmn hms
    go_wp2_with fail
    go_ret
    exact ⟨by rw [E.out] <;> rfl, Hv.out⟩
  rw [h4] at P1
  cases h5 : setM S he
  · rw [h5] at P2
    have E := hid (HM3.out h5)
    clear h4 h5
    refine region_grown w3 (Below.refl _ _) (by kernel_rfl) (by kernel_rfl) ?_
    repeat (go_big_quiet_step ((first | (go_at_call 46; with_reducible exact P1.out _) | (go_at_call 46; with_reducible exact P2.out _))))
    refine wpQuiet_nil ?_
    rintro _ ⟨v, rfl⟩
    have Hv := hid (HU.out _ (B3.out.trans (v.b.mono B3.out.size)))
    clear hs0 hs1 hs2 hs3 hs4 hs5 P1 P2 P3 P4 P5 P6 hne hcl hmn hms
    go_wp2_with fail
    go_ret
    exact ⟨by rw [E.out] <;> rfl, Hv.out⟩
  rw [h5] at P2
  by_cases h6 : he ≤ m0
  case neg =>
    have d3 : decide (he ≤ m0) = false := decide_eq_false h6
    have E := hid (HM4.out (by omega))
    clear h4 h5 h6
    refine region_grown w3 (Below.refl _ _) (by kernel_rfl) (by kernel_rfl) ?_
    repeat (go_big_quiet_step ((first | (go_at_call 46; with_reducible exact P1.out _) | (go_at_call 46; with_reducible exact P2.out _))))
    refine wpQuiet_nil ?_
    rintro _ ⟨v, rfl⟩
    have Hv := hid (HU.out _ (B3.out.trans (v.b.mono B3.out.size)))
    clear hs0 hs1 hs2 hs3 hs4 hs5 P1 P2 P3 P4 P5 P6 hne hcl hmn hms
    go_wp2_with fail
    go_ret
    exact ⟨by rw [E.out] <;> rfl, Hv.out⟩
  have d3 : decide (he ≤ m0) = true := decide_eq_true h6
  by_cases h7 : tx = 0
  · have E := hid (HM5.out h7 h4 h5 h6).symm
    have P3 := hid (P3.out h7)
    clear h4 h5 h6 h7 HM5 HM6
    refine region_grown w3 (Below.refl _ _) (by kernel_rfl) (by kernel_rfl) ?_
    repeat (go_big_quiet_step ((first | (go_at_call 46; with_reducible exact P1.out _) | (go_at_call 46; with_reducible exact P2.out _) | (go_at_call 47; with_reducible exact P3.out _) | (go_at_call 109; with_reducible exact P5.out _))))
    refine wpQuiet_nil ?_
    rintro _ ⟨v, rfl⟩
    have Hv := hid (HU.out _ (B3.out.trans (v.b.mono B3.out.size)))
    clear hs0 hs1 hs2 hs3 hs4 hs5 P1 P2 P3 P4 P5 P6 hne hcl hmn hms
    go_wp2_with fail
    go_ret
    exact ⟨by rw [E.out] <;> rfl, Hv.out⟩
  · have E := hid (HM6.out h7 h4 h5 h6).symm
    have P4 := hid (P4.out h7)
    have P6 := hid (P6.out h7)
    clear h4 h5 h6 h7 HM5 HM6
    refine region_grown w3 (Below.refl _ _) (by kernel_rfl) (by kernel_rfl) ?_
    repeat (go_big_quiet_step ((first | (go_at_call 46; with_reducible exact P1.out _) | (go_at_call 46; with_reducible exact P2.out _) | (go_at_call 47; with_reducible exact P4.out _) | (go_at_call 110; with_reducible exact P6.out _))))
    refine wpQuiet_nil ?_
    rintro _ ⟨v, rfl⟩
    have Hv := hid (HU.out _ (B3.out.trans (v.b.mono B3.out.size)))
    clear hs0 hs1 hs2 hs3 hs4 hs5 P1 P2 P3 P4 P5 P6 hne hcl hmn hms
    go_wp2_with fail
    go_ret
    exact ⟨by rw [E.out] <;> rfl, Hv.out⟩
end Go.Proofs.Ytfdkhoelcmmfcaa

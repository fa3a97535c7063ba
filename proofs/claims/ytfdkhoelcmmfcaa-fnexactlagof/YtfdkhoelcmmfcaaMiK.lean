/- Both sides' RemoteMark and LagOf. -/
import Derived.Test.YtfdkhoelcmmfcaaMiG
import Derived.Test.YtfdkhoelcmmfcaaMiJ
namespace Go.Proofs.Ytfdkhoelcmmfcaa
set_option maxRecDepth 100000
open Go Go.ChangeShapes Go.WideShapes Go.ChangeAt Go.RowKit
set_option maxHeartbeats 4000000 in
theorem sRemoteMark_any (s r t d : Option Addr) (ks kr kt kd : Nat) (S R : List Ly) (st : List Int) (dt : List ByteArray) (tx he : Int) (w : World) (fS : FitK S) (fR : FitK R) (nt : st.length ≤ 1048576) (nd : dt.length ≤ 1048576) (hS : Ys w.heap.size s S w) (hR : Ys w.heap.size r R w) (ht : Is w.heap.size t st w) (hd : Ss w.heap.size d dt w) :
    Calls Try.prog 16 #[.agg #[.slice s S.length ks, .slice r R.length kr, .slice t st.length kt, .slice d dt.length kd, .int .i64 tx, .int .i64 he]] w fun e w' => e = .returned (.tuple #[.int .i64 (if GoodMi S R st dt tx he then mk0 R else 0), .bool (decide (GoodMi S R st dt tx he))]) ∧ Below w.heap.size w w' := by
  obtain ⟨k0, b0⟩ := alloc1 w (.cells #[.slice s S.length ks, .slice r R.length kr, .slice t st.length kt, .slice d dt.length kd, .int .i64 tx, .int .i64 he] 28)
  generalize hW : w.alloc (.cells #[.slice s S.length ks, .slice r R.length kr, .slice t st.length kt, .slice d dt.length kd, .int .i64 tx, .int .i64 he] 28) = W at *
  have HX : Hid (∀ v, Below W.heap.size W v → v.cell? ⟨w.heap.size, 0, none⟩ = some (.slice s S.length ks) ∧ v.cell? ⟨w.heap.size, 1, none⟩ = some (.slice r R.length kr) ∧ v.cell? ⟨w.heap.size, 2, none⟩ = some (.slice t st.length kt) ∧ v.cell? ⟨w.heap.size, 3, none⟩ = some (.slice d dt.length kd) ∧ v.cell? ⟨w.heap.size, 4, none⟩ = some (.int .i64 tx) ∧ v.cell? ⟨w.heap.size, 5, none⟩ = some (.int .i64 he)) := fun v g => by
    have h1 := (g.block _ (Array.getElem?_eq_some_iff.1 k0).1).trans k0
    exact ⟨box_cell h1 0, box_cell h1 1, box_cell h1 2, box_cell h1 3, box_cell h1 4, box_cell h1 5⟩
  have HU : Hid (∀ v, Below W.heap.size W v → Below w.heap.size w v) := fun v g => b0.trans (g.mono b0.size)
  have B0 : Hid (Below W.heap.size W W) := Below.refl _ _
  have HGM : Hid (Calls Try.prog 13 #[.agg #[.slice s S.length ks, .slice r R.length kr, .slice t st.length kt, .slice d dt.length kd, .int .i64 tx, .int .i64 he]] W fun e w' => e = .returned (.bool (decide (GoodMi S R st dt tx he))) ∧ Below W.heap.size W w') := sgoodMi_any s r t d ks kr kt kd S R st dt tx he W fS fR nt nd ((hS.below b0).mono b0.size) ((hR.below b0).mono b0.size) ((ht.below b0).mono b0.size) ((hd.below b0).mono b0.size)
  have HYS : Hid (∀ v, Below W.heap.size W v → Ys v.heap.size s S v) := fun v g => (hS.below (HU.out v g)).mono (HU.out v g).size
  have HYR : Hid (∀ v, Below W.heap.size W v → Ys v.heap.size r R v) := fun v g => (hR.below (HU.out v g)).mono (HU.out v g).size
  obtain ⟨nn, hnn⟩ : ∃ nn : Int, (if GoodMi S R st dt tx he then mk0 R else 0) = nn := ⟨_, rfl⟩
  obtain ⟨o, ho⟩ : ∃ o, decide (GoodMi S R st dt tx he) = o := ⟨_, rfl⟩
  have E0 : Hid (¬ GoodMi S R st dt tx he → nn = 0 ∧ o = false) := fun h => ⟨hnn.symm.trans (if_neg h), ho.symm.trans (decide_eq_false h)⟩
  have E1 : Hid (GoodMi S R st dt tx he → nn = mk0 R ∧ o = true) := fun h => ⟨hnn.symm.trans (if_pos h), ho.symm.trans (decide_eq_true h)⟩
  rw [hnn, ho]
  obtain ⟨x0, x1, x2, x3, x4, x5⟩ := HX.out _ B0.out
  clear hS hR ht hd k0 b0 fS fR nt nd hnn ho
  go_enter Try.func16, Try.ntmps16
  go_wp2_with fail
  clear hW
  refine HGM.out.mono ?_
  rintro e w1 ⟨rfl, g1⟩
  have B1 : Hid (Below W.heap.size W w1) := g1
  clear g1 HGM x0 x1 x2 x3 x4 x5
  obtain ⟨x0, x1, x2, x3, x4, x5⟩ := HX.out _ B1.out
  by_cases h : GoodMi S R st dt tx he
  case neg =>
    rw [decide_eq_false h]
    have E := hid (E0.out h)
    clear h
    go_wp2_with fail
    go_ret2
    exact ⟨by rw [E.out.1, E.out.2] <;> rfl, HU.out _ B1.out⟩
  rw [decide_eq_true h]
  have E := hid (E1.out h)
  clear E0 E1
  have HC : Hid (Calls Try.prog 35 #[.agg #[.slice s S.length ks, .slice r R.length kr, .slice t st.length kt, .slice d dt.length kd, .int .i64 tx, .int .i64 he]] w1 fun e w' => e = .returned (.int .i64 (mk0 R)) ∧ Below w1.heap.size w1 w') := l16Remote_any s r t d ks kr kt kd S R st dt tx he w1 (by have := h.1.2.2.1; omega) (HYR.out _ B1.out)
  clear h HYS HYR
  generalize (mk0 R : Int) = n at *
  go_wp2_with fail
  refine HC.out.mono ?_
  rintro e w2 ⟨rfl, g2⟩
  have B2 : Hid (Below W.heap.size W w2) := B1.out.trans (g2.mono B1.out.size)
  clear g2 HC x0 x1 x2 x3 x4 x5
  go_wp2_with fail
  go_ret2
  exact ⟨by rw [E.out.1, E.out.2] <;> rfl, HU.out _ B2.out⟩
set_option maxHeartbeats 4000000 in
theorem sLagOf_any (s r t d : Option Addr) (ks kr kt kd : Nat) (S R : List Ly) (st : List Int) (dt : List ByteArray) (tx he : Int) (w : World) (fS : FitK S) (fR : FitK R) (nt : st.length ≤ 1048576) (nd : dt.length ≤ 1048576) (hS : Ys w.heap.size s S w) (hR : Ys w.heap.size r R w) (ht : Is w.heap.size t st w) (hd : Ss w.heap.size d dt w) :
    Calls Try.prog 18 #[.agg #[.slice s S.length ks, .slice r R.length kr, .slice t st.length kt, .slice d dt.length kd, .int .i64 tx, .int .i64 he]] w fun e w' => e = .returned (.tuple #[.int .i64 (if GoodMi S R st dt tx he then (((lackL S (mk0 R)).length : Nat) : Int) else 0), .bool (decide (GoodMi S R st dt tx he))]) ∧ Below w.heap.size w w' := by
  obtain ⟨k0, b0⟩ := alloc1 w (.cells #[.slice s S.length ks, .slice r R.length kr, .slice t st.length kt, .slice d dt.length kd, .int .i64 tx, .int .i64 he] 28)
  generalize hW : w.alloc (.cells #[.slice s S.length ks, .slice r R.length kr, .slice t st.length kt, .slice d dt.length kd, .int .i64 tx, .int .i64 he] 28) = W at *
  have HX : Hid (∀ v, Below W.heap.size W v → v.cell? ⟨w.heap.size, 0, none⟩ = some (.slice s S.length ks) ∧ v.cell? ⟨w.heap.size, 1, none⟩ = some (.slice r R.length kr) ∧ v.cell? ⟨w.heap.size, 2, none⟩ = some (.slice t st.length kt) ∧ v.cell? ⟨w.heap.size, 3, none⟩ = some (.slice d dt.length kd) ∧ v.cell? ⟨w.heap.size, 4, none⟩ = some (.int .i64 tx) ∧ v.cell? ⟨w.heap.size, 5, none⟩ = some (.int .i64 he)) := fun v g => by
    have h1 := (g.block _ (Array.getElem?_eq_some_iff.1 k0).1).trans k0
    exact ⟨box_cell h1 0, box_cell h1 1, box_cell h1 2, box_cell h1 3, box_cell h1 4, box_cell h1 5⟩
  have HU : Hid (∀ v, Below W.heap.size W v → Below w.heap.size w v) := fun v g => b0.trans (g.mono b0.size)
  have B0 : Hid (Below W.heap.size W W) := Below.refl _ _
  have HGM : Hid (Calls Try.prog 13 #[.agg #[.slice s S.length ks, .slice r R.length kr, .slice t st.length kt, .slice d dt.length kd, .int .i64 tx, .int .i64 he]] W fun e w' => e = .returned (.bool (decide (GoodMi S R st dt tx he))) ∧ Below W.heap.size W w') := sgoodMi_any s r t d ks kr kt kd S R st dt tx he W fS fR nt nd ((hS.below b0).mono b0.size) ((hR.below b0).mono b0.size) ((ht.below b0).mono b0.size) ((hd.below b0).mono b0.size)
  have HYS : Hid (∀ v, Below W.heap.size W v → Ys v.heap.size s S v) := fun v g => (hS.below (HU.out v g)).mono (HU.out v g).size
  have HYR : Hid (∀ v, Below W.heap.size W v → Ys v.heap.size r R v) := fun v g => (hR.below (HU.out v g)).mono (HU.out v g).size
  obtain ⟨nn, hnn⟩ : ∃ nn : Int, (if GoodMi S R st dt tx he then (((lackL S (mk0 R)).length : Nat) : Int) else 0) = nn := ⟨_, rfl⟩
  obtain ⟨o, ho⟩ : ∃ o, decide (GoodMi S R st dt tx he) = o := ⟨_, rfl⟩
  have E0 : Hid (¬ GoodMi S R st dt tx he → nn = 0 ∧ o = false) := fun h => ⟨hnn.symm.trans (if_neg h), ho.symm.trans (decide_eq_false h)⟩
  have E1 : Hid (GoodMi S R st dt tx he → nn = (((lackL S (mk0 R)).length : Nat) : Int) ∧ o = true) := fun h => ⟨hnn.symm.trans (if_pos h), ho.symm.trans (decide_eq_true h)⟩
  rw [hnn, ho]
  obtain ⟨x0, x1, x2, x3, x4, x5⟩ := HX.out _ B0.out
  clear hS hR ht hd k0 b0 fS fR nt nd hnn ho
  go_enter Try.func18, Try.ntmps18
  go_wp2_with fail
  clear hW
  refine HGM.out.mono ?_
  rintro e w1 ⟨rfl, g1⟩
  have B1 : Hid (Below W.heap.size W w1) := g1
  clear g1 HGM x0 x1 x2 x3 x4 x5
  obtain ⟨x0, x1, x2, x3, x4, x5⟩ := HX.out _ B1.out
  by_cases h : GoodMi S R st dt tx he
  case neg =>
    rw [decide_eq_false h]
    have E := hid (E0.out h)
    clear h
    go_wp2_with fail
    go_ret2
    exact ⟨by rw [E.out.1, E.out.2] <;> rfl, HU.out _ B1.out⟩
  rw [decide_eq_true h]
  have E := hid (E1.out h)
  clear E0 E1
  have HC : Hid (Calls Try.prog 48 #[.agg #[.slice s S.length ks, .slice r R.length kr, .slice t st.length kt, .slice d dt.length kd, .int .i64 tx, .int .i64 he]] w1 fun e w' => e = .returned (.int .i64 ((((lackL S (mk0 R)).length : Nat) : Int))) ∧ Below w1.heap.size w1 w') := l16Lag_any s r t d ks kr kt kd S R st dt tx he w1 (by have := h.1.2.2.1; omega) h.1.1.1 h.1.1.2.1 (HYS.out _ B1.out) (HYR.out _ B1.out)
  clear h HYS HYR
  generalize ((((lackL S (mk0 R)).length : Nat) : Int) : Int) = n at *
  go_wp2_with fail
  refine HC.out.mono ?_
  rintro e w2 ⟨rfl, g2⟩
  have B2 : Hid (Below W.heap.size W w2) := B1.out.trans (g2.mono B1.out.size)
  clear g2 HC x0 x1 x2 x3 x4 x5
  go_wp2_with fail
  go_ret2
  exact ⟨by rw [E.out.1, E.out.2] <;> rfl, HU.out _ B2.out⟩
set_option maxHeartbeats 4000000 in
theorem iRemoteMark_any (s r t d : Option Addr) (ks kr kt kd : Nat) (S R : List Ly) (st : List Int) (dt : List ByteArray) (tx he : Int) (w : World) (fS : FitK S) (fR : FitK R) (nt : st.length ≤ 1048576) (_nd : dt.length ≤ 1048576) (hS : Ys w.heap.size s S w) (hR : Ys w.heap.size r R w) (ht : Is w.heap.size t st w) (hd : Ss w.heap.size d dt w) :
    Calls Try.prog 17 #[.agg #[.slice s S.length ks, .slice r R.length kr, .slice t st.length kt, .slice d dt.length kd, .int .i64 tx, .int .i64 he]] w fun e w' => e = .returned (.tuple #[.int .i64 (if GoodMi S R st dt tx he then mk0 R else 0), .bool (decide (GoodMi S R st dt tx he))]) ∧ Below w.heap.size w w' := by
  obtain ⟨k0, b0⟩ := alloc1 w (.cells #[.slice s S.length ks, .slice r R.length kr, .slice t st.length kt, .slice d dt.length kd, .int .i64 tx, .int .i64 he] 28)
  generalize hW : w.alloc (.cells #[.slice s S.length ks, .slice r R.length kr, .slice t st.length kt, .slice d dt.length kd, .int .i64 tx, .int .i64 he] 28) = W at *
  have HX : Hid (∀ v, Below W.heap.size W v → v.cell? ⟨w.heap.size, 0, none⟩ = some (.slice s S.length ks) ∧ v.cell? ⟨w.heap.size, 1, none⟩ = some (.slice r R.length kr) ∧ v.cell? ⟨w.heap.size, 2, none⟩ = some (.slice t st.length kt) ∧ v.cell? ⟨w.heap.size, 3, none⟩ = some (.slice d dt.length kd) ∧ v.cell? ⟨w.heap.size, 4, none⟩ = some (.int .i64 tx) ∧ v.cell? ⟨w.heap.size, 5, none⟩ = some (.int .i64 he)) := fun v g => by
    have h1 := (g.block _ (Array.getElem?_eq_some_iff.1 k0).1).trans k0
    exact ⟨box_cell h1 0, box_cell h1 1, box_cell h1 2, box_cell h1 3, box_cell h1 4, box_cell h1 5⟩
  have HU : Hid (∀ v, Below W.heap.size W v → Below w.heap.size w v) := fun v g => b0.trans (g.mono b0.size)
  have B0 : Hid (Below W.heap.size W W) := Below.refl _ _
  have HGM : Hid (Calls Try.prog 15 #[.agg #[.slice s S.length ks, .slice r R.length kr, .slice t st.length kt, .slice d dt.length kd, .int .i64 tx, .int .i64 he]] W fun e w' => e = .returned (.bool (decide (GoodMi S R st dt tx he))) ∧ Below W.heap.size W w') := igoodMi_any s r t d ks kr kt kd S R st dt tx he W fS fR nt ((hS.below b0).mono b0.size) ((hR.below b0).mono b0.size) ((ht.below b0).mono b0.size) ((hd.below b0).mono b0.size)
  have HYS : Hid (∀ v, Below W.heap.size W v → Ys v.heap.size s S v) := fun v g => (hS.below (HU.out v g)).mono (HU.out v g).size
  have HYR : Hid (∀ v, Below W.heap.size W v → Ys v.heap.size r R v) := fun v g => (hR.below (HU.out v g)).mono (HU.out v g).size
  obtain ⟨nn, hnn⟩ : ∃ nn : Int, (if GoodMi S R st dt tx he then mk0 R else 0) = nn := ⟨_, rfl⟩
  obtain ⟨o, ho⟩ : ∃ o, decide (GoodMi S R st dt tx he) = o := ⟨_, rfl⟩
  have E0 : Hid (¬ GoodMi S R st dt tx he → nn = 0 ∧ o = false) := fun h => ⟨hnn.symm.trans (if_neg h), ho.symm.trans (decide_eq_false h)⟩
  have E1 : Hid (GoodMi S R st dt tx he → nn = mk0 R ∧ o = true) := fun h => ⟨hnn.symm.trans (if_pos h), ho.symm.trans (decide_eq_true h)⟩
  rw [hnn, ho]
  obtain ⟨x0, x1, x2, x3, x4, x5⟩ := HX.out _ B0.out
  clear hS hR ht hd k0 b0 fS fR nt _nd hnn ho
  go_enter Try.func17, Try.ntmps17
  go_wp2_with fail
  clear hW
  refine HGM.out.mono ?_
  rintro e w1 ⟨rfl, g1⟩
  have B1 : Hid (Below W.heap.size W w1) := g1
  clear g1 HGM x0 x1 x2 x3 x4 x5
  obtain ⟨x0, x1, x2, x3, x4, x5⟩ := HX.out _ B1.out
  by_cases h : GoodMi S R st dt tx he
  case neg =>
    rw [decide_eq_false h]
    have E := hid (E0.out h)
    clear h
    go_wp2_with fail
    go_ret2
    exact ⟨by rw [E.out.1, E.out.2] <;> rfl, HU.out _ B1.out⟩
  rw [decide_eq_true h]
  have E := hid (E1.out h)
  clear E0 E1
  have HC : Hid (Calls Try.prog 45 #[.agg #[.slice r R.length kr]] w1 fun e w' => e = .returned (.int .i64 (mk0 R)) ∧ Below w1.heap.size w1 w') := firstMark_any r kr R w1 (by have := h.1.2.2.1; omega) (HYR.out _ B1.out)
  clear h HYS HYR
  generalize (mk0 R : Int) = n at *
  go_wp2_with fail
  refine HC.out.mono ?_
  rintro e w2 ⟨rfl, g2⟩
  have B2 : Hid (Below W.heap.size W w2) := B1.out.trans (g2.mono B1.out.size)
  clear g2 HC x0 x1 x2 x3 x4 x5
  go_wp2_with fail
  go_ret2
  exact ⟨by rw [E.out.1, E.out.2] <;> rfl, HU.out _ B2.out⟩
set_option maxHeartbeats 4000000 in
theorem iLagOf_any (s r t d : Option Addr) (ks kr kt kd : Nat) (S R : List Ly) (st : List Int) (dt : List ByteArray) (tx he : Int) (w : World) (fS : FitK S) (fR : FitK R) (nt : st.length ≤ 1048576) (_nd : dt.length ≤ 1048576) (hS : Ys w.heap.size s S w) (hR : Ys w.heap.size r R w) (ht : Is w.heap.size t st w) (hd : Ss w.heap.size d dt w) :
    Calls Try.prog 19 #[.agg #[.slice s S.length ks, .slice r R.length kr, .slice t st.length kt, .slice d dt.length kd, .int .i64 tx, .int .i64 he]] w fun e w' => e = .returned (.tuple #[.int .i64 (if GoodMi S R st dt tx he then (((lackL S (mk0 R)).length : Nat) : Int) else 0), .bool (decide (GoodMi S R st dt tx he))]) ∧ Below w.heap.size w w' := by
  obtain ⟨k0, b0⟩ := alloc1 w (.cells #[.slice s S.length ks, .slice r R.length kr, .slice t st.length kt, .slice d dt.length kd, .int .i64 tx, .int .i64 he] 28)
  generalize hW : w.alloc (.cells #[.slice s S.length ks, .slice r R.length kr, .slice t st.length kt, .slice d dt.length kd, .int .i64 tx, .int .i64 he] 28) = W at *
  have HX : Hid (∀ v, Below W.heap.size W v → v.cell? ⟨w.heap.size, 0, none⟩ = some (.slice s S.length ks) ∧ v.cell? ⟨w.heap.size, 1, none⟩ = some (.slice r R.length kr) ∧ v.cell? ⟨w.heap.size, 2, none⟩ = some (.slice t st.length kt) ∧ v.cell? ⟨w.heap.size, 3, none⟩ = some (.slice d dt.length kd) ∧ v.cell? ⟨w.heap.size, 4, none⟩ = some (.int .i64 tx) ∧ v.cell? ⟨w.heap.size, 5, none⟩ = some (.int .i64 he)) := fun v g => by
    have h1 := (g.block _ (Array.getElem?_eq_some_iff.1 k0).1).trans k0
    exact ⟨box_cell h1 0, box_cell h1 1, box_cell h1 2, box_cell h1 3, box_cell h1 4, box_cell h1 5⟩
  have HU : Hid (∀ v, Below W.heap.size W v → Below w.heap.size w v) := fun v g => b0.trans (g.mono b0.size)
  have B0 : Hid (Below W.heap.size W W) := Below.refl _ _
  have HGM : Hid (Calls Try.prog 15 #[.agg #[.slice s S.length ks, .slice r R.length kr, .slice t st.length kt, .slice d dt.length kd, .int .i64 tx, .int .i64 he]] W fun e w' => e = .returned (.bool (decide (GoodMi S R st dt tx he))) ∧ Below W.heap.size W w') := igoodMi_any s r t d ks kr kt kd S R st dt tx he W fS fR nt ((hS.below b0).mono b0.size) ((hR.below b0).mono b0.size) ((ht.below b0).mono b0.size) ((hd.below b0).mono b0.size)
  have HYS : Hid (∀ v, Below W.heap.size W v → Ys v.heap.size s S v) := fun v g => (hS.below (HU.out v g)).mono (HU.out v g).size
  have HYR : Hid (∀ v, Below W.heap.size W v → Ys v.heap.size r R v) := fun v g => (hR.below (HU.out v g)).mono (HU.out v g).size
  obtain ⟨nn, hnn⟩ : ∃ nn : Int, (if GoodMi S R st dt tx he then (((lackL S (mk0 R)).length : Nat) : Int) else 0) = nn := ⟨_, rfl⟩
  obtain ⟨o, ho⟩ : ∃ o, decide (GoodMi S R st dt tx he) = o := ⟨_, rfl⟩
  have E0 : Hid (¬ GoodMi S R st dt tx he → nn = 0 ∧ o = false) := fun h => ⟨hnn.symm.trans (if_neg h), ho.symm.trans (decide_eq_false h)⟩
  have E1 : Hid (GoodMi S R st dt tx he → nn = (((lackL S (mk0 R)).length : Nat) : Int) ∧ o = true) := fun h => ⟨hnn.symm.trans (if_pos h), ho.symm.trans (decide_eq_true h)⟩
  rw [hnn, ho]
  obtain ⟨x0, x1, x2, x3, x4, x5⟩ := HX.out _ B0.out
  clear hS hR ht hd k0 b0 fS fR nt _nd hnn ho
  go_enter Try.func19, Try.ntmps19
  go_wp2_with fail
  clear hW
  refine HGM.out.mono ?_
  rintro e w1 ⟨rfl, g1⟩
  have B1 : Hid (Below W.heap.size W w1) := g1
  clear g1 HGM x0 x1 x2 x3 x4 x5
  obtain ⟨x0, x1, x2, x3, x4, x5⟩ := HX.out _ B1.out
  by_cases h : GoodMi S R st dt tx he
  case neg =>
    rw [decide_eq_false h]
    have E := hid (E0.out h)
    clear h
    go_wp2_with fail
    go_ret2
    exact ⟨by rw [E.out.1, E.out.2] <;> rfl, HU.out _ B1.out⟩
  rw [decide_eq_true h]
  have E := hid (E1.out h)
  clear E0 E1
  have HL8 : Hid ((lackL S (mk0 R)).length ≤ S.length ∧ S.length ≤ 8) := ⟨lackT_len S (mk0 R) S.length, h.1.1.2.1⟩
  have HC : Hid (Calls Try.prog 49 #[.agg #[.slice s S.length ks, .slice r R.length kr, .slice t st.length kt, .slice d dt.length kd, .int .i64 tx, .int .i64 he]] w1 fun e w' => ∃ v, e = .returned v ∧ AL w1.heap.size v (lackL S (mk0 R)) w' ∧ Below w1.heap.size w1 w') := marksLacked_any s r t d ks kr kt kd S R st dt tx he w1 h.1.1 (by have := h.1.2.2.1; omega) (HYS.out _ B1.out) (HYR.out _ B1.out)
  clear h HYS HYR
  generalize lackL S (mk0 R) = L at *
  go_wp2_with fail
  refine HC.out.mono ?_
  rintro e w2 ⟨v, rfl, hal, g2⟩
  have B2 : Hid (Below W.heap.size W w2) := B1.out.trans (g2.mono B1.out.size)
  obtain ⟨p, cp, rfl, hown, hcp⟩ := hal.own
  clear g2 HC x0 x1 x2 x3 x4 x5 hal hown
  go_wp2_with fail
  go_ret2
  exact ⟨by rw [E.out.1, E.out.2] <;> rfl, HU.out _ B2.out⟩
end Go.Proofs.Ytfdkhoelcmmfcaa

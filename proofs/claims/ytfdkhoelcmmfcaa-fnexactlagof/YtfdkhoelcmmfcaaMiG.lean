/- The model's GoodMirror, RemoteMark, LagOf. -/
import Derived.Test.YtfdkhoelcmmfcaaMiS
namespace Go.Proofs.Ytfdkhoelcmmfcaa
set_option maxRecDepth 100000
open Go Go.ChangeShapes Go.WideShapes Go.ChangeAt Go.RowKit
set_option maxHeartbeats 8000000 in
theorem sgoodMi_any (s r t d : Option Addr) (ks kr kt kd : Nat) (S R : List Ly) (st : List Int) (dt : List ByteArray) (tx he : Int) (w : World) (fS : FitK S) (fR : FitK R) (nt : st.length ≤ 1048576) (nd : dt.length ≤ 1048576) (hS : Ys w.heap.size s S w) (hR : Ys w.heap.size r R w) (ht : Is w.heap.size t st w) (hd : Ss w.heap.size d dt w) :
    Calls Try.prog 13 #[.agg #[.slice s S.length ks, .slice r R.length kr, .slice t st.length kt, .slice d dt.length kd, .int .i64 tx, .int .i64 he]] w fun e w' => e = .returned (.bool (decide (GoodMi S R st dt tx he))) ∧ Below w.heap.size w w' := by
  obtain ⟨k0, b0⟩ := alloc1 w (.cells #[.slice s S.length ks, .slice r R.length kr, .slice t st.length kt, .slice d dt.length kd, .int .i64 tx, .int .i64 he] 28)
  generalize hW : w.alloc (.cells #[.slice s S.length ks, .slice r R.length kr, .slice t st.length kt, .slice d dt.length kd, .int .i64 tx, .int .i64 he] 28) = W at *
  have HX : Hid (∀ v, Below W.heap.size W v → v.cell? ⟨w.heap.size, 0, none⟩ = some (.slice s S.length ks) ∧ v.cell? ⟨w.heap.size, 1, none⟩ = some (.slice r R.length kr) ∧ v.cell? ⟨w.heap.size, 2, none⟩ = some (.slice t st.length kt) ∧ v.cell? ⟨w.heap.size, 3, none⟩ = some (.slice d dt.length kd) ∧ v.cell? ⟨w.heap.size, 4, none⟩ = some (.int .i64 tx) ∧ v.cell? ⟨w.heap.size, 5, none⟩ = some (.int .i64 he)) := fun v g => by
    have h1 := (g.block _ (Array.getElem?_eq_some_iff.1 k0).1).trans k0
    exact ⟨box_cell h1 0, box_cell h1 1, box_cell h1 2, box_cell h1 3, box_cell h1 4, box_cell h1 5⟩
  have HU : Hid (∀ v, Below W.heap.size W v → Below w.heap.size w v) := fun v g => b0.trans (g.mono b0.size)
  have B0 : Hid (Below W.heap.size W W) := Below.refl _ _
  have HYS : Hid (∀ v, Below W.heap.size W v → Ys v.heap.size s S v) := fun v g => (hS.below (HU.out v g)).mono (HU.out v g).size
  have HYR : Hid (∀ v, Below W.heap.size W v → Ys v.heap.size r R v) := fun v g => (hR.below (HU.out v g)).mono (HU.out v g).size
  have HIT : Hid (∀ v, Below W.heap.size W v → Is v.heap.size t st v) := fun v g => (ht.below (HU.out v g)).mono (HU.out v g).size
  have HSD : Hid (∀ v, Below W.heap.size W v → Ss v.heap.size d dt v) := fun v g => (hd.below (HU.out v g)).mono (HU.out v g).size
  have P1 : Hid (∀ v : Gw W, Calls Try.prog 34 #[.agg #[.slice s S.length ks]] v.v fun e w'' => e = .returned (.bool (goodK S)) ∧ ∃ s' : Gw W, w'' = s'.v) := fun v => grown_of (sgoodK_any s ks S v.v fS.len fS.bl (HYS.out _ v.b))
  have P2 : Hid (∀ v : Gw W, Calls Try.prog 34 #[.agg #[.slice r R.length kr]] v.v fun e w'' => e = .returned (.bool (goodK R)) ∧ ∃ s' : Gw W, w'' = s'.v) := fun v => grown_of (sgoodK_any r kr R v.v fR.len fR.bl (HYR.out _ v.b))
  have P3 : Hid (0 < R.length → ∀ v : Gw W, Calls Try.prog 35 #[.agg #[.slice s S.length ks, .slice r R.length kr, .slice t st.length kt, .slice d dt.length kd, .int .i64 tx, .int .i64 he]] v.v fun e w'' => e = .returned (.int .i64 (mk0 R)) ∧ ∃ s' : Gw W, w'' = s'.v) := fun h v => grown_of (l16Remote_any s r t d ks kr kt kd S R st dt tx he v.v h (HYR.out _ v.b))
  have P4 : Hid (1 ≤ S.length → ∀ (m : Int) (v : Gw W), Calls Try.prog 36 #[.agg #[.slice s S.length ks], .int .i64 m] v.v fun e w'' => e = .returned (.bool (setM S m)) ∧ ∃ s' : Gw W, w'' = s'.v) := fun h m v => grown_of (l16Set_any s ks S m v.v h fS.len (HYS.out _ v.b))
  have P5 : Hid (0 < R.length → 1 ≤ S.length → S.length ≤ 8 → ∀ v : Gw W, Calls Try.prog 39 #[.agg #[.slice s S.length ks, .slice r R.length kr, .slice t st.length kt, .slice d dt.length kd, .int .i64 tx, .int .i64 he]] v.v fun e w'' => e = .returned (.int .i64 (nextM S (mk0 R))) ∧ ∃ s' : Gw W, w'' = s'.v) := fun h h1 h2 v => grown_of (l16Next_any s r t d ks kr kt kd S R st dt tx he v.v h h1 h2 (HYS.out _ v.b) (HYR.out _ v.b))
  obtain ⟨o, ho⟩ : ∃ o, decide (GoodMi S R st dt tx he) = o := ⟨_, rfl⟩
  have HNO : Hid (¬ GoodMi S R st dt tx he → o = false) := fun h => ho.symm.trans (decide_eq_false h)
  have HYES : Hid (GoodMi S R st dt tx he → o = true) := fun h => ho.symm.trans (decide_eq_true h)
  rw [ho]
  obtain ⟨x0, x1, x2, x3, x4, x5⟩ := HX.out _ B0.out
  have HNT := hid nt
  have HND := hid nd
  clear hS hR ht hd k0 b0 ho fS fR nt nd
  go_enter Try.func13, Try.ntmps13
  go_upto_region 1 with fail
  clear hW x0 x1 x2 x3 x4 x5
  have hs0 : ∀ v : Gw W, v.v.cell? ⟨w.heap.size, 0, none⟩ = some (.slice s S.length ks) := fun v => (HX.out _ v.b).1
  have hs1 : ∀ v : Gw W, v.v.cell? ⟨w.heap.size, 1, none⟩ = some (.slice r R.length kr) := fun v => (HX.out _ v.b).2.1
  have hs2 : ∀ v : Gw W, v.v.cell? ⟨w.heap.size, 2, none⟩ = some (.slice t st.length kt) := fun v => (HX.out _ v.b).2.2.1
  have hs3 : ∀ v : Gw W, v.v.cell? ⟨w.heap.size, 3, none⟩ = some (.slice d dt.length kd) := fun v => (HX.out _ v.b).2.2.2.1
  have hs4 : ∀ v : Gw W, v.v.cell? ⟨w.heap.size, 4, none⟩ = some (.int .i64 tx) := fun v => (HX.out _ v.b).2.2.2.2.1
  have hs5 : ∀ v : Gw W, v.v.cell? ⟨w.heap.size, 5, none⟩ = some (.int .i64 he) := fun v => (HX.out _ v.b).2.2.2.2.2
  have hne : Nonempty (Gw W) := ⟨⟨W, Below.refl _ _⟩⟩
  have hcl : ∀ v : Gw W, ∃ s' : Gw W, v.v = s'.v := fun v => ⟨v, rfl⟩
  by_cases gS : GoodK S
  case neg =>
    rw [goodK_no gS] at P1
    refine region_grown W (Below.refl _ _) (by kernel_rfl) (by kernel_rfl) ?_
    repeat (go_big_quiet_step ((go_at_call 34; with_reducible exact P1.out _)))
    refine wpQuiet_nil ?_
    rintro _ ⟨v, rfl⟩
    have Hv := hid v.b
    clear hs0 hs1 hs2 hs3 hs4 hs5 P1 P2 P3 P4 P5 hne hcl
    go_wp2_with fail
    go_ret
    exact ⟨by rw [HNO.out (fun h => gS h.1.1)] <;> rfl, HU.out _ Hv.out⟩
  rw [goodK_iff.2 gS] at P1
  by_cases gR : GoodK R
  case neg =>
    rw [goodK_no gR] at P2
    refine region_grown W (Below.refl _ _) (by kernel_rfl) (by kernel_rfl) ?_
    repeat (go_big_quiet_step ((first | (go_at_call 34; with_reducible exact P1.out _) | (go_at_call 34; with_reducible exact P2.out _))))
    refine wpQuiet_nil ?_
    rintro _ ⟨v, rfl⟩
    have Hv := hid v.b
    clear hs0 hs1 hs2 hs3 hs4 hs5 P1 P2 P3 P4 P5 hne hcl
    go_wp2_with fail
    go_ret
    exact ⟨by rw [HNO.out (fun h => gR h.1.2.1)] <;> rfl, HU.out _ Hv.out⟩
  rw [goodK_iff.2 gR] at P2
  by_cases g2 : R.length = 2
  case neg =>
    have d1a : (((R.length : Nat) : Int) == (2 : Int)) = false := beq_eq_false_iff_ne.2 (by omega)
    have d1b : (((R.length : Nat) : Int) != (2 : Int)) = true := by rw [bne, d1a]; rfl
    have d1c : decide (((R.length : Nat) : Int) = (2 : Int)) = false := decide_eq_false (by omega)
    refine region_grown W (Below.refl _ _) (by kernel_rfl) (by kernel_rfl) ?_
    repeat (go_big_quiet_step ((first | (go_at_call 34; with_reducible exact P1.out _) | (go_at_call 34; with_reducible exact P2.out _))))
    refine wpQuiet_nil ?_
    rintro _ ⟨v, rfl⟩
    have Hv := hid v.b
    clear hs0 hs1 hs2 hs3 hs4 hs5 P1 P2 P3 P4 P5 hne hcl
    go_wp2_with fail
    go_ret
    exact ⟨by rw [HNO.out (fun h => g2 h.1.2.2.1)] <;> rfl, HU.out _ Hv.out⟩
  have d1a : (((R.length : Nat) : Int) == (2 : Int)) = true := beq_iff_eq.2 (by omega)
  have d1b : (((R.length : Nat) : Int) != (2 : Int)) = false := by rw [bne, d1a]; rfl
  have d1c : decide (((R.length : Nat) : Int) = (2 : Int)) = true := decide_eq_true (by omega)
  have P3 := hid (P3.out (by omega))
  have P4 := hid (P4.out gS.1)
  have P5 := hid (P5.out (by omega) gS.1 gS.2.1)
  have hm0 : 0 ≤ mk0 R ∧ mk0 R ≤ 200 := by rw [mk0_at (by omega)]; exact ⟨(gR.2.2 0 (by omega)).2.1, (gR.2.2 0 (by omega)).2.2.1⟩
  have HM1 : Hid (¬ mk1 R = mk0 R + 1 → o = false) := fun h => HNO.out (fun g => h g.1.2.2.2)
  have HM2 : Hid (setM S (mk0 R) = false → o = false) := fun h => HNO.out (fun g => by rw [g.2.1.1] at h; cases h)
  have HM3 : Hid (setM S he = false → o = false) := fun h => HNO.out (fun g => by rw [g.2.1.2.1] at h; cases h)
  have HM4 : Hid (¬ he ≤ mk0 R → o = false) := fun h => HNO.out (fun g => h g.2.1.2.2)
  have HM5 : Hid (¬ TwoOk dt → o = false) := fun h => HNO.out (fun g => h g.2.2.1)
  have HM6 : Hid (¬ RiseOk st → o = false) := fun h => HNO.out (fun g => h g.2.2.2.1.1)
  have HM7 : Hid (¬ dt.length = st.length → o = false) := fun h => HNO.out (fun g => h g.2.2.2.1.2)
  have HM8 : Hid (tx = 0 → ¬ (st.length = 0 ∧ (bl1 R).length = 0) → o = false) := fun h0 h => HNO.out (fun g => by have := g.2.2.2.2; rw [if_pos h0] at this; exact h this)
  have HM9 : Hid (¬ tx = 0 → ¬ (tx = nextM S (mk0 R) ∧ 0 < st.length) → o = false) := fun h0 h => HNO.out (fun g => by have := g.2.2.2.2; rw [if_neg h0] at this; exact h this)
  have HMY : Hid (mk1 R = mk0 R + 1 → setM S (mk0 R) = true → setM S he = true → he ≤ mk0 R → TwoOk dt → RiseOk st → dt.length = st.length → (if tx = 0 then st.length = 0 ∧ (bl1 R).length = 0 else tx = nextM S (mk0 R) ∧ 0 < st.length) → o = true) := fun h1 h2 h3 h4 h5 h6 h7 h8 => HYES.out ⟨⟨gS, gR, g2, h1⟩, ⟨h2, h3, h4⟩, h5, ⟨h6, h7⟩, h8⟩
  obtain ⟨rb, off, hre, hrb, hrc⟩ := HYR.out _ B0.out (by omega)
  obtain ⟨p1, c1, q1, e1, r10, r11, -, -, -⟩ := hrc 1 (by omega)
  rw [← mk1_at (by omega)] at r10
  rw [← bl1_at (by omega)] at r11
  subst hre
  simp only [Nat.one_mul] at r10 r11
  have HR1 : Hid (∀ v, Below W.heap.size W v → v.cell? ⟨rb, off + 3, none⟩ = some (.int .i64 (mk1 R)) ∧ v.cell? ⟨rb, off + 3 + 1, none⟩ = some (.slice p1 (bl1 R).length c1)) := fun v g => ⟨(g.cell (p := ⟨rb, off + 3, none⟩) hrb).trans r10, (g.cell (p := ⟨rb, off + 3 + 1, none⟩) hrb).trans r11⟩
  have hs6 : ∀ v : Gw W, v.v.cell? ⟨rb, off + 3, none⟩ = some (.int .i64 (mk1 R)) := fun v => (HR1.out _ v.b).1
  have hr1 : 1 < R.length := by omega
  clear hrc r10 r11 HNO HYES gS gR g2
  generalize mk1 R = m1 at *
  generalize mk0 R = m0 at *
  generalize bl1 R = B1 at *
  generalize nextM S m0 = nx at *
  have hwr : IntKind.i64.wrap (m0 + 1) = m0 + 1 := by rw [IntKind.wrap_i64]; omega
  have hwr2 : wrap64 (m0 + 1) = m0 + 1 := by unfold wrap64; omega
  by_cases g3 : m1 = m0 + 1
  case neg =>
    have d2a : ((m1 : Int) == (m0 + 1 : Int)) = false := beq_eq_false_iff_ne.2 (by omega)
    have d2b : ((m1 : Int) != (m0 + 1 : Int)) = true := by rw [bne, d2a]; rfl
    have d2c : decide ((m1 : Int) = (m0 + 1 : Int)) = false := decide_eq_false (by omega)
    refine region_grown W (Below.refl _ _) (by kernel_rfl) (by kernel_rfl) ?_
    repeat (go_big_quiet_step ((first | (go_at_call 34; with_reducible exact P1.out _) | (go_at_call 34; with_reducible exact P2.out _) | (go_at_call 35; with_reducible exact P3.out _))))
    refine wpQuiet_nil ?_
    rintro _ ⟨v, rfl⟩
    have Hv := hid v.b
    clear hs0 hs1 hs2 hs3 hs4 hs5 hs6 P1 P2 P3 P4 P5 hne hcl
    have E := hid (HM1.out g3)
    go_wp2_with fail
    go_ret
    exact ⟨by rw [E.out] <;> rfl, HU.out _ Hv.out⟩
  have d2a : ((m1 : Int) == (m0 + 1 : Int)) = true := beq_iff_eq.2 (by omega)
  have d2b : ((m1 : Int) != (m0 + 1 : Int)) = false := by rw [bne, d2a]; rfl
  have d2c : decide ((m1 : Int) = (m0 + 1 : Int)) = true := decide_eq_true (by omega)
  refine region_grown W (Below.refl _ _) (by kernel_rfl) (by kernel_rfl) ?_
  repeat (go_big_quiet_step ((first | (go_at_call 34; with_reducible exact P1.out _) | (go_at_call 34; with_reducible exact P2.out _) | (go_at_call 35; with_reducible exact P3.out _))))
  refine wpQuiet_nil ?_
  rintro _ ⟨v, rfl⟩
  have Hv := hid v.b
  clear P1 P2 hs6
  have HG3 := hid g3
  clear g3 d2a d2b d2c hwr hwr2 d1a d1b d1c
  go_upto_region 3 with fail
  have P4a := hid (P4.out m0)
  have P4b := hid (P4.out he)
  clear P4
  cases h4 : setM S m0
  · rw [h4] at P4a
    have E := hid (HM2.out h4)
    clear h4
    refine region_grown W Hv.out (by kernel_rfl) (by kernel_rfl) ?_
    repeat (go_big_quiet_step ((first | (go_at_call 35; with_reducible exact P3.out _) | (go_at_call 36; with_reducible exact P4a.out _))))
    refine wpQuiet_nil ?_
    rintro _ ⟨u, rfl⟩
    have Hu := hid u.b
    clear hs0 hs1 hs2 hs3 hs4 hs5 P3 P4a P4b P5 hne hcl
    go_wp2_with fail
    go_ret
    exact ⟨by rw [E.out] <;> rfl, HU.out _ Hu.out⟩
  rw [h4] at P4a
  cases h5 : setM S he
  · rw [h5] at P4b
    have E := hid (HM3.out h5)
    clear h4 h5
    refine region_grown W Hv.out (by kernel_rfl) (by kernel_rfl) ?_
    repeat (go_big_quiet_step ((first | (go_at_call 35; with_reducible exact P3.out _) | (go_at_call 36; with_reducible exact P4a.out _) | (go_at_call 36; with_reducible exact P4b.out _))))
    refine wpQuiet_nil ?_
    rintro _ ⟨u, rfl⟩
    have Hu := hid u.b
    clear hs0 hs1 hs2 hs3 hs4 hs5 P3 P4a P4b P5 hne hcl
    go_wp2_with fail
    go_ret
    exact ⟨by rw [E.out] <;> rfl, HU.out _ Hu.out⟩
  rw [h5] at P4b
  by_cases h6 : he ≤ m0
  case neg =>
    have d3 : decide (m0 < he) = true := decide_eq_true (by omega)
    have E := hid (HM4.out h6)
    clear h4 h5 h6
    refine region_grown W Hv.out (by kernel_rfl) (by kernel_rfl) ?_
    repeat (go_big_quiet_step ((first | (go_at_call 35; with_reducible exact P3.out _) | (go_at_call 36; with_reducible exact P4a.out _) | (go_at_call 36; with_reducible exact P4b.out _))))
    refine wpQuiet_nil ?_
    rintro _ ⟨u, rfl⟩
    have Hu := hid u.b
    clear hs0 hs1 hs2 hs3 hs4 hs5 P3 P4a P4b P5 hne hcl
    go_wp2_with fail
    go_ret
    exact ⟨by rw [E.out] <;> rfl, HU.out _ Hu.out⟩
  have d3 : decide (m0 < he) = false := decide_eq_false (by omega)
  have H456 := hid (And.intro h4 (And.intro h5 h6))
  clear h4 h5 h6
  refine region_grown W Hv.out (by kernel_rfl) (by kernel_rfl) ?_
  repeat (go_big_quiet_step ((first | (go_at_call 35; with_reducible exact P3.out _) | (go_at_call 36; with_reducible exact P4a.out _) | (go_at_call 36; with_reducible exact P4b.out _))))
  refine wpQuiet_nil ?_
  rintro _ ⟨u, rfl⟩
  have Hu := hid u.b
  clear hs0 hs1 hs2 hs3 hs4 hs5 P3 P4a P4b
  have HMZ := hid (HMY.out HG3.out H456.out.1 H456.out.2.1 H456.out.2.2)
  clear HMY HM1 HM2 HM3 HM4 d3 Hv v HG3 H456
  obtain ⟨x0, x1, x2, x3, x4, x5⟩ := HX.out _ Hu.out
  go_wp2_with fail
  clear x0 x1 x2 x3 x4 x5
  go_loopw [58] (fun i wi => ∃ j : Nat, j ≤ dt.length ∧ i = .int .i64 j ∧ (∀ r (h : r < dt.length), r < j → dt[r].size = 2) ∧ Below W.heap.size W wi) (fun i _ => dt.length - (intOf i).toNat)
  case atStart => exact ⟨0, Nat.zero_le _, rfl, (fun _ _ h => absurd h (Nat.not_lt_zero _)), Hu.out⟩
  case round =>
    obtain ⟨j, hj, rfl, hall, hbel⟩ := hrel
    have HALL := hid hall
    have HBR := hid hbel
    have hnd := HND.out
    clear hall
    by_cases hjl : j < dt.length
    · obtain ⟨b2, off2, rfl, hb2, hc2⟩ := (HSD.out _ hbel).cell (by omega)
      have e0 := hc2 j hjl
      have HY2 : Hid (dt[j].size = 2 → ∀ r (h : r < dt.length), r < j + 1 → dt[r].size = 2) := fun g r hr hrj => by
        by_cases e : r = j
        · subst e; exact g
        · exact HALL.out r hr (by omega)
      have HN2 : Hid (¬ dt[j].size = 2 → o = false) := fun g => HM5.out (fun h => g (h j hjl))
      clear hc2 HALL hbel
      have HC := hid (fun u => l7Data_any dt[j] u)
      generalize dt[j] = D at *
      by_cases h2 : D.size = 2
      · rw [decide_eq_true h2] at HC
        have HY3 := hid (HY2.out h2)
        clear h2 HN2 HY2
        go_wp2_with fail
        refine (HC.out _).mono ?_
        rintro e w7 ⟨rfl, rfl⟩
        go_wp2_with fail
        go_roundw
        case rel => exact ⟨j + 1, by omega, by go_num, HY3.out, HBR.out⟩
        case measure => simp [intOf]; omega
      · rw [decide_eq_false h2] at HC
        have E := hid (HN2.out h2)
        clear h2 HN2 HY2
        go_wp2_with fail
        refine (HC.out _).mono ?_
        rintro e w7 ⟨rfl, rfl⟩
        go_wp2_with fail
        go_ret
        exact ⟨by rw [E.out] <;> rfl, HU.out _ HBR.out⟩
    · obtain rfl : j = dt.length := by omega
      have HTW : Hid (TwoOk dt) := fun k h => HALL.out k h h
      have HMQ := hid (fun h6 h7 h8 => HMZ.out HTW.out h6 h7 h8)
      have HNT' := HNT.out
      have HRI : Hid (∀ v, Below W.heap.size W v → Calls Try.prog 38 #[.slice t st.length kt, .int .i64 0, .int .i64 15] v fun e w' => e = .returned (.bool (decide (RiseOk st))) ∧ w' = v) := fun v g => l1Rising_any t kt st v HNT.out (HIT.out v g)
      clear HALL HTW HMZ
      obtain ⟨x0, x1, x2, x3, x4, x5⟩ := HX.out _ hbel
      clear hbel
      by_cases h6 : RiseOk st
      case neg =>
        rw [decide_eq_false h6] at HRI
        have E := hid (HM6.out h6)
        clear h6
        go_wp2_with fail
        refine (HRI.out _ HBR.out).mono ?_
        rintro e w7 ⟨rfl, rfl⟩
        go_wp2_with fail
        go_ret
        exact ⟨by rw [E.out] <;> rfl, HU.out _ HBR.out⟩
      rw [decide_eq_true h6] at HRI
      by_cases h7 : dt.length = st.length
      case neg =>
        have d4a : (((dt.length : Nat) : Int) == ((st.length : Nat) : Int)) = false := beq_eq_false_iff_ne.2 (by omega)
        have d4b : (((dt.length : Nat) : Int) != ((st.length : Nat) : Int)) = true := by rw [bne, d4a]; rfl
        have d4c : decide (((dt.length : Nat) : Int) = ((st.length : Nat) : Int)) = false := decide_eq_false (by omega)
        have E := hid (HM7.out h7)
        clear h6 h7
        go_wp2_with fail
        refine (HRI.out _ HBR.out).mono ?_
        rintro e w7 ⟨rfl, rfl⟩
        go_wp2_with fail
        go_ret
        exact ⟨by rw [E.out] <;> rfl, HU.out _ HBR.out⟩
      have HMT := hid (HMQ.out h6 h7)
      have d4a : (((dt.length : Nat) : Int) == ((st.length : Nat) : Int)) = true := beq_iff_eq.2 (by omega)
      have d4b : (((dt.length : Nat) : Int) != ((st.length : Nat) : Int)) = false := by rw [bne, d4a]; rfl
      have d4c : decide (((dt.length : Nat) : Int) = ((st.length : Nat) : Int)) = true := decide_eq_true (by omega)
      have d4d : decide (dt.length = st.length) = true := decide_eq_true h7
      have d4e : (dt.length == st.length) = true := beq_iff_eq.2 h7
      clear h6 h7 HMQ HM5 HM6 HM7
      generalize st.length = nst at *
      generalize B1.length = nb1 at *
      go_wp2_with fail
      refine (HRI.out _ HBR.out).mono ?_
      rintro e w7 ⟨rfl, rfl⟩
      clear HIT HRI
      by_cases h8 : tx = 0
      · have E8 := hid (HM8.out h8)
        rw [if_pos h8] at HMT
        subst h8
        by_cases h9 : nst = 0
        case neg =>
          have E := hid (E8.out (fun h => h9 h.1))
          have d5a : (((nst : Nat) : Int) == (0 : Int)) = false := beq_eq_false_iff_ne.2 (by omega)
          have d5b : (((nst : Nat) : Int) != (0 : Int)) = true := by rw [bne, d5a]; rfl
          have d5c : decide (((nst : Nat) : Int) = (0 : Int)) = false := decide_eq_false (by omega)
          have d5d : decide (nst = 0) = false := decide_eq_false h9
          have d5e : (nst == 0) = false := beq_eq_false_iff_ne.2 h9
          go_wp2_with fail
          go_ret
          exact ⟨by rw [E.out] <;> rfl, HU.out _ HBR.out⟩
        have E8 : Hid (¬ nb1 = 0 → o = false) := fun h => E8.out (fun g => h g.2)
        have HMT : Hid (nb1 = 0 → o = true) := fun h => HMT.out ⟨h9, h⟩
        have d5a : (((nst : Nat) : Int) == (0 : Int)) = true := beq_iff_eq.2 (by omega)
        have d5b : (((nst : Nat) : Int) != (0 : Int)) = false := by rw [bne, d5a]; rfl
        have d5c : decide (((nst : Nat) : Int) = (0 : Int)) = true := decide_eq_true (by omega)
        have d5d : decide (nst = 0) = true := decide_eq_true h9
        have d5e : (nst == 0) = true := beq_iff_eq.2 h9
        clear h9
        obtain ⟨-, y1⟩ := HR1.out _ HBR.out
        by_cases h10 : nb1 = 0
        case neg =>
          have E := hid (E8.out h10)
          have d6a : (((nb1 : Nat) : Int) == (0 : Int)) = false := beq_eq_false_iff_ne.2 (by omega)
          have d6b : (((nb1 : Nat) : Int) != (0 : Int)) = true := by rw [bne, d6a]; rfl
          have d6c : decide (((nb1 : Nat) : Int) = (0 : Int)) = false := decide_eq_false (by omega)
          have d6d : decide (nb1 = 0) = false := decide_eq_false h10
          have d6e : (nb1 == 0) = false := beq_eq_false_iff_ne.2 h10
          go_wp2_with fail
          go_ret
          exact ⟨by rw [E.out] <;> rfl, HU.out _ HBR.out⟩
        have d6a : (((nb1 : Nat) : Int) == (0 : Int)) = true := beq_iff_eq.2 (by omega)
        have d6b : (((nb1 : Nat) : Int) != (0 : Int)) = false := by rw [bne, d6a]; rfl
        have d6c : decide (((nb1 : Nat) : Int) = (0 : Int)) = true := decide_eq_true (by omega)
        have d6d : decide (nb1 = 0) = true := decide_eq_true h10
        have d6e : (nb1 == 0) = true := beq_iff_eq.2 h10
        have E := hid (HMT.out h10)
        clear h10
        go_wp2_with fail
        go_ret
        exact ⟨by rw [E.out] <;> rfl, HU.out _ HBR.out⟩
      · have E9 := hid (HM9.out h8)
        rw [if_neg h8] at HMT
        have d5a : ((tx : Int) == (0 : Int)) = false := beq_eq_false_iff_ne.2 (by omega)
        have d5b : ((tx : Int) != (0 : Int)) = true := by rw [bne, d5a]; rfl
        have d5c : decide ((tx : Int) = (0 : Int)) = false := decide_eq_false (by omega)
        clear h8
        go_upto_region 15 with fail
        clear x0 x1 x2 x3 x4 x5
        have hs0 : ∀ v : Gw W, v.v.cell? ⟨w.heap.size, 0, none⟩ = some (.slice s S.length ks) := fun v => (HX.out _ v.b).1
        have hs1 : ∀ v : Gw W, v.v.cell? ⟨w.heap.size, 1, none⟩ = some (.slice (some ⟨rb, off, none⟩) R.length kr) := fun v => (HX.out _ v.b).2.1
        have hs2 : ∀ v : Gw W, v.v.cell? ⟨w.heap.size, 2, none⟩ = some (.slice t nst kt) := fun v => (HX.out _ v.b).2.2.1
        have hs3 : ∀ v : Gw W, v.v.cell? ⟨w.heap.size, 3, none⟩ = some (.slice d dt.length kd) := fun v => (HX.out _ v.b).2.2.2.1
        have hs4 : ∀ v : Gw W, v.v.cell? ⟨w.heap.size, 4, none⟩ = some (.int .i64 tx) := fun v => (HX.out _ v.b).2.2.2.2.1
        have hs5 : ∀ v : Gw W, v.v.cell? ⟨w.heap.size, 5, none⟩ = some (.int .i64 he) := fun v => (HX.out _ v.b).2.2.2.2.2
        by_cases h9 : tx = nx
        case neg =>
          have E := hid (E9.out (fun h => h9 h.1))
          have d6a : ((tx : Int) == (nx : Int)) = false := beq_eq_false_iff_ne.2 (by omega)
          have d6b : ((tx : Int) != (nx : Int)) = true := by rw [bne, d6a]; rfl
          have d6c : decide ((tx : Int) = (nx : Int)) = false := decide_eq_false (by omega)
          clear h9
          refine region_grown W HBR.out (by kernel_rfl) (by kernel_rfl) ?_
          repeat (go_big_quiet_step ((go_at_call 39; with_reducible exact P5.out _)))
          refine wpQuiet_nil ?_
          rintro _ ⟨v9, rfl⟩
          have Hv9 := hid v9.b
          clear hs0 hs1 hs2 hs3 hs4 hs5 P5 hne hcl
          go_wp2_with fail
          go_ret
          exact ⟨by rw [E.out] <;> rfl, HU.out _ Hv9.out⟩
        have d6a : ((tx : Int) == (nx : Int)) = true := beq_iff_eq.2 (by omega)
        have d6b : ((tx : Int) != (nx : Int)) = false := by rw [bne, d6a]; rfl
        have d6c : decide ((tx : Int) = (nx : Int)) = true := decide_eq_true (by omega)
        by_cases h10 : 0 < nst
        case neg =>
          have E := hid (E9.out (fun h => h10 h.2))
          have d7 : decide ((0 : Int) < ((nst : Nat) : Int)) = false := decide_eq_false (by omega)
          have d8 : decide (0 < nst) = false := decide_eq_false h10
          clear h9
          refine region_grown W HBR.out (by kernel_rfl) (by kernel_rfl) ?_
          repeat (go_big_quiet_step ((go_at_call 39; with_reducible exact P5.out _)))
          refine wpQuiet_nil ?_
          rintro _ ⟨v9, rfl⟩
          have Hv9 := hid v9.b
          clear hs0 hs1 hs2 hs3 hs4 hs5 P5 hne hcl
          go_wp2_with fail
          go_ret
          exact ⟨by rw [E.out] <;> rfl, HU.out _ Hv9.out⟩
        have E := hid (HMT.out ⟨h9, h10⟩)
        have d7 : decide ((0 : Int) < ((nst : Nat) : Int)) = true := decide_eq_true (by omega)
        have d8 : decide (0 < nst) = true := decide_eq_true h10
        clear h9
        refine region_grown W HBR.out (by kernel_rfl) (by kernel_rfl) ?_
        repeat (go_big_quiet_step ((go_at_call 39; with_reducible exact P5.out _)))
        refine wpQuiet_nil ?_
        rintro _ ⟨v9, rfl⟩
        have Hv9 := hid v9.b
        clear hs0 hs1 hs2 hs3 hs4 hs5 P5 hne hcl
        go_wp2_with fail
        go_ret
        exact ⟨by rw [E.out] <;> rfl, HU.out _ Hv9.out⟩
end Go.Proofs.Ytfdkhoelcmmfcaa

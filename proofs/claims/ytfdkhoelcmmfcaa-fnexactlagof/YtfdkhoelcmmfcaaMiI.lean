/- The program's small functions over mirrors. -/
import Derived.Test.YtfdkhoelcmmfcaaMiS
import Derived.Test.YtfdkhoelcmmfcaaMiA
import Derived.Test.YtfdkhoelcmmfcaaKHas
import Derived.Test.YtfdkhoelcmmfcaaKGoodJ
namespace Go.Proofs.Ytfdkhoelcmmfcaa
set_option maxRecDepth 100000
open Go Go.ChangeShapes Go.WideShapes Go.ChangeAt Go.RowKit
theorem risesm {S : List Ly} (h : LysOk S) : ∀ d i (g : i + d + 1 < S.length), S[i].mark < S[i + d + 1].mark
  | 0, i, g => by
    have := (h (i + 1) g).1
    rw [aheadM_at S i (by omega)] at this
    exact this
  | d + 1, i, g => by
    have h1 := risesm h d i (by omega)
    have h2 := (h (i + (d + 1) + 1) g).1
    rw [aheadM_at S (i + (d + 1)) (by omega)] at h2
    exact Int.lt_trans h1 h2
theorem rise_ltm {S : List Ly} (h : LysOk S) (i j : Nat) (hij : i < j) (g : j < S.length) : S[i].mark < S[j].mark := by
  obtain ⟨d, rfl⟩ : ∃ d, j = i + d + 1 := ⟨j - i - 1, by omega⟩
  exact risesm h d i g
def lastMk (S : List Ly) : Int := aheadM S S.length
theorem lastMk_at {S : List Ly} (h : 0 < S.length) : lastMk S = (S[S.length - 1]'(by omega)).mark := by
  unfold lastMk
  have h1 := aheadM_at S (S.length - 1) (by omega)
  have h2 : aheadM S S.length = aheadM S (S.length - 1 + 1) := by rw [Nat.sub_add_cancel h]
  rw [h2]
  exact h1
set_option maxHeartbeats 1000000 in
theorem lastMark_m (a : Option Addr) (cap : Nat) (S : List Ly) (w : World) (h0 : 0 < S.length) (hn : S.length ≤ 9000) (hG : Ys w.heap.size a S w) :
    Calls Try.prog 60 #[.agg #[.slice a S.length cap]] w fun e w' => e = .returned (.int .i64 (lastMk S)) ∧ Below w.heap.size w w' := by
  have HB := hid (Bx.start w (.cells #[.slice a S.length cap] 24))
  obtain ⟨b, off, rfl, hb, hcl⟩ := (hG.below HB.out.below) h0
  obtain ⟨p, c, q, d, c0, -⟩ := hcl (S.length - 1) (by omega)
  have hl := lastMk_at h0
  rw [← hl] at c0
  obtain ⟨n, hnn⟩ : ∃ n, S.length = n + 1 := ⟨S.length - 1, by omega⟩
  rw [hnn] at c0 ⊢
  have e1 : n + 1 - 1 = n := by omega
  rw [e1] at c0
  have x0 : (w.alloc (.cells #[.slice (some ⟨b, off, none⟩) S.length cap] 24)).cell? ⟨w.heap.size, 0, none⟩ = some (.slice (some ⟨b, off, none⟩) S.length cap) := box_cell HB.out.box 0
  rw [hnn] at x0 HB
  have hpw := pred_wrap n (by omega)
  have hnb : n ≤ 9000 := by omega
  clear hcl hG hl hnn hn h0 e1
  generalize lastMk S = q9 at *
  generalize hW : w.alloc (.cells #[.slice (some ⟨b, off, none⟩) (n + 1) cap] 24) = W at *
  go_enter Try.func60, Try.ntmps60
  go_wp2_with fail
  go_ret
  exact ⟨rfl, HB.out.below⟩
theorem setM_last {S : List Ly} (h : GoodK S) (m : Int) (hm : fndK S m < S.length) : (m = lastMk S) ↔ ¬ fndK S m + 1 < S.length := by
  have h0 := h.1
  have e1 : S[fndK S m].mark = m := by
    have := List.findIdx_getElem (w := hm) (p := fun y : Ly => y.mark == m)
    exact beq_iff_eq.1 this
  have e2 := lastMk_at (S := S) (by omega)
  constructor
  · intro e hl
    have := rise_ltm h.2.2 (fndK S m) (S.length - 1) (by omega) (by omega)
    omega
  · intro hl
    have e3 : fndK S m = S.length - 1 := by omega
    have e4 : S[fndK S m].mark = (S[S.length - 1]'(by omega)).mark := by simp only [e3]
    rw [e2, ← e4, e1]
theorem setM_at {S : List Ly} (h : GoodK S) (k : Nat) (hk : k < S.length) : setM S S[k].mark = decide (S[k].mark < lastMk S) := by
  have h0 := h.1
  have e : fndK S S[k].mark = k := fndK_at hk rfl (fun j g hj => by have := rise_ltm h.2.2 j k hj hk; omega)
  have e2 := lastMk_at (S := S) (by omega)
  unfold setM
  rw [e]
  by_cases q : k + 1 < S.length
  · rw [decide_eq_true q, decide_eq_true]
    have := rise_ltm h.2.2 k (S.length - 1) (by omega) (by omega)
    omega
  · rw [decide_eq_false q, decide_eq_false]
    have e3 : k = S.length - 1 := by omega
    simp only [e2, e3]
    omega
set_option maxHeartbeats 2000000 in
theorem firstMark_any (r : Option Addr) (kr : Nat) (R : List Ly) (w : World) (h0 : 0 < R.length) (hR : Ys w.heap.size r R w) :
    Calls Try.prog 45 #[.agg #[.slice r R.length kr]] w fun e w' => e = .returned (.int .i64 (mk0 R)) ∧ Below w.heap.size w w' := by
  rw [mk0_at h0]
  obtain ⟨k0, b0⟩ := alloc1 w (.cells #[.slice r R.length kr] 24)
  generalize hW : w.alloc (.cells #[.slice r R.length kr] 24) = W at *
  have x0 := box_cell k0 0
  obtain ⟨b, off, rfl, hb, hc⟩ := (hR.below b0) h0
  obtain ⟨p, c, q, e, c0, -, -, -, -⟩ := hc 0 h0
  have HB := hid b0
  clear hc hR k0 b0
  generalize R[0].mark = m at *
  obtain ⟨n, hn⟩ : ∃ n, R.length = n + 1 := ⟨R.length - 1, by omega⟩
  rw [hn] at x0 hW ⊢
  simp only [Nat.zero_mul, Nat.add_zero] at c0
  go_enter Try.func45, Try.ntmps45
  go_wp2_with fail
  go_ret
  exact ⟨rfl, HB.out⟩
set_option maxHeartbeats 4000000 in
theorem isPair_any (r : Option Addr) (kr : Nat) (R : List Ly) (w : World) (hg : GoodK R) (hR : Ys w.heap.size r R w) :
    Calls Try.prog 44 #[.agg #[.slice r R.length kr]] w fun e w' => e = .returned (.bool (decide (R.length = 2 ∧ mk1 R = mk0 R + 1))) ∧ Below w.heap.size w w' := by
  obtain ⟨k0, b0⟩ := alloc1 w (.cells #[.slice r R.length kr] 24)
  generalize hW : w.alloc (.cells #[.slice r R.length kr] 24) = W at *
  have HX : Hid (∀ v, Below W.heap.size W v → v.cell? ⟨w.heap.size, 0, none⟩ = some (.slice r R.length kr)) := fun v g => box_cell ((g.block _ (Array.getElem?_eq_some_iff.1 k0).1).trans k0) 0
  have HU : Hid (∀ v, Below W.heap.size W v → Below w.heap.size w v) := fun v g => b0.trans (g.mono b0.size)
  have P1 : Hid (∀ v : Gw W, Calls Try.prog 60 #[.agg #[.slice r R.length kr]] v.v fun e w'' => e = .returned (.int .i64 (lastMk R)) ∧ ∃ s' : Gw W, w'' = s'.v) := fun v => grown_of (lastMark_m r kr R v.v hg.1 (by have := hg.2.1; omega) ((hR.below (HU.out v.v v.b)).mono (HU.out v.v v.b).size))
  have P2 : Hid (∀ v : Gw W, Calls Try.prog 45 #[.agg #[.slice r R.length kr]] v.v fun e w'' => e = .returned (.int .i64 (mk0 R)) ∧ ∃ s' : Gw W, w'' = s'.v) := fun v => grown_of (firstMark_any r kr R v.v hg.1 ((hR.below (HU.out v.v v.b)).mono (HU.out v.v v.b).size))
  obtain ⟨o, ho⟩ : ∃ o, decide (R.length = 2 ∧ mk1 R = mk0 R + 1) = o := ⟨_, rfl⟩
  have HO := hid ho
  rw [ho]
  have hm0 : 0 ≤ mk0 R ∧ mk0 R ≤ 200 := by rw [mk0_at hg.1]; exact ⟨(hg.2.2 0 hg.1).2.1, (hg.2.2 0 hg.1).2.2.1⟩
  have HL : Hid (R.length = 2 → lastMk R = mk1 R) := fun h => by
    rw [lastMk_at (by omega), mk1_at (by omega)]
    simp only [h]
  have hwr : IntKind.i64.wrap (mk0 R + 1) = mk0 R + 1 := by rw [IntKind.wrap_i64]; omega
  have hwr2 : wrap64 (mk0 R + 1) = mk0 R + 1 := by unfold wrap64; omega
  clear hR k0 b0 ho hg
  generalize mk0 R = m0 at *
  generalize mk1 R = m1 at *
  generalize lastMk R = ml at *
  go_enter Try.func44, Try.ntmps44
  go_upto_region 1 with fail
  clear hW
  have hs0 : ∀ v : Gw W, v.v.cell? ⟨w.heap.size, 0, none⟩ = some (.slice r R.length kr) := fun v => HX.out _ v.b
  have hne : Nonempty (Gw W) := ⟨⟨W, Below.refl _ _⟩⟩
  have hcl : ∀ v : Gw W, ∃ s' : Gw W, v.v = s'.v := fun v => ⟨v, rfl⟩
  by_cases g2 : R.length = 2
  case neg =>
    have d1a : (((R.length : Nat) : Int) == (2 : Int)) = false := beq_eq_false_iff_ne.2 (by omega)
    have d1b : (((R.length : Nat) : Int) != (2 : Int)) = true := by rw [bne, d1a]; rfl
    have d1c : decide (((R.length : Nat) : Int) = (2 : Int)) = false := decide_eq_false (by omega)
    have E : Hid (o = false) := by show o = false; rw [← HO.out]; exact decide_eq_false (fun h => g2 h.1)
    clear g2
    refine region_grown W (Below.refl _ _) (by kernel_rfl) (by kernel_rfl) ?_
    repeat (go_big_quiet_step (fail))
    refine wpQuiet_nil ?_
    rintro _ ⟨v, rfl⟩
    have Hv := hid v.b
    clear hs0 P1 P2 hne hcl
    go_wp2_with fail
    go_ret
    exact ⟨by rw [E.out] <;> rfl, HU.out _ Hv.out⟩
  have d1a : (((R.length : Nat) : Int) == (2 : Int)) = true := beq_iff_eq.2 (by omega)
  have d1b : (((R.length : Nat) : Int) != (2 : Int)) = false := by rw [bne, d1a]; rfl
  have d1c : decide (((R.length : Nat) : Int) = (2 : Int)) = true := decide_eq_true (by omega)
  have e1 := HL.out g2
  subst e1
  by_cases g3 : ml = m0 + 1
  case neg =>
    have d2a : ((ml : Int) == (m0 + 1 : Int)) = false := beq_eq_false_iff_ne.2 (by omega)
    have d2b : ((ml : Int) != (m0 + 1 : Int)) = true := by rw [bne, d2a]; rfl
    have d2c : decide ((ml : Int) = (m0 + 1 : Int)) = false := decide_eq_false (by omega)
    have E : Hid (o = false) := by show o = false; rw [← HO.out]; exact decide_eq_false (fun h => g3 h.2)
    clear g2 g3
    refine region_grown W (Below.refl _ _) (by kernel_rfl) (by kernel_rfl) ?_
    repeat (go_big_quiet_step ((first | (go_at_call 60; with_reducible exact P1.out _) | (go_at_call 45; with_reducible exact P2.out _))))
    refine wpQuiet_nil ?_
    rintro _ ⟨v, rfl⟩
    have Hv := hid v.b
    clear hs0 P1 P2 hne hcl
    go_wp2_with fail
    go_ret
    exact ⟨by rw [E.out] <;> rfl, HU.out _ Hv.out⟩
  have d2a : ((ml : Int) == (m0 + 1 : Int)) = true := beq_iff_eq.2 (by omega)
  have d2b : ((ml : Int) != (m0 + 1 : Int)) = false := by rw [bne, d2a]; rfl
  have d2c : decide ((ml : Int) = (m0 + 1 : Int)) = true := decide_eq_true (by omega)
  have E : Hid (o = true) := by show o = true; rw [← HO.out]; exact decide_eq_true ⟨g2, g3⟩
  clear g2 g3
  refine region_grown W (Below.refl _ _) (by kernel_rfl) (by kernel_rfl) ?_
  repeat (go_big_quiet_step ((first | (go_at_call 60; with_reducible exact P1.out _) | (go_at_call 45; with_reducible exact P2.out _))))
  refine wpQuiet_nil ?_
  rintro _ ⟨v, rfl⟩
  have Hv := hid v.b
  clear hs0 P1 P2 hne hcl
  go_wp2_with fail
  go_ret
  exact ⟨by rw [E.out] <;> rfl, HU.out _ Hv.out⟩
set_option maxHeartbeats 4000000 in
theorem isSet_any (s : Option Addr) (ks : Nat) (S : List Ly) (m : Int) (w : World) (hg : GoodK S) (hS : Ys w.heap.size s S w) :
    Calls Try.prog 46 #[.agg #[.slice s S.length ks], .int .i64 m] w fun e w' => e = .returned (.bool (setM S m)) ∧ Below w.heap.size w w' := by
  obtain ⟨k0, b0⟩ := alloc1 w (.cells #[.slice s S.length ks] 24)
  generalize hW : w.alloc (.cells #[.slice s S.length ks] 24) = W at *
  have HX : Hid (∀ v, Below W.heap.size W v → v.cell? ⟨w.heap.size, 0, none⟩ = some (.slice s S.length ks)) := fun v g => box_cell ((g.block _ (Array.getElem?_eq_some_iff.1 k0).1).trans k0) 0
  have HU : Hid (∀ v, Below W.heap.size W v → Below w.heap.size w v) := fun v g => b0.trans (g.mono b0.size)
  have B0 : Hid (Below W.heap.size W W) := Below.refl _ _
  have HF : Hid (∀ v, Below W.heap.size W v → Calls Try.prog 61 #[.agg #[.slice s S.length ks], .int .i64 m] v fun e w' => e = .returned (.bool (decide (fndK S m < S.length))) ∧ Below v.heap.size v w') := fun v g => hasMark_any s ks S m v (by have := hg.2.1; omega) ((hS.below (HU.out v g)).mono (HU.out v g).size)
  have HLM : Hid (∀ v, Below W.heap.size W v → Calls Try.prog 60 #[.agg #[.slice s S.length ks]] v fun e w' => e = .returned (.int .i64 (lastMk S)) ∧ Below v.heap.size v w') := fun v g => lastMark_m s ks S v hg.1 (by have := hg.2.1; omega) ((hS.below (HU.out v g)).mono (HU.out v g).size)
  obtain ⟨o, ho⟩ : ∃ o, setM S m = o := ⟨_, rfl⟩
  have HO : Hid (decide (fndK S m + 1 < S.length) = o) := ho
  have HQ := hid (setM_last hg m)
  rw [ho]
  have x0 := HX.out _ B0.out
  clear hS k0 b0 ho hg
  generalize lastMk S = ml at *
  go_enter Try.func46, Try.ntmps46
  go_wp2_with fail
  clear hW
  refine (HF.out _ B0.out).mono ?_
  rintro e w1 ⟨rfl, g1⟩
  have B1 : Hid (Below W.heap.size W w1) := g1
  clear g1 x0
  have x0 := HX.out _ B1.out
  by_cases q : fndK S m < S.length
  case neg =>
    have E : Hid (o = false) := by show o = false; rw [← HO.out]; exact decide_eq_false (by omega)
    rw [decide_eq_false q]
    clear q HF
    go_wp2_with fail
    go_ret
    exact ⟨by rw [E.out] <;> rfl, HU.out _ B1.out⟩
  have HQ2 := hid (HQ.out q)
  rw [decide_eq_true q]
  clear q HF
  go_wp2_with fail
  refine (HLM.out _ B1.out).mono ?_
  rintro e w2 ⟨rfl, g2⟩
  have B2 : Hid (Below W.heap.size W w2) := B1.out.trans (g2.mono B1.out.size)
  clear g2 x0
  by_cases q2 : m = ml
  · have E : Hid (o = false) := by show o = false; rw [← HO.out]; exact decide_eq_false (HQ2.out.1 q2)
    have d1a : ((m : Int) == (ml : Int)) = true := beq_iff_eq.2 (by omega)
    have d1b : ((m : Int) != (ml : Int)) = false := by rw [bne, d1a]; rfl
    have d1c : decide ((m : Int) = (ml : Int)) = true := decide_eq_true (by omega)
    clear HQ HQ2 HO q2
    go_wp2_with fail
    go_ret
    exact ⟨by rw [E.out] <;> rfl, HU.out _ B2.out⟩
  · have E : Hid (o = true) := by show o = true; rw [← HO.out]; exact decide_eq_true (Classical.byContradiction fun h => q2 (HQ2.out.2 h))
    have d1a : ((m : Int) == (ml : Int)) = false := beq_eq_false_iff_ne.2 (by omega)
    have d1b : ((m : Int) != (ml : Int)) = true := by rw [bne, d1a]; rfl
    have d1c : decide ((m : Int) = (ml : Int)) = false := decide_eq_false (by omega)
    clear HQ HQ2 HO q2
    go_wp2_with fail
    go_ret
    exact ⟨by rw [E.out] <;> rfl, HU.out _ B2.out⟩
set_option maxHeartbeats 8000000 in
theorem marksLacked_any (s r t d : Option Addr) (ks kr kt kd : Nat) (S R : List Ly) (st : List Int) (dt : List ByteArray) (tx he : Int) (w : World) (hgS : GoodK S) (h0 : 0 < R.length) (hS : Ys w.heap.size s S w) (hR : Ys w.heap.size r R w) :
    Calls Try.prog 49 #[.agg #[.slice s S.length ks, .slice r R.length kr, .slice t st.length kt, .slice d dt.length kd, .int .i64 tx, .int .i64 he]] w fun e w' => ∃ v, e = .returned v ∧ AL w.heap.size v (lackL S (mk0 R)) w' ∧ Below w.heap.size w w' := by
  obtain ⟨k0, b0⟩ := alloc1 w (.cells #[.slice s S.length ks, .slice r R.length kr, .slice t st.length kt, .slice d dt.length kd, .int .i64 tx, .int .i64 he] 28)
  generalize hW : w.alloc (.cells #[.slice s S.length ks, .slice r R.length kr, .slice t st.length kt, .slice d dt.length kd, .int .i64 tx, .int .i64 he] 28) = W at *
  have HX : Hid (∀ v, Below W.heap.size W v → v.cell? ⟨w.heap.size, 0, none⟩ = some (.slice s S.length ks) ∧ v.cell? ⟨w.heap.size, 1, none⟩ = some (.slice r R.length kr) ∧ v.cell? ⟨w.heap.size, 2, none⟩ = some (.slice t st.length kt) ∧ v.cell? ⟨w.heap.size, 3, none⟩ = some (.slice d dt.length kd) ∧ v.cell? ⟨w.heap.size, 4, none⟩ = some (.int .i64 tx) ∧ v.cell? ⟨w.heap.size, 5, none⟩ = some (.int .i64 he)) := fun v g => by
    have h1 := (g.block _ (Array.getElem?_eq_some_iff.1 k0).1).trans k0
    exact ⟨box_cell h1 0, box_cell h1 1, box_cell h1 2, box_cell h1 3, box_cell h1 4, box_cell h1 5⟩
  have HU : Hid (∀ v, Below W.heap.size W v → Below w.heap.size w v) := fun v g => b0.trans (g.mono b0.size)
  have B0 : Hid (Below W.heap.size W W) := Below.refl _ _
  have HYS : Hid (∀ v, Below W.heap.size W v → Ys v.heap.size s S v) := fun v g => (hS.below (HU.out v g)).mono (HU.out v g).size
  have HFM : Hid (∀ v, Below W.heap.size W v → Calls Try.prog 45 #[.agg #[.slice r R.length kr]] v fun e w' => e = .returned (.int .i64 (mk0 R)) ∧ Below v.heap.size v w') := fun v g => firstMark_any r kr R v h0 ((hR.below (HU.out v g)).mono (HU.out v g).size)
  have HLM : Hid (∀ v, Below W.heap.size W v → Calls Try.prog 60 #[.agg #[.slice s S.length ks]] v fun e w' => e = .returned (.int .i64 (lastMk S)) ∧ Below v.heap.size v w') := fun v g => lastMark_m s ks S v hgS.1 (by have := hgS.2.1; omega) (HYS.out v g)
  obtain ⟨x0, x1, x2, x3, x4, x5⟩ := HX.out _ B0.out
  have HWs := hid b0.size
  have h28 : S.length ≤ 8 := hgS.2.1
  have HS8 := hid hgS.2.1
  have HSA := hid (setM_at hgS)
  clear hS hR k0 b0 hgS
  generalize mk0 R = rm at *
  generalize lastMk S = ml at *
  go_enter Try.func49, Try.ntmps49
  go_wp2_with fail
  clear hW x0 x1 x2 x3 x4 x5
  go_loopw [3, 10] (fun n i wr => ∃ (k : Nat) (v : Value), k ≤ S.length ∧ i = .int .i64 k ∧ n = v ∧ AL W.heap.size v (lackT S rm k) wr ∧ Below W.heap.size W wr) (fun _ i _ => S.length - (intOf i).toNat)
  case atStart => exact ⟨0, _, Nat.zero_le _, rfl, rfl, AL.nil _ _, B0.out⟩
  case round =>
    obtain ⟨k, v, hk, rfl, rfl, hal, hbel⟩ := hrel
    have HBR := hid hbel
    have HAL := hid hal
    clear hal
    by_cases hlt : k < S.length
    · obtain ⟨ba, off, rfl, hb, hcl⟩ := HYS.out _ hbel (by omega)
      obtain ⟨p, k1, q, k2, c0, c1, c2, -, -⟩ := hcl k hlt
      have HY : Hid (cnd S rm S[k].mark = true → lackT S rm (k + 1) = lackT S rm k ++ [S[k].mark]) := fun c => lackT_yes hlt c
      have HN : Hid (cnd S rm S[k].mark = false → lackT S rm (k + 1) = lackT S rm k) := fun c => lackT_no hlt c
      have HC : Hid (cnd S rm S[k].mark = (decide (rm < S[k].mark) && decide (S[k].mark < ml))) := by show cnd _ _ _ = _; rw [← HSA.out k hlt]; rfl
      have hle := lackT_len S rm k
      clear hcl hbel
      generalize S[k].mark = mk at *
      generalize S[k].bl.length = nbl at *
      generalize S[k].dt.length = ndt at *
      generalize cnd S rm mk = cc at *
      obtain ⟨kk2, hb2⟩ := alloc1 wr (.cells #[.int .i64 mk, .slice p nbl k1, .slice q ndt k2] 45)
      have HL2 := hid kk2
      have HB2 := hid (HBR.out.trans (hb2.mono HBR.out.size))
      have HA2 := hid (HAL.out.below hb2)
      clear hb2 kk2
      go_upto_region 5 with fail
      generalize wr.alloc (.cells #[.int .i64 mk, .slice p nbl k1, .slice q ndt k2] 45) = W2 at *
      clear c0 c1 c2
      have hs0 : ∀ v : Gw W2, v.v.cell? ⟨w.heap.size, 0, none⟩ = some (.slice (some ⟨ba, off, none⟩) S.length ks) := fun v => (HX.out _ (HB2.out.trans (v.b.mono HB2.out.size))).1
      have hs1 : ∀ v : Gw W2, v.v.cell? ⟨w.heap.size, 1, none⟩ = some (.slice r R.length kr) := fun v => (HX.out _ (HB2.out.trans (v.b.mono HB2.out.size))).2.1
      have hs2 : ∀ v : Gw W2, v.v.cell? ⟨w.heap.size, 2, none⟩ = some (.slice t st.length kt) := fun v => (HX.out _ (HB2.out.trans (v.b.mono HB2.out.size))).2.2.1
      have hs3 : ∀ v : Gw W2, v.v.cell? ⟨w.heap.size, 3, none⟩ = some (.slice d dt.length kd) := fun v => (HX.out _ (HB2.out.trans (v.b.mono HB2.out.size))).2.2.2.1
      have hs4 : ∀ v : Gw W2, v.v.cell? ⟨w.heap.size, 4, none⟩ = some (.int .i64 tx) := fun v => (HX.out _ (HB2.out.trans (v.b.mono HB2.out.size))).2.2.2.2.1
      have hs5 : ∀ v : Gw W2, v.v.cell? ⟨w.heap.size, 5, none⟩ = some (.int .i64 he) := fun v => (HX.out _ (HB2.out.trans (v.b.mono HB2.out.size))).2.2.2.2.2
      have hs6 : ∀ v : Gw W2, v.v.cell? ⟨wr.heap.size, 0, none⟩ = some (.int .i64 mk) := fun v => box_cell ((v.b.block _ (Array.getElem?_eq_some_iff.1 HL2.out).1).trans HL2.out) 0
      have P1 : Hid (∀ v : Gw W2, Calls Try.prog 45 #[.agg #[.slice r R.length kr]] v.v fun e w'' => e = .returned (.int .i64 rm) ∧ ∃ s' : Gw W2, w'' = s'.v) := fun v => grown_of (HFM.out v.v (HB2.out.trans (v.b.mono HB2.out.size)))
      have P2 : Hid (∀ v : Gw W2, Calls Try.prog 60 #[.agg #[.slice (some ⟨ba, off, none⟩) S.length ks]] v.v fun e w'' => e = .returned (.int .i64 ml) ∧ ∃ s' : Gw W2, w'' = s'.v) := fun v => grown_of (HLM.out v.v (HB2.out.trans (v.b.mono HB2.out.size)))
      have hne : Nonempty (Gw W2) := ⟨⟨W2, Below.refl _ _⟩⟩
      have hcl : ∀ v : Gw W2, ∃ s' : Gw W2, v.v = s'.v := fun v => ⟨v, rfl⟩
      have HKL : Hid (k + 1 ≤ S.length) := hlt
      by_cases q1 : rm < mk
      case neg =>
        have d1 : decide (rm < mk) = false := decide_eq_false q1
        have E : Hid (cc = false) := by show cc = false; rw [HC.out, d1]; rfl
        refine region_grown W2 (Below.refl _ _) (by kernel_rfl) (by kernel_rfl) ?_
        repeat (go_big_quiet_step ((go_at_call 45; with_reducible exact P1.out _)))
        refine wpQuiet_nil ?_
        rintro _ ⟨u, rfl⟩
        have hb := hid (HB2.out.trans (u.b.mono HB2.out.size))
        have HA3 := hid (HA2.out.below u.b)
        clear hs0 hs1 hs2 hs3 hs4 hs5 hs6 P1 P2 hne hcl
        go_wp2_with fail
        go_roundw
        case rel => exact ⟨k + 1, _, HKL.out, by have := HKL.out; have := HS8.out; go_num, rfl, by rw [HN.out E.out]; exact HA3.out, hb.out⟩
        case measure => have := HKL.out; simp [intOf]; omega
      have d1 : decide (rm < mk) = true := decide_eq_true q1
      rw [d1, Bool.true_and] at HC
      by_cases q2 : mk < ml
      case neg =>
        have d2 : decide (mk < ml) = false := decide_eq_false q2
        have E : Hid (cc = false) := by show cc = false; rw [HC.out, d2]
        refine region_grown W2 (Below.refl _ _) (by kernel_rfl) (by kernel_rfl) ?_
        repeat (go_big_quiet_step ((first | (go_at_call 45; with_reducible exact P1.out _) | (go_at_call 60; with_reducible exact P2.out _))))
        refine wpQuiet_nil ?_
        rintro _ ⟨u, rfl⟩
        have hb := hid (HB2.out.trans (u.b.mono HB2.out.size))
        have HA3 := hid (HA2.out.below u.b)
        clear hs0 hs1 hs2 hs3 hs4 hs5 hs6 P1 P2 hne hcl
        go_wp2_with fail
        go_roundw
        case rel => exact ⟨k + 1, _, HKL.out, by have := HKL.out; have := HS8.out; go_num, rfl, by rw [HN.out E.out]; exact HA3.out, hb.out⟩
        case measure => have := HKL.out; simp [intOf]; omega
      have d2 : decide (mk < ml) = true := decide_eq_true q2
      have E : Hid (cc = true) := by show cc = true; rw [HC.out, d2]
      refine region_grown W2 (Below.refl _ _) (by kernel_rfl) (by kernel_rfl) ?_
      repeat (go_big_quiet_step ((first | (go_at_call 45; with_reducible exact P1.out _) | (go_at_call 60; with_reducible exact P2.out _))))
      refine wpQuiet_nil ?_
      rintro _ ⟨u, rfl⟩
      have hb := hid (HB2.out.trans (u.b.mono HB2.out.size))
      have z0 := hs6 u
      have hlw := hb.out.size
      obtain ⟨v', w', r1, o1, g1, -, -, -⟩ := (HA2.out.below u.b).push hlw mk (by have := HS8.out; omega)
      have HO := hid o1
      have HB5 : Hid (Below W.heap.size W w') := hb.out.trans g1
      clear hs0 hs1 hs2 hs3 hs4 hs5 hs6 P1 P2 hne hcl o1 g1
      go_wp2_with (refine wpList_append_run rfl _ _ 25 rfl _ _ rfl rfl _ _ r1 ?_)
      go_roundw
      case rel => exact ⟨k + 1, v', HKL.out, by have := HKL.out; have := HS8.out; go_num, rfl, by rw [HY.out E.out]; exact HO.out, HB5.out⟩
      case measure => have := HKL.out; simp [intOf]; omega
    · obtain rfl : k = S.length := by omega
      clear hbel
      go_wp2_with fail
      go_ret
      exact ⟨_, rfl, HAL.out.mono HWs.out, HU.out _ HBR.out⟩
end Go.Proofs.Ytfdkhoelcmmfcaa

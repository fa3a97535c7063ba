/- The model's small functions over mirrors. -/
import Derived.Test.YtfdkhoelcmmfcaaMiP
import Derived.Test.YtfdkhoelcmmfcaaKGoodS
import Derived.Test.YtfdkhoelcmmfcaaMiW
import Derived.BigQuiet
import Derived.Deep.DeepCutAuto
namespace Go.Proofs.Ytfdkhoelcmmfcaa
set_option maxRecDepth 100000
open Go Go.ChangeShapes Go.WideShapes Go.ChangeAt Go.RowKit
/-- a world that has grown -/
structure Gw (W : World) where
  v : World
  b : Below W.heap.size W v
theorem region_grown {P : Program} {id : Nat} {Q : Exit → Act → World → Prop} {a : Act} {w : World} {l : List Oper} (W : World) (hw : Below W.heap.size W w) (hm : P.follows .mixedOrders = true) (hB : Region.lexB .any l.toArray = true)
    (h : wpQuiet P l.toArray (fun w' => ∃ s : Gw W, w' = s.v) (fun a' => ∀ w', (∃ s : Gw W, w' = s.v) → Q .normal a' w') l a) : (Code.region id l.toArray true).wp P Q a w :=
  wp_region_quiet (C := fun w' => ∃ s : Gw W, w' = s.v) hm hB ⟨⟨w.drew, hw.drew⟩, rfl⟩ (by simpa using h)
theorem grown_of {P : Program} {f : FuncId} {args : Array Value} {W : World} {s : Gw W} {v : Value} (h : Calls P f args s.v fun e w' => e = .returned v ∧ Below s.v.heap.size s.v w') : Calls P f args s.v fun e w'' => e = .returned v ∧ ∃ s' : Gw W, w'' = s'.v :=
  h.mono fun _ w' ⟨he, hb⟩ => ⟨he, ⟨w', s.b.trans (hb.mono s.b.size)⟩, rfl⟩
set_option maxHeartbeats 2000000 in
theorem l16Remote_any (s r t d : Option Addr) (ks kr kt kd : Nat) (S R : List Ly) (st : List Int) (dt : List ByteArray) (tx he : Int) (w : World) (h0 : 0 < R.length) (hR : Ys w.heap.size r R w) :
    Calls Try.prog 35 #[.agg #[.slice s S.length ks, .slice r R.length kr, .slice t st.length kt, .slice d dt.length kd, .int .i64 tx, .int .i64 he]] w fun e w' => e = .returned (.int .i64 (mk0 R)) ∧ Below w.heap.size w w' := by
  rw [mk0_at h0]
  obtain ⟨k0, b0⟩ := alloc1 w (.cells #[.slice s S.length ks, .slice r R.length kr, .slice t st.length kt, .slice d dt.length kd, .int .i64 tx, .int .i64 he] 28)
  generalize hW : w.alloc (.cells #[.slice s S.length ks, .slice r R.length kr, .slice t st.length kt, .slice d dt.length kd, .int .i64 tx, .int .i64 he] 28) = W at *
  have HX : Hid (∀ v, Below W.heap.size W v → v.cell? ⟨w.heap.size, 0, none⟩ = some (.slice s S.length ks) ∧ v.cell? ⟨w.heap.size, 1, none⟩ = some (.slice r R.length kr) ∧ v.cell? ⟨w.heap.size, 2, none⟩ = some (.slice t st.length kt) ∧ v.cell? ⟨w.heap.size, 3, none⟩ = some (.slice d dt.length kd) ∧ v.cell? ⟨w.heap.size, 4, none⟩ = some (.int .i64 tx) ∧ v.cell? ⟨w.heap.size, 5, none⟩ = some (.int .i64 he)) := fun v g => by
    have h1 := (g.block _ (Array.getElem?_eq_some_iff.1 k0).1).trans k0
    exact ⟨box_cell h1 0, box_cell h1 1, box_cell h1 2, box_cell h1 3, box_cell h1 4, box_cell h1 5⟩
  have HU : Hid (∀ v, Below W.heap.size W v → Below w.heap.size w v) := fun v g => b0.trans (g.mono b0.size)
  have B0 : Hid (Below W.heap.size W W) := Below.refl _ _
  obtain ⟨b, off, rfl, hb, hc⟩ := (hR.below b0) h0
  obtain ⟨p, c, q, e, c0, -, -, -, -⟩ := hc 0 h0
  obtain ⟨x0, x1, x2, x3, x4, x5⟩ := HX.out _ B0.out
  clear hc hR k0 b0
  generalize R[0].mark = m at *
  obtain ⟨n, hn⟩ : ∃ n, R.length = n + 1 := ⟨R.length - 1, by omega⟩
  rw [hn] at x1 hW ⊢
  simp only [Nat.zero_mul, Nat.add_zero] at c0
  go_enter Try.func35, Try.ntmps35
  go_wp2_with fail
  go_ret
  exact ⟨rfl, HU.out _ B0.out⟩
set_option maxHeartbeats 2000000 in
theorem l16Set_any (s : Option Addr) (ks : Nat) (S : List Ly) (m : Int) (w : World) (h1 : 1 ≤ S.length) (h2 : S.length ≤ 1048576) (hS : Ys w.heap.size s S w) :
    Calls Try.prog 36 #[.agg #[.slice s S.length ks], .int .i64 m] w fun e w' => e = .returned (.bool (setM S m)) ∧ Below w.heap.size w w' := by
  obtain ⟨k0, b0⟩ := alloc1 w (.cells #[.slice s S.length ks] 24)
  generalize hW : w.alloc (.cells #[.slice s S.length ks] 24) = W at *
  have HX : Hid (∀ v, Below W.heap.size W v → v.cell? ⟨w.heap.size, 0, none⟩ = some (.slice s S.length ks)) := fun v g => box_cell ((g.block _ (Array.getElem?_eq_some_iff.1 k0).1).trans k0) 0
  have HU : Hid (∀ v, Below W.heap.size W v → Below w.heap.size w v) := fun v g => b0.trans (g.mono b0.size)
  have B0 : Hid (Below W.heap.size W W) := Below.refl _ _
  have HF : Hid (Calls Try.prog 57 #[.agg #[.slice s S.length ks], .int .i64 m] W fun e w' => e = .returned (.int .i64 (fk S m)) ∧ Below W.heap.size W w') := l7Find_any s ks S m W h2 ((hS.below b0).mono b0.size)
  obtain ⟨o, ho⟩ : ∃ o, setM S m = o := ⟨_, rfl⟩
  have HO : Hid (decide (fndK S m + 1 < S.length) = o) := ho
  have HK : Hid (fk S m = if fndK S m < S.length then ((fndK S m : Nat) : Int) else -1) := rfl
  rw [ho]
  have x0 := HX.out _ B0.out
  obtain ⟨n, hn⟩ : ∃ n, S.length = n + 1 := ⟨S.length - 1, by omega⟩
  have hp := pred_wrap n (by omega)
  rw [hn] at x0 hW HF HO HK HX ⊢
  generalize fndK S m = f at *
  generalize fk S m = x at *
  clear hS k0 b0 ho
  go_enter Try.func36, Try.ntmps36
  go_wp2_with fail
  clear hW
  refine HF.out.mono ?_
  rintro e w1 ⟨rfl, g1⟩
  have B1 : Hid (Below W.heap.size W w1) := g1
  clear g1 HF x0
  have x0 := HX.out _ B1.out
  by_cases q : f < n + 1
  · have e1 : x = (f : Int) := by rw [HK.out, if_pos q]
    subst e1
    have d1 : decide ((0 : Int) ≤ (f : Int)) = true := decide_eq_true (by omega)
    by_cases q2 : f < n
    · have d2 : decide ((f : Int) < (n : Int)) = true := decide_eq_true (by omega)
      have E : Hid (o = true) := by show o = true; rw [← HO.out]; exact decide_eq_true (by omega)
      go_wp2_with fail
      go_ret
      exact ⟨by rw [E.out] <;> rfl, HU.out _ B1.out⟩
    · have d2 : decide ((f : Int) < (n : Int)) = false := decide_eq_false (by omega)
      have E : Hid (o = false) := by show o = false; rw [← HO.out]; exact decide_eq_false (by omega)
      go_wp2_with fail
      go_ret
      exact ⟨by rw [E.out] <;> rfl, HU.out _ B1.out⟩
  · have e1 : x = -1 := by rw [HK.out, if_neg q]
    subst e1
    have E : Hid (o = false) := by show o = false; rw [← HO.out]; exact decide_eq_false (by omega)
    go_wp2_with fail
    go_ret
    exact ⟨by rw [E.out] <;> rfl, HU.out _ B1.out⟩
set_option maxHeartbeats 4000000 in
theorem l16Next_any (s r t d : Option Addr) (ks kr kt kd : Nat) (S R : List Ly) (st : List Int) (dt : List ByteArray) (tx he : Int) (w : World) (h0 : 0 < R.length) (h1 : 1 ≤ S.length) (h2 : S.length ≤ 8) (hS : Ys w.heap.size s S w) (hR : Ys w.heap.size r R w) :
    Calls Try.prog 39 #[.agg #[.slice s S.length ks, .slice r R.length kr, .slice t st.length kt, .slice d dt.length kd, .int .i64 tx, .int .i64 he]] w fun e w' => e = .returned (.int .i64 (nextM S (mk0 R))) ∧ Below w.heap.size w w' := by
  obtain ⟨k0, b0⟩ := alloc1 w (.cells #[.slice s S.length ks, .slice r R.length kr, .slice t st.length kt, .slice d dt.length kd, .int .i64 tx, .int .i64 he] 28)
  generalize hW : w.alloc (.cells #[.slice s S.length ks, .slice r R.length kr, .slice t st.length kt, .slice d dt.length kd, .int .i64 tx, .int .i64 he] 28) = W at *
  have HX : Hid (∀ v, Below W.heap.size W v → v.cell? ⟨w.heap.size, 0, none⟩ = some (.slice s S.length ks) ∧ v.cell? ⟨w.heap.size, 1, none⟩ = some (.slice r R.length kr) ∧ v.cell? ⟨w.heap.size, 2, none⟩ = some (.slice t st.length kt) ∧ v.cell? ⟨w.heap.size, 3, none⟩ = some (.slice d dt.length kd) ∧ v.cell? ⟨w.heap.size, 4, none⟩ = some (.int .i64 tx) ∧ v.cell? ⟨w.heap.size, 5, none⟩ = some (.int .i64 he)) := fun v g => by
    have h1 := (g.block _ (Array.getElem?_eq_some_iff.1 k0).1).trans k0
    exact ⟨box_cell h1 0, box_cell h1 1, box_cell h1 2, box_cell h1 3, box_cell h1 4, box_cell h1 5⟩
  have HU : Hid (∀ v, Below W.heap.size W v → Below w.heap.size w v) := fun v g => b0.trans (g.mono b0.size)
  have B0 : Hid (Below W.heap.size W W) := Below.refl _ _
  have HYS : Hid (∀ v, Below W.heap.size W v → Ys v.heap.size s S v) := fun v g => (hS.below (HU.out v g)).mono (HU.out v g).size
  have HRM : Hid (∀ v, Below W.heap.size W v → Calls Try.prog 35 #[.agg #[.slice s S.length ks, .slice r R.length kr, .slice t st.length kt, .slice d dt.length kd, .int .i64 tx, .int .i64 he]] v fun e w' => e = .returned (.int .i64 (mk0 R)) ∧ Below v.heap.size v w') := fun v g => l16Remote_any s r t d ks kr kt kd S R st dt tx he v h0 ((hR.below (HU.out v g)).mono (HU.out v g).size)
  have HST : Hid (∀ v (m : Int), Below W.heap.size W v → Calls Try.prog 36 #[.agg #[.slice s S.length ks], .int .i64 m] v fun e w' => e = .returned (.bool (setM S m)) ∧ Below v.heap.size v w') := fun v m g => l16Set_any s ks S m v h1 (by omega) (HYS.out v g)
  obtain ⟨x0, x1, x2, x3, x4, x5⟩ := HX.out _ B0.out
  have HS8 := hid h2
  clear hS hR k0 b0
  generalize mk0 R = rm at *
  go_enter Try.func39, Try.ntmps39
  go_wp2_with fail
  clear hW x0 x1 x2 x3 x4 x5
  go_loopw [9] (fun i wr => ∃ k : Nat, k ≤ S.length ∧ i = .int .i64 k ∧ lackT S rm k = [] ∧ Below W.heap.size W wr) (fun i _ => S.length - (intOf i).toNat)
  case atStart => exact ⟨0, Nat.zero_le _, rfl, rfl, B0.out⟩
  case round =>
    obtain ⟨k, hk, rfl, hlk, hbel⟩ := hrel
    have HBR := hid hbel
    by_cases hlt : k < S.length
    · obtain ⟨ba, off, rfl, hb, hcl⟩ := HYS.out _ hbel (by omega)
      obtain ⟨p, k1, q, k2, c0, c1, c2, -, -⟩ := hcl k hlt
      have HLK := hid hlk
      have HY : Hid (cnd S rm S[k].mark = true → nextM S rm = S[k].mark) := fun c => next_at hlt c HLK.out
      have HN : Hid (cnd S rm S[k].mark = false → lackT S rm (k + 1) = []) := fun c => by rw [lackT_no hlt c]; exact HLK.out
      have HC : Hid (cnd S rm S[k].mark = (decide (rm < S[k].mark) && setM S S[k].mark)) := rfl
      clear hcl hbel hlk
      generalize S[k].mark = mk at *
      generalize S[k].bl.length = nbl at *
      generalize S[k].dt.length = ndt at *
      generalize cnd S rm mk = cc at *
      have HK1 := hid hlt
      obtain ⟨kk2, hb2⟩ := alloc1 wr (.cells #[.int .i64 mk, .slice p nbl k1, .slice q ndt k2] 45)
      have HL2 := hid kk2
      have HB2 := hid (HBR.out.trans (hb2.mono HBR.out.size))
      clear hb2 kk2
      go_upto_region 4 with fail
      generalize wr.alloc (.cells #[.int .i64 mk, .slice p nbl k1, .slice q ndt k2] 45) = W2 at *
      clear c0 c1 c2
      have hsa : ∀ v : Gw W2, v.v.cell? ⟨w.heap.size, 0, none⟩ = some (.slice (some ⟨ba, off, none⟩) S.length ks) ∧ v.v.cell? ⟨w.heap.size, 1, none⟩ = some (.slice r R.length kr) ∧ v.v.cell? ⟨w.heap.size, 2, none⟩ = some (.slice t st.length kt) ∧ v.v.cell? ⟨w.heap.size, 3, none⟩ = some (.slice d dt.length kd) ∧ v.v.cell? ⟨w.heap.size, 4, none⟩ = some (.int .i64 tx) ∧ v.v.cell? ⟨w.heap.size, 5, none⟩ = some (.int .i64 he) := fun v => HX.out _ (HB2.out.trans (v.b.mono HB2.out.size))
      have hs0 : ∀ v : Gw W2, v.v.cell? ⟨w.heap.size, 0, none⟩ = some (.slice (some ⟨ba, off, none⟩) S.length ks) := fun v => (hsa v).1
      have hs1 : ∀ v : Gw W2, v.v.cell? ⟨w.heap.size, 1, none⟩ = some (.slice r R.length kr) := fun v => (hsa v).2.1
      have hs2 : ∀ v : Gw W2, v.v.cell? ⟨w.heap.size, 2, none⟩ = some (.slice t st.length kt) := fun v => (hsa v).2.2.1
      have hs3 : ∀ v : Gw W2, v.v.cell? ⟨w.heap.size, 3, none⟩ = some (.slice d dt.length kd) := fun v => (hsa v).2.2.2.1
      have hs4 : ∀ v : Gw W2, v.v.cell? ⟨w.heap.size, 4, none⟩ = some (.int .i64 tx) := fun v => (hsa v).2.2.2.2.1
      have hs5 : ∀ v : Gw W2, v.v.cell? ⟨w.heap.size, 5, none⟩ = some (.int .i64 he) := fun v => (hsa v).2.2.2.2.2
      have hs6 : ∀ v : Gw W2, v.v.cell? ⟨wr.heap.size, 0, none⟩ = some (.int .i64 mk) := fun v => box_cell ((v.b.block _ (Array.getElem?_eq_some_iff.1 HL2.out).1).trans HL2.out) 0
      clear hsa
      have P1 : Hid (∀ v : Gw W2, Calls Try.prog 35 #[.agg #[.slice (some ⟨ba, off, none⟩) S.length ks, .slice r R.length kr, .slice t st.length kt, .slice d dt.length kd, .int .i64 tx, .int .i64 he]] v.v fun e w'' => e = .returned (.int .i64 rm) ∧ ∃ s' : Gw W2, w'' = s'.v) := fun v => grown_of (HRM.out v.v (HB2.out.trans (v.b.mono HB2.out.size)))
      have P2 : Hid (∀ v : Gw W2, Calls Try.prog 36 #[.agg #[.slice (some ⟨ba, off, none⟩) S.length ks], .int .i64 mk] v.v fun e w'' => e = .returned (.bool (setM S mk)) ∧ ∃ s' : Gw W2, w'' = s'.v) := fun v => grown_of (HST.out v.v mk (HB2.out.trans (v.b.mono HB2.out.size)))
      have hne : Nonempty (Gw W2) := ⟨⟨W2, Below.refl _ _⟩⟩
      have hcl : ∀ v : Gw W2, ∃ s' : Gw W2, v.v = s'.v := fun v => ⟨v, rfl⟩
      have HKL : Hid (k + 1 ≤ S.length) := hlt
      generalize setM S mk = sm at *
      by_cases q1 : rm < mk
      case neg =>
        have d1 : decide (rm < mk) = false := decide_eq_false q1
        have E : Hid (cc = false) := by show cc = false; rw [HC.out, d1]; rfl
        refine region_grown W2 (Below.refl _ _) (by kernel_rfl) (by kernel_rfl) ?_
        repeat (go_big_quiet_step ((go_at_call 35; with_reducible exact P1.out _)))
        refine wpQuiet_nil ?_
        rintro _ ⟨v, rfl⟩
        have hb := hid (HB2.out.trans (v.b.mono HB2.out.size))
        clear hs0 hs1 hs2 hs3 hs4 hs5 hs6 P1 P2 hne hcl
        go_wp2_with fail
        go_roundw
        case rel => exact ⟨k + 1, HKL.out, by have := HKL.out; have := HS8.out; go_num, HN.out E.out, hb.out⟩
        case measure => have := HKL.out; simp [intOf]; omega
      have d1 : decide (rm < mk) = true := decide_eq_true q1
      rw [d1, Bool.true_and] at HC
      cases sm
      · have E : Hid (cc = false) := HC.out
        refine region_grown W2 (Below.refl _ _) (by kernel_rfl) (by kernel_rfl) ?_
        repeat (go_big_quiet_step ((first | (go_at_call 35; with_reducible exact P1.out _) | (go_at_call 36; with_reducible exact P2.out _))))
        refine wpQuiet_nil ?_
        rintro _ ⟨v, rfl⟩
        have hb := hid (HB2.out.trans (v.b.mono HB2.out.size))
        clear hs0 hs1 hs2 hs3 hs4 hs5 hs6 P1 P2 hne hcl
        go_wp2_with fail
        go_roundw
        case rel => exact ⟨k + 1, HKL.out, by have := HKL.out; have := HS8.out; go_num, HN.out E.out, hb.out⟩
        case measure => have := HKL.out; simp [intOf]; omega
      · have E : Hid (cc = true) := HC.out
        refine region_grown W2 (Below.refl _ _) (by kernel_rfl) (by kernel_rfl) ?_
        repeat (go_big_quiet_step ((first | (go_at_call 35; with_reducible exact P1.out _) | (go_at_call 36; with_reducible exact P2.out _))))
        refine wpQuiet_nil ?_
        rintro _ ⟨v, rfl⟩
        have hb := hid (HB2.out.trans (v.b.mono HB2.out.size))
        have z0 := hs6 v
        clear hs0 hs1 hs2 hs3 hs4 hs5 hs6 P1 P2 hne hcl
        go_wp2_with fail
        go_ret
        exact ⟨by rw [HY.out E.out] <;> rfl, HU.out _ hb.out⟩
    · obtain rfl : k = S.length := by omega
      have E := hid (next_none hlk)
      clear hlk hbel
      go_wp2_with fail
      go_ret
      exact ⟨by rw [E.out] <;> rfl, HU.out _ HBR.out⟩
set_option maxHeartbeats 4000000 in
theorem l16Lag_any (s r t d : Option Addr) (ks kr kt kd : Nat) (S R : List Ly) (st : List Int) (dt : List ByteArray) (tx he : Int) (w : World) (h0 : 0 < R.length) (h1 : 1 ≤ S.length) (h2 : S.length ≤ 8) (hS : Ys w.heap.size s S w) (hR : Ys w.heap.size r R w) :
    Calls Try.prog 48 #[.agg #[.slice s S.length ks, .slice r R.length kr, .slice t st.length kt, .slice d dt.length kd, .int .i64 tx, .int .i64 he]] w fun e w' => e = .returned (.int .i64 (((lackL S (mk0 R)).length : Nat))) ∧ Below w.heap.size w w' := by
  obtain ⟨k0, b0⟩ := alloc1 w (.cells #[.slice s S.length ks, .slice r R.length kr, .slice t st.length kt, .slice d dt.length kd, .int .i64 tx, .int .i64 he] 28)
  generalize hW : w.alloc (.cells #[.slice s S.length ks, .slice r R.length kr, .slice t st.length kt, .slice d dt.length kd, .int .i64 tx, .int .i64 he] 28) = W at *
  have HX : Hid (∀ v, Below W.heap.size W v → v.cell? ⟨w.heap.size, 0, none⟩ = some (.slice s S.length ks) ∧ v.cell? ⟨w.heap.size, 1, none⟩ = some (.slice r R.length kr) ∧ v.cell? ⟨w.heap.size, 2, none⟩ = some (.slice t st.length kt) ∧ v.cell? ⟨w.heap.size, 3, none⟩ = some (.slice d dt.length kd) ∧ v.cell? ⟨w.heap.size, 4, none⟩ = some (.int .i64 tx) ∧ v.cell? ⟨w.heap.size, 5, none⟩ = some (.int .i64 he)) := fun v g => by
    have h1 := (g.block _ (Array.getElem?_eq_some_iff.1 k0).1).trans k0
    exact ⟨box_cell h1 0, box_cell h1 1, box_cell h1 2, box_cell h1 3, box_cell h1 4, box_cell h1 5⟩
  have HU : Hid (∀ v, Below W.heap.size W v → Below w.heap.size w v) := fun v g => b0.trans (g.mono b0.size)
  have B0 : Hid (Below W.heap.size W W) := Below.refl _ _
  have HYS : Hid (∀ v, Below W.heap.size W v → Ys v.heap.size s S v) := fun v g => (hS.below (HU.out v g)).mono (HU.out v g).size
  have HRM : Hid (∀ v, Below W.heap.size W v → Calls Try.prog 35 #[.agg #[.slice s S.length ks, .slice r R.length kr, .slice t st.length kt, .slice d dt.length kd, .int .i64 tx, .int .i64 he]] v fun e w' => e = .returned (.int .i64 (mk0 R)) ∧ Below v.heap.size v w') := fun v g => l16Remote_any s r t d ks kr kt kd S R st dt tx he v h0 ((hR.below (HU.out v g)).mono (HU.out v g).size)
  have HST : Hid (∀ v (m : Int), Below W.heap.size W v → Calls Try.prog 36 #[.agg #[.slice s S.length ks], .int .i64 m] v fun e w' => e = .returned (.bool (setM S m)) ∧ Below v.heap.size v w') := fun v m g => l16Set_any s ks S m v h1 (by omega) (HYS.out v g)
  obtain ⟨x0, x1, x2, x3, x4, x5⟩ := HX.out _ B0.out
  have HS8 := hid h2
  clear hS hR k0 b0
  generalize mk0 R = rm at *
  go_enter Try.func48, Try.ntmps48
  go_wp2_with fail
  clear hW x0 x1 x2 x3 x4 x5
  go_loopw [3, 10] (fun n i wr => ∃ k : Nat, k ≤ S.length ∧ i = .int .i64 k ∧ n = .int .i64 ((lackT S rm k).length : Nat) ∧ Below W.heap.size W wr) (fun _ i _ => S.length - (intOf i).toNat)
  case atStart => exact ⟨0, Nat.zero_le _, rfl, rfl, B0.out⟩
  case round =>
    obtain ⟨k, hk, rfl, rfl, hbel⟩ := hrel
    have HBR := hid hbel
    by_cases hlt : k < S.length
    · obtain ⟨ba, off, rfl, hb, hcl⟩ := HYS.out _ hbel (by omega)
      obtain ⟨p, k1, q, k2, c0, c1, c2, -, -⟩ := hcl k hlt
      have HY : Hid (cnd S rm S[k].mark = true → (lackT S rm (k + 1)).length = (lackT S rm k).length + 1) := fun c => by rw [lackT_yes hlt c]; simp
      have HN : Hid (cnd S rm S[k].mark = false → (lackT S rm (k + 1)).length = (lackT S rm k).length) := fun c => by rw [lackT_no hlt c]
      have HC : Hid (cnd S rm S[k].mark = (decide (rm < S[k].mark) && setM S S[k].mark)) := rfl
      have hle := lackT_len S rm k
      have HLL : Hid (∃ x, (lackT S rm (k + 1)).length = x) := ⟨_, rfl⟩
      clear hcl hbel
      generalize (lackT S rm k).length = u at *
      generalize hun : (lackT S rm (k + 1)).length = un at *
      have HUN := hid hun
      clear hun HLL
      generalize S[k].mark = mk at *
      generalize S[k].bl.length = nbl at *
      generalize S[k].dt.length = ndt at *
      generalize cnd S rm mk = cc at *
      have HK1 := hid hlt
      obtain ⟨kk2, hb2⟩ := alloc1 wr (.cells #[.int .i64 mk, .slice p nbl k1, .slice q ndt k2] 45)
      have HL2 := hid kk2
      have HB2 := hid (HBR.out.trans (hb2.mono HBR.out.size))
      clear hb2 kk2
      go_upto_region 5 with fail
      generalize wr.alloc (.cells #[.int .i64 mk, .slice p nbl k1, .slice q ndt k2] 45) = W2 at *
      clear c0 c1 c2
      have hsa : ∀ v : Gw W2, v.v.cell? ⟨w.heap.size, 0, none⟩ = some (.slice (some ⟨ba, off, none⟩) S.length ks) ∧ v.v.cell? ⟨w.heap.size, 1, none⟩ = some (.slice r R.length kr) ∧ v.v.cell? ⟨w.heap.size, 2, none⟩ = some (.slice t st.length kt) ∧ v.v.cell? ⟨w.heap.size, 3, none⟩ = some (.slice d dt.length kd) ∧ v.v.cell? ⟨w.heap.size, 4, none⟩ = some (.int .i64 tx) ∧ v.v.cell? ⟨w.heap.size, 5, none⟩ = some (.int .i64 he) := fun v => HX.out _ (HB2.out.trans (v.b.mono HB2.out.size))
      have hs0 : ∀ v : Gw W2, v.v.cell? ⟨w.heap.size, 0, none⟩ = some (.slice (some ⟨ba, off, none⟩) S.length ks) := fun v => (hsa v).1
      have hs1 : ∀ v : Gw W2, v.v.cell? ⟨w.heap.size, 1, none⟩ = some (.slice r R.length kr) := fun v => (hsa v).2.1
      have hs2 : ∀ v : Gw W2, v.v.cell? ⟨w.heap.size, 2, none⟩ = some (.slice t st.length kt) := fun v => (hsa v).2.2.1
      have hs3 : ∀ v : Gw W2, v.v.cell? ⟨w.heap.size, 3, none⟩ = some (.slice d dt.length kd) := fun v => (hsa v).2.2.2.1
      have hs4 : ∀ v : Gw W2, v.v.cell? ⟨w.heap.size, 4, none⟩ = some (.int .i64 tx) := fun v => (hsa v).2.2.2.2.1
      have hs5 : ∀ v : Gw W2, v.v.cell? ⟨w.heap.size, 5, none⟩ = some (.int .i64 he) := fun v => (hsa v).2.2.2.2.2
      have hs6 : ∀ v : Gw W2, v.v.cell? ⟨wr.heap.size, 0, none⟩ = some (.int .i64 mk) := fun v => box_cell ((v.b.block _ (Array.getElem?_eq_some_iff.1 HL2.out).1).trans HL2.out) 0
      clear hsa
      have P1 : Hid (∀ v : Gw W2, Calls Try.prog 35 #[.agg #[.slice (some ⟨ba, off, none⟩) S.length ks, .slice r R.length kr, .slice t st.length kt, .slice d dt.length kd, .int .i64 tx, .int .i64 he]] v.v fun e w'' => e = .returned (.int .i64 rm) ∧ ∃ s' : Gw W2, w'' = s'.v) := fun v => grown_of (HRM.out v.v (HB2.out.trans (v.b.mono HB2.out.size)))
      have P2 : Hid (∀ v : Gw W2, Calls Try.prog 36 #[.agg #[.slice (some ⟨ba, off, none⟩) S.length ks], .int .i64 mk] v.v fun e w'' => e = .returned (.bool (setM S mk)) ∧ ∃ s' : Gw W2, w'' = s'.v) := fun v => grown_of (HST.out v.v mk (HB2.out.trans (v.b.mono HB2.out.size)))
      have hne : Nonempty (Gw W2) := ⟨⟨W2, Below.refl _ _⟩⟩
      have hcl : ∀ v : Gw W2, ∃ s' : Gw W2, v.v = s'.v := fun v => ⟨v, rfl⟩
      have HKL : Hid (k + 1 ≤ S.length) := hlt
      generalize setM S mk = sm at *
      by_cases q1 : rm < mk
      case neg =>
        have d1 : decide (rm < mk) = false := decide_eq_false q1
        have E : Hid (cc = false) := by show cc = false; rw [HC.out, d1]; rfl
        refine region_grown W2 (Below.refl _ _) (by kernel_rfl) (by kernel_rfl) ?_
        repeat (go_big_quiet_step ((go_at_call 35; with_reducible exact P1.out _)))
        refine wpQuiet_nil ?_
        rintro _ ⟨v, rfl⟩
        have hb := hid (HB2.out.trans (v.b.mono HB2.out.size))
        clear hs0 hs1 hs2 hs3 hs4 hs5 hs6 P1 P2 hne hcl
        go_wp2_with fail
        go_roundw
        case rel => exact ⟨k + 1, HKL.out, by have := HKL.out; have := HS8.out; go_num, by rw [HUN.out, HN.out E.out], hb.out⟩
        case measure => have := HKL.out; simp [intOf]; omega
      have d1 : decide (rm < mk) = true := decide_eq_true q1
      rw [d1, Bool.true_and] at HC
      cases sm
      · have E : Hid (cc = false) := HC.out
        refine region_grown W2 (Below.refl _ _) (by kernel_rfl) (by kernel_rfl) ?_
        repeat (go_big_quiet_step ((first | (go_at_call 35; with_reducible exact P1.out _) | (go_at_call 36; with_reducible exact P2.out _))))
        refine wpQuiet_nil ?_
        rintro _ ⟨v, rfl⟩
        have hb := hid (HB2.out.trans (v.b.mono HB2.out.size))
        clear hs0 hs1 hs2 hs3 hs4 hs5 hs6 P1 P2 hne hcl
        go_wp2_with fail
        go_roundw
        case rel => exact ⟨k + 1, HKL.out, by have := HKL.out; have := HS8.out; go_num, by rw [HUN.out, HN.out E.out], hb.out⟩
        case measure => have := HKL.out; simp [intOf]; omega
      · have E : Hid (cc = true) := HC.out
        refine region_grown W2 (Below.refl _ _) (by kernel_rfl) (by kernel_rfl) ?_
        repeat (go_big_quiet_step ((first | (go_at_call 35; with_reducible exact P1.out _) | (go_at_call 36; with_reducible exact P2.out _))))
        refine wpQuiet_nil ?_
        rintro _ ⟨v, rfl⟩
        have hb := hid (HB2.out.trans (v.b.mono HB2.out.size))
        have z0 := hs6 v
        clear hs0 hs1 hs2 hs3 hs4 hs5 hs6 P1 P2 hne hcl
        go_wp2_with fail
        go_roundw
        case rel => exact ⟨k + 1, HKL.out, by have := HKL.out; have := HS8.out; go_num, by rw [HUN.out, HY.out E.out]; have := HS8.out; go_num, hb.out⟩
        case measure => have := HKL.out; simp [intOf]; omega
    · obtain rfl : k = S.length := by omega
      clear hbel
      go_wp2_with fail
      go_ret
      exact ⟨rfl, HU.out _ HBR.out⟩
end Go.Proofs.Ytfdkhoelcmmfcaa

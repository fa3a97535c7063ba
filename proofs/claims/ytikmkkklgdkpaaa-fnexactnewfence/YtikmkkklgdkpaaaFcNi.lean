/- Both sides' NewFence: what is made. -/
import Derived.Test.YtikmkkklgdkpaaaFc4
import Derived.Test.YtikmkkklgdkpaaaFcS
import Derived.Test.YtikmkkklgdkpaaaCopy
namespace Go.Proofs.Ytikmkkklgdkpaaa
set_option maxRecDepth 100000
open Go Go.ChangeShapes Go.WideShapes Go.ChangeAt Go.RowKit
/-- a slice over the whole of a block of one's own -/
def PB (lo n : Nat) (cs : Array Value) (t : TypeId) (v : World) (x : Value) : Prop := ∃ R, x = .slice (some ⟨R, 0, none⟩) n n ∧ lo ≤ R ∧ v.heap[R]? = some (.cells cs t)
theorem ownK_pb (lo n : Nat) (cs : Array Value) (t : TypeId) : OwnK (PB lo n cs t) := by
  refine ⟨?_, ?_⟩
  · rintro v v' x ⟨R, rfl, hl, hR⟩ h
    exact ⟨R, rfl, hl, (h R rfl).trans hR⟩
  · rintro v x ⟨R, rfl, hl, hR⟩ k hk
    have h9 : some R = some k := hk
    injection h9 with h9
    subst h9
    exact kbox hR
theorem ownP_pb (lo n : Nat) (cs : Array Value) (t : TypeId) : OwnPr (PB lo n cs t) := ⟨fun h g => (ownK_pb lo n cs t).keep h (fun k hk => g.block k ((ownK_pb lo n cs t).lt h k hk)), fun h k hk => (ownK_pb lo n cs t).lt h k hk⟩
theorem irow_box {w : World} {R : Nat} {l : List Int} {t : TypeId} (h : w.heap[R]? = some (.cells (ivals l).toArray t)) : IRow R l w := by
  refine GRow.ofHeap (t := t) (fun i hi => iwide l i hi) ?_
  rw [ivals_flat]
  exact h
/-- a fence with nothing asked -/
def newF (n : Nat) : Fc := ⟨List.replicate n 0, List.replicate n (-1), [0, 0], [[], []], [], [], 0, []⟩
theorem rp_all (n : Nat) : rp n n = (ivals (List.replicate n (-1))).toArray := by simp [rp, ivals]
theorem rp_none (n : Nat) : rp 0 n = (ivals (List.replicate n 0)).toArray := by simp [rp, ivals]
theorem Ds.ne {R S n m : Nat} {k l : Nat} (h : Ds (.slice (some ⟨R, 0, none⟩) n k) (.slice (some ⟨S, 0, none⟩) m l)) : R ≠ S := h _ _ rfl rfl
/-- four blocks of one's own are a new fence -/
theorem rows_newF {lo n : Nat} {v : World} {R1 R2 R3 R4 c1 : Nat} (h1 : lo ≤ R1 ∧ R1 < v.heap.size ∧ IRow R1 (List.replicate n (-1)) v) (h2 : lo ≤ R2 ∧ v.heap[R2]? = some (.cells (rp 0 n) 3)) (h3 : lo ≤ R3 ∧ v.heap[R3]? = some (.cells (rp 0 2) 3))
    (h4 : lo ≤ R4 ∧ v.heap[R4]? = some (.cells #[.slice none 0 0, .slice none 0 0] 22)) (d12 : R1 ≠ R2) (d13 : R1 ≠ R3) (d14 : R1 ≠ R4) (d23 : R2 ≠ R3) (d24 : R2 ≠ R4) (d34 : R3 ≠ R4) :
    MkF (Btw lo v.heap.size) ⟨some ⟨R2, 0, none⟩, n, some ⟨R1, 0, none⟩, c1, some ⟨R3, 0, none⟩, 2, some ⟨R4, 0, none⟩, 2, none, 0, none, 0, none, 0⟩ (newF n) v := by
  have k2 := kbox h2.2
  have k3 := kbox h3.2
  have k4 := kbox h4.2
  have i2 : IRow R2 (List.replicate n 0) v := irow_box (by rw [← rp_none]; exact h2.2)
  have i3 : IRow R3 [0, 0] v := irow_box (l := [0, 0]) (by have := h3.2; rw [rp_none] at this; exact this)
  refine ⟨fun k => if k = R2 then 0 else if k = R1 then 1 else if k = R3 then 2 else if k = R4 then 3 else 9, Or.inr ⟨R2, ⟨⟨h2.1, k2⟩, if_pos rfl⟩, rfl, i2⟩, Or.inr ⟨R1, ⟨⟨h1.1, h1.2.1⟩, ?_⟩, rfl, h1.2.2⟩, Or.inr ⟨R3, ⟨⟨h3.1, k3⟩, ?_⟩, rfl, i3⟩, ⟨fun _ => none, fun _ => 0, fun _ => 0, Or.inr ⟨R4, rfl, ⟨⟨⟨h4.1, k4⟩, ?_⟩, k4, ?_, ?_, ?_⟩⟩⟩, ⟨fun _ => none, fun _ => 0, fun _ => 0, Or.inl rfl⟩, Or.inl rfl, ⟨fun _ => none, fun _ => 0, fun _ => 0, Or.inl rfl⟩⟩
  · show (if R1 = R2 then 0 else if R1 = R1 then 1 else _) = 1
    rw [if_neg d12, if_pos rfl]
  · show (if R3 = R2 then 0 else if R3 = R1 then 1 else if R3 = R3 then 2 else _) = 2
    rw [if_neg (fun e => d23 e.symm), if_neg (fun e => d13 e.symm), if_pos rfl]
  · show (if R4 = R2 then 0 else if R4 = R1 then 1 else if R4 = R3 then 2 else if R4 = R4 then 3 else 9) = 3
    rw [if_neg (fun e => d24 e.symm), if_neg (fun e => d14 e.symm), if_neg (fun e => d34 e.symm), if_pos rfl]
  · intro i hi
    have hi' : i < 2 := hi
    have : i = 0 ∨ i = 1 := by omega
    rcases this with rfl | rfl
    · exact box_cell h4.2 0
    · exact box_cell h4.2 1
  · intro i hi
    have hi' : i < 2 := hi
    have : i = 0 ∨ i = 1 := by omega
    rcases this with rfl | rfl <;> exact Or.inl rfl
  · intro i j hi hj hij h1 h2
    have hi' : i < 2 := hi
    have : i = 0 ∨ i = 1 := by omega
    rcases this with rfl | rfl <;> exact absurd rfl h1
/-- what NewFence answers -/
def NFo (n : Int) (w : World) (e : Ending) (w' : World) : Prop :=
  (judgesN n = true ∧ ∃ A, e = .returned (.tuple #[.agg #[.slice A.j (newF n.toNat).jd.length A.kj, .slice A.g (newF n.toNat).gv.length A.kg, .slice A.p (newF n.toNat).pl.length A.kp, .slice A.v (newF n.toNat).vt.length A.kv, .slice A.n (newF n.toNat).wn.length A.kn, .slice A.l (newF n.toNat).ln.length A.kl, .int .i64 (newF n.toNat).sn, .slice A.s (newF n.toNat).st.length A.ks], .bool true]) ∧ MkF (Btw w.heap.size w'.heap.size) A (newF n.toNat) w' ∧ Below w.heap.size w w') ∨
  (judgesN n = false ∧ e = .returned (.tuple #[.agg #[.slice none 0 0, .slice none 0 0, .slice none 0 0, .slice none 0 0, .slice none 0 0, .slice none 0 0, .int .i64 0, .slice none 0 0], .bool false]) ∧ Below w.heap.size w w')
theorem up1 {w : World} {R : Nat} {o p : Obj} (h : w.heap[R]? = some o) : (w.alloc p).heap[R]? = some o := (Below.heap_alloc _ _ _ (kbox h)).trans h
theorem belA {n : Nat} {w v : World} {o : Obj} (h : Below n w v) (hn : n ≤ w.heap.size) : Below n w (v.alloc o) := h.trans ((boxB v o).mono (Nat.le_trans hn h.size))
theorem bel_on {n : Nat} {w v v' : World} (h : Below n w v) (g : Below v.heap.size v v') (hn : n ≤ w.heap.size := by exact Nat.le_refl _) : Below n w v' := h.trans (g.mono (Nat.le_trans hn h.size))
theorem make_two (W : World) : (Instr.makeSlice 22 (.int .i64 2) (.int .i64 2)).run Try.prog W = .ok (.slice (some ⟨W.heap.size, 0, none⟩) 2 2) (W.alloc (.cells (rp 0 2) 3)) := by
  have h := make_ints 2 (by decide) W
  rw [rp_made] at h
  exact h
theorem make_rows2 (W : World) : (Instr.makeSlice 23 (.int .i64 2) (.int .i64 2)).run Try.prog W = .ok (.slice (some ⟨W.heap.size, 0, none⟩) 2 2) (W.alloc (.cells #[.slice none 0 0, .slice none 0 0] 22)) := by
  have h := make_rows 2 (by decide) W
  have e : madeCells (Value.slice none 0 0).cells 2 = #[.slice none 0 0, .slice none 0 0] := by kernel_rfl
  rw [e] at h
  exact h
set_option maxHeartbeats 8000000 in
theorem inewF_any (z : Int) (w : World) : Calls Try.prog 10 #[.int .i64 z] w fun e w' => NFo z w e w' := by
  have HB := hid (boxB w (.cells #[.slice none 0 0, .slice none 0 0, .slice none 0 0, .slice none 0 0, .slice none 0 0, .slice none 0 0, .int .i64 0, .slice none 0 0] 26))
  have HK := hid (heap_last w (.cells #[.slice none 0 0, .slice none 0 0, .slice none 0 0, .slice none 0 0, .slice none 0 0, .slice none 0 0, .int .i64 0, .slice none 0 0] 26))
  have HJ := hid (fun v => isJudges_any z v)
  cases hj : judgesN z
  case false =>
    have HE := hid hj
    rw [hj] at HJ
    clear hj
    go_enter Try.func10, Try.ntmps10
    go_wp2_with fail
    generalize w.alloc (.cells #[.slice none 0 0, .slice none 0 0, .slice none 0 0, .slice none 0 0, .slice none 0 0, .slice none 0 0, .int .i64 0, .slice none 0 0] 26) = W at *
    obtain ⟨⟨z0, z1, z2, z3, z4, z5, z6, z7⟩, f0, f1, f2, f3, f4, f5, f6, f7⟩ := box8 HK.out
    refine (HJ.out W).mono ?_
    rintro e v ⟨rfl, hv⟩
    rw [hv]
    clear hv v
    go_wp2_with fail
    have hb8 := box8 (fill8 HK.out (.slice none 0 0) (.slice none 0 0) (.slice none 0 0) (.slice none 0 0) (.slice none 0 0) (.slice none 0 0) (.int .i64 0) (.slice none 0 0))
    obtain ⟨⟨q0, q1, q2, q3, q4, q5, q6, q7⟩, -⟩ := hb8
    refine bodyPost_ret (v := .tuple #[.agg #[.slice none 0 0, .slice none 0 0, .slice none 0 0, .slice none 0 0, .slice none 0 0, .slice none 0 0, .int .i64 0, .slice none 0 0], .bool false]) (by simp [results, Try.results10, go_sem, q0, q1, q2, q3, q4, q5, q6, q7]) rfl ?_
    exact Or.inr ⟨HE.out, rfl, fill8_below HB.out (Nat.le_refl _) _ _ _ _ _ _ _ _⟩
  have HOK := hid hj
  have hq := judgesN_yes hj
  rw [hj] at HJ
  obtain ⟨n, rfl⟩ : ∃ n : Nat, z = (n : Int) := ⟨z.toNat, by omega⟩
  have hn1 : 1 ≤ n := by omega
  have hn5 : n ≤ 5 := by omega
  have hmk := fun W => make_ints n (by omega) W
  rw [rp_made] at hmk
  have HM1 := hid hmk
  have HM2 := hid make_two
  have HM3 := hid make_rows2
  have HRP := hid (fun R v (h : v.heap[R]? = some (.cells #[.int .i64 (-1)] 3)) => repeat_any R 0 1 n v hn1 hn5 (box_cell h 0))
  clear hj hq hmk
  go_enter Try.func10, Try.ntmps10
  go_wp2_with fail
  generalize w.alloc (.cells #[.slice none 0 0, .slice none 0 0, .slice none 0 0, .slice none 0 0, .slice none 0 0, .slice none 0 0, .int .i64 0, .slice none 0 0] 26) = W at *
  obtain ⟨⟨z0, z1, z2, z3, z4, z5, z6, z7⟩, f0, f1, f2, f3, f4, f5, f6, f7⟩ := box8 HK.out
  refine (HJ.out W).mono ?_
  rintro e v ⟨rfl, hv⟩
  rw [hv]
  clear hv v HJ
  have HG0 : Hid (Below w.heap.size w W.drew ∧ W.drew.heap[w.heap.size]? = some (.cells #[.slice none 0 0, .slice none 0 0, .slice none 0 0, .slice none 0 0, .slice none 0 0, .slice none 0 0, .int .i64 0, .slice none 0 0] 26)) := ⟨HB.out.drew, HK.out⟩
  clear z0 z1 z2 z3 z4 z5 z6 z7 f0 f1 f2 f3 f4 f5 f6 f7
  go_upto_region 3 with fail
  go_cut [3] (fun s3 wc => s3 = .bool true ∧ ∃ R1 R2 R3 R4 : Nat, wc.heap[w.heap.size]? = some (.cells #[.slice (some ⟨R2, 0, none⟩) n n, .slice (some ⟨R1, 0, none⟩) n n, .slice (some ⟨R3, 0, none⟩) 2 2, .slice (some ⟨R4, 0, none⟩) 2 2, .slice none 0 0, .slice none 0 0, .int .i64 0, .slice none 0 0] 26) ∧ MkF (Btw w.heap.size wc.heap.size) ⟨some ⟨R2, 0, none⟩, n, some ⟨R1, 0, none⟩, n, some ⟨R3, 0, none⟩, 2, some ⟨R4, 0, none⟩, 2, none, 0, none, 0, none, 0⟩ (newF n) wc ∧ Below w.heap.size w wc)
  case first =>
    refine wp_region_any (by kernel_rfl) ?_
    clear HB HK
    refine wpAny_take (i := 0) (v := .int .i64 (n : Int)) rfl (by kernel_rfl) (by kernel_rfl) (by kernel_rfl) (fun _ _ _ h => h) (Or.inl ⟨by rfl, fun _ => by go_simp⟩) ?_
    try dsimp only [Act.put]
    refine wpAny_take (i := 3) (v := .int .i64 (n : Int)) rfl (by kernel_rfl) (by kernel_rfl) (by kernel_rfl) (fun _ _ _ h => h) (Or.inl ⟨by rfl, fun _ => by go_simp⟩) ?_
    try dsimp only [Act.put]
    refine wpAny_fam5 (fun b0 b1 b2 b3 b4 => #[true, b2, b0, true, b1, b3, b4, false, false, false]) (fun x0 x1 x2 x3 x4 => { tmps := #[.int .i64 (n : Int), undef, .pointer (some ⟨w.heap.size, 0, none⟩), .bool false, .int .i64 (n : Int), .bool true, .bool false, undef, .int .i64 (n : Int), x2, x0, .int .i64 (n : Int), x1, x3, x4, undef], defers := [] }) (fun v => Below w.heap.size w v ∧ v.heap[w.heap.size]? = some (.cells #[.slice none 0 0, .slice none 0 0, .slice none 0 0, .slice none 0 0, .slice none 0 0, .slice none 0 0, .int .i64 0, .slice none 0 0] 26)) (PB (w.heap.size + 1) 1 #[.int .i64 (-1)] 3) (PB (w.heap.size + 1) n (rp n n) 3) (PB (w.heap.size + 1) n (rp 0 n) 3) (PB (w.heap.size + 1) 2 (rp 0 2) 3) (PB (w.heap.size + 1) 2 #[.slice none 0 0, .slice none 0 0] 22) (ownK_pb _ _ _ _) (ownK_pb _ _ _ _) (ownK_pb _ _ _ _) (ownK_pb _ _ _ _) (ownK_pb _ _ _ _) 2 4 1 5 6 3 ?_ (fun _ _ _ _ _ => rfl) (fun _ _ _ _ _ => rfl) (fun _ _ _ _ _ => rfl) (fun _ _ _ _ _ => rfl) (fun _ _ _ _ _ => rfl) ?_ ?_ ?_ ?_ ?_ ?_ undef undef undef undef undef _ HG0.out
    · intro b0 b1 b2 b3 b4 hb hc
      cases b0 <;> cases b1 <;> cases b2 <;> cases b3 <;> cases b4 <;> first | (exact absurd hb (by decide)) | (exact absurd hc (by decide)) | (exact ⟨by kernel_rfl, by kernel_rfl⟩)
    · intro x0 x1 x2 x3 x4 v hG
      have hlt := kbox hG.2
      have gA := boxB v (.cells #[.int .i64 (-1)] 3)
      have hG2 := up1 (p := .cells #[.int .i64 (-1)] 3) hG.2
      have hG1 := belA (o := .cells #[.int .i64 (-1)] 3) hG.1 (Nat.le_refl _)
      have hL := heap_last v (.cells #[.int .i64 (-1)] 3)
      refine wpOp_step rfl (fun K hK => ?_)
      have HK9 := hid hK
      clear hK
      rw [if_pos (by rfl)]
      go_simp
      exact HK9.out _ _ ⟨_, rfl, gA, ⟨hG1, hG2⟩, ⟨v.heap.size, rfl, hlt, hL⟩, fun k hk => by have h9 : some v.heap.size = some k := hk; injection h9 with h8; omega⟩
    · intro x0 x1 x2 x3 x4 v hG hP0
      have hlt := kbox hG.2
      have HGv := hid hG
      obtain ⟨R0, rfl, hl0, hR0⟩ := hP0
      have HC := hid (HRP.out R0 v hR0)
      clear hG hR0
      refine wpOp_step rfl (fun K hK => ?_)
      have HK9 := hid hK
      clear hK
      rw [if_pos (by rfl)]
      go_simp
      refine HC.out.mono ?_
      rintro e v' ⟨rfl, hown, hb⟩
      dsimp only
      exact HK9.out _ _ ⟨_, rfl, ⟨hb.size, fun k hk _ => hb.block k hk⟩, ⟨bel_on HGv.out.1 hb, (hb.block _ hlt).trans HGv.out.2⟩, ⟨v.heap.size, rfl, hlt, hown⟩, fun k hk => Or.inl (by have h9 : some v.heap.size = some k := hk; injection h9 with h8; omega)⟩
    · intro x0 x1 x2 x3 x4 v hG
      have hlt := kbox hG.2
      have hm9 := HM1.out v
      have gA := boxB v (.cells (rp 0 n) 3)
      have hG2 := up1 (p := .cells (rp 0 n) 3) hG.2
      have hG1 := belA (o := .cells (rp 0 n) 3) hG.1 (Nat.le_refl _)
      have hL := heap_last v (.cells (rp 0 n) 3)
      refine wpOp_step rfl (fun K hK => ?_)
      have HK9 := hid hK
      clear hK
      rw [if_pos (by rfl)]
      go_simp
      exact HK9.out _ _ ⟨_, rfl, gA, ⟨hG1, hG2⟩, ⟨v.heap.size, rfl, hlt, hL⟩, fun k hk => by have h9 : some v.heap.size = some k := hk; injection h9 with h8; omega⟩
    · intro x0 x1 x2 x3 x4 v hG
      have hlt := kbox hG.2
      have hm9 := HM2.out v
      have gA := boxB v (.cells (rp 0 2) 3)
      have hG2 := up1 (p := .cells (rp 0 2) 3) hG.2
      have hG1 := belA (o := .cells (rp 0 2) 3) hG.1 (Nat.le_refl _)
      have hL := heap_last v (.cells (rp 0 2) 3)
      refine wpOp_step rfl (fun K hK => ?_)
      have HK9 := hid hK
      clear hK
      rw [if_pos (by rfl)]
      go_simp
      exact HK9.out _ _ ⟨_, rfl, gA, ⟨hG1, hG2⟩, ⟨v.heap.size, rfl, hlt, hL⟩, fun k hk => by have h9 : some v.heap.size = some k := hk; injection h9 with h8; omega⟩
    · intro x0 x1 x2 x3 x4 v hG
      have hlt := kbox hG.2
      have hm9 := HM3.out v
      have gA := boxB v (.cells (#[.slice none 0 0, .slice none 0 0]) 22)
      have hG2 := up1 (p := .cells (#[.slice none 0 0, .slice none 0 0]) 22) hG.2
      have hG1 := belA (o := .cells (#[.slice none 0 0, .slice none 0 0]) 22) hG.1 (Nat.le_refl _)
      have hL := heap_last v (.cells (#[.slice none 0 0, .slice none 0 0]) 22)
      refine wpOp_step rfl (fun K hK => ?_)
      have HK9 := hid hK
      clear hK
      rw [if_pos (by rfl)]
      go_simp
      exact HK9.out _ _ ⟨_, rfl, gA, ⟨hG1, hG2⟩, ⟨v.heap.size, rfl, hlt, hL⟩, fun k hk => by have h9 : some v.heap.size = some k := hk; injection h9 with h8; omega⟩
    · intro x0 x1 x2 x3 x4 v hG r1 r2 r3 r4 d12 d13 d14 d23 d24 d34
      obtain ⟨R1, rfl, l1, h1⟩ := r1
      obtain ⟨R2, rfl, l2, h2⟩ := r2
      obtain ⟨R3, rfl, l3, h3⟩ := r3
      obtain ⟨R4, rfl, l4, h4⟩ := r4
      have hO := fill8_out v w.heap.size (.slice (some ⟨R2, 0, none⟩) n n) (.slice (some ⟨R1, 0, none⟩) n n) (.slice (some ⟨R3, 0, none⟩) 2 2) (.slice (some ⟨R4, 0, none⟩) 2 2) (.slice none 0 0) (.slice none 0 0) (.int .i64 0) (.slice none 0 0)
      have hF := fill8 hG.2 (.slice (some ⟨R2, 0, none⟩) n n) (.slice (some ⟨R1, 0, none⟩) n n) (.slice (some ⟨R3, 0, none⟩) 2 2) (.slice (some ⟨R4, 0, none⟩) 2 2) (.slice none 0 0) (.slice none 0 0) (.int .i64 0) (.slice none 0 0)
      have hBF := fill8_below hG.1 (Nat.le_refl _) (.slice (some ⟨R2, 0, none⟩) n n) (.slice (some ⟨R1, 0, none⟩) n n) (.slice (some ⟨R3, 0, none⟩) 2 2) (.slice (some ⟨R4, 0, none⟩) 2 2) (.slice none 0 0) (.slice none 0 0) (.int .i64 0) (.slice none 0 0)
      have hg : ∀ R o, v.heap[R]? = some o → w.heap.size + 1 ≤ R → _ = some o := fun R o h hl => (hO.block R (kbox h) (by omega)).trans h
      have hk1 := kbox (hg _ _ h1 l1)
      have hW2 := rows_newF (lo := w.heap.size) (c1 := n) ⟨by omega, hk1, irow_box (by rw [← rp_all]; exact hg _ _ h1 l1)⟩ ⟨by omega, hg _ _ h2 l2⟩ ⟨by omega, hg _ _ h3 l3⟩ ⟨by omega, hg _ _ h4 l4⟩ d12.ne d13.ne d14.ne d23.ne d24.ne d34.ne
      have HW2 := hid hW2
      have HFF := hid hF
      have HBF := hid hBF
      obtain ⟨⟨z0, z1, z2, z3, z4, z5, z6, z7⟩, f0, f1, f2, f3, f4, f5, f6, f7⟩ := box8 hG.2
      clear h1 h2 h3 h4 l1 l2 l3 l4 d12 d13 d14 d23 d24 d34 hO hF hBF hW2 hG hg hk1
      refine wpAny_take (i := 7) (v := .agg #[.slice (some ⟨R2, 0, none⟩) n n, .slice (some ⟨R1, 0, none⟩) n n, .slice (some ⟨R3, 0, none⟩) 2 2, .slice (some ⟨R4, 0, none⟩) 2 2, .slice none 0 0, .slice none 0 0, .int .i64 0, .slice none 0 0]) rfl (by kernel_rfl) (by kernel_rfl) (by kernel_rfl) (fun _ _ _ h => h) (Or.inl ⟨by rfl, fun _ => by go_simp⟩) ?_
      try dsimp only [Act.put]
      refine wpAny_ready (rs := [8]) (by kernel_rfl) (by simp) (AllReady.cons rfl (fun K hK => ?_) AllReady.nil)
      have HK9 := hid hK
      clear hK
      rw [if_pos (by rfl)]
      go_simp
      refine HK9.out _ _ ?_
      clear HK9 K
      try dsimp only [Act.put]
      generalize ((((((((v.setCell ⟨w.heap.size, 0, none⟩ (.slice (some ⟨R2, 0, none⟩) n n)).setCell ⟨w.heap.size, 1, none⟩ (.slice (some ⟨R1, 0, none⟩) n n)).setCell ⟨w.heap.size, 2, none⟩ (.slice (some ⟨R3, 0, none⟩) 2 2)).setCell ⟨w.heap.size, 3, none⟩ (.slice (some ⟨R4, 0, none⟩) 2 2)).setCell ⟨w.heap.size, 4, none⟩ (.slice none 0 0)).setCell ⟨w.heap.size, 5, none⟩ (.slice none 0 0)).setCell ⟨w.heap.size, 6, none⟩ (.int .i64 0)).setCell ⟨w.heap.size, 7, none⟩ (.slice none 0 0)) = F9 at *
      refine wpAny_ready (rs := [9]) (by kernel_rfl) (by simp) (AllReady.cons rfl (fun K hK => ?_) AllReady.nil)
      have HK9 := hid hK
      clear hK
      rw [if_pos (by rfl)]
      go_simp
      refine HK9.out _ _ ?_
      clear HK9 K
      try dsimp only [Act.put]
      refine wpAny_done (by kernel_rfl) ?_ _
      go_wp2_with fail
      go_meet
      case rel => exact ⟨rfl, R1, R2, R3, R4, HFF.out, HW2.out, HBF.out⟩
  case rest =>
    obtain ⟨rfl, R1, R2, R3, R4, hK, hO, hB⟩ := hcut
    have HO := hid hO
    have HBF := hid hB
    obtain ⟨⟨q0, q1, q2, q3, q4, q5, q6, q7⟩, -⟩ := box8 hK
    clear hK hO hB
    go_wp2_with fail
    refine bodyPost_ret (v := .tuple #[.agg #[.slice (some ⟨R2, 0, none⟩) n n, .slice (some ⟨R1, 0, none⟩) n n, .slice (some ⟨R3, 0, none⟩) 2 2, .slice (some ⟨R4, 0, none⟩) 2 2, .slice none 0 0, .slice none 0 0, .int .i64 0, .slice none 0 0], .bool true]) (by simp [results, Try.results10, go_sem, q0, q1, q2, q3, q4, q5, q6, q7]) rfl ?_
    refine Or.inl ⟨HOK.out, ⟨some ⟨R2, 0, none⟩, n, some ⟨R1, 0, none⟩, n, some ⟨R3, 0, none⟩, 2, some ⟨R4, 0, none⟩, 2, none, 0, none, 0, none, 0⟩, ?_, HO.out, HBF.out⟩
    have e1 : ((n : Int).toNat) = n := Int.toNat_natCast n
    rw [e1]
    show Ending.returned (.tuple #[.agg #[.slice (some ⟨R2, 0, none⟩) n n, .slice (some ⟨R1, 0, none⟩) n n, .slice (some ⟨R3, 0, none⟩) 2 2, .slice (some ⟨R4, 0, none⟩) 2 2, .slice none 0 0, .slice none 0 0, .int .i64 0, .slice none 0 0], .bool true]) = Ending.returned (.tuple #[.agg #[.slice (some ⟨R2, 0, none⟩) (List.replicate n (0 : Int)).length n, .slice (some ⟨R1, 0, none⟩) (List.replicate n (-1 : Int)).length n, .slice (some ⟨R3, 0, none⟩) 2 2, .slice (some ⟨R4, 0, none⟩) 2 2, .slice none 0 0, .slice none 0 0, .int .i64 0, .slice none 0 0], .bool true])
    rw [List.length_replicate, List.length_replicate]
end Go.Proofs.Ytikmkkklgdkpaaa

/- The model's NewFence. -/
import Derived.Test.YtikmkkklgdkpaaaFcNi
import Derived.Test.YtikmkkklgdkpaaaFc5
namespace Go.Proofs.Ytikmkkklgdkpaaa
set_option maxRecDepth 100000
open Go Go.ChangeShapes Go.WideShapes Go.ChangeAt Go.RowKit
/-- a pointer to a box of one's own -/
def PP (lo : Nat) (cs : Array Value) (t : TypeId) (v : World) (x : Value) : Prop := ∃ R, x = .pointer (some ⟨R, 0, none⟩) ∧ lo ≤ R ∧ v.heap[R]? = some (.cells cs t)
theorem ownP_pp (lo : Nat) (cs : Array Value) (t : TypeId) : OwnPr (PP lo cs t) := by
  refine ⟨?_, ?_⟩
  · rintro v v' x ⟨R, rfl, hl, hR⟩ g
    exact ⟨R, rfl, hl, (g.block R (kbox hR)).trans hR⟩
  · rintro v x ⟨R, rfl, hl, hR⟩ k hk
    cases hk
/-- what stands while the model's loop goes -/
structure NS (w : World) (n lo RB R1 R3 R4 : Nat) (vg : Value) (k : Nat) (v : World) : Prop where
  b : v.heap[RB]? = some (.cells #[.slice (some ⟨R1, 0, none⟩) n n, vg, .slice (some ⟨R3, 0, none⟩) 2 2, .slice (some ⟨R4, 0, none⟩) 2 2, .slice none 0 0, .slice none 0 0, .int .i64 0, .slice none 0 0] 26)
  g : AL lo vg (List.replicate k (-1)) v
  j : v.heap[R1]? = some (.cells (rp 0 n) 3)
  p : v.heap[R3]? = some (.cells (rp 0 2) 3)
  t : v.heap[R4]? = some (.cells #[.slice none 0 0, .slice none 0 0] 22)
  z : v.heap[w.heap.size]? = some (.cells #[.slice none 0 0, .slice none 0 0, .slice none 0 0, .slice none 0 0, .slice none 0 0, .slice none 0 0, .int .i64 0, .slice none 0 0] 26)
  bel : Below w.heap.size w v
  sz : lo ≤ v.heap.size
/-- the boxes lie apart, behind what was there -/
structure NA (w : World) (lo RB R1 R3 R4 : Nat) : Prop where
  w0 : w.heap.size < lo
  b1 : w.heap.size < RB ∧ RB < lo
  j1 : w.heap.size < R1 ∧ R1 < lo
  p1 : w.heap.size < R3 ∧ R3 < lo
  t1 : w.heap.size < R4 ∧ R4 < lo
  bj : RB ≠ R1
  bp : RB ≠ R3
  bt : RB ≠ R4
  jp : R1 ≠ R3
  jt : R1 ≠ R4
  pt : R3 ≠ R4
theorem NS.put {w : World} {n lo RB R1 R3 R4 : Nat} {vg v' : Value} {k : Nat} {v w' : World} (a : NA w lo RB R1 R3 R4) (h : NS w n lo RB R1 R3 R4 vg k v) (hg : AL lo v' (List.replicate (k + 1) (-1)) w') (g : Below lo v w') : NS w n lo RB R1 R3 R4 v' (k + 1) (w'.setCell ⟨RB, 1, none⟩ v') := by
  have a1 := a.b1; have a2 := a.j1; have a3 := a.p1; have a4 := a.t1; have a0 := a.w0
  have hs := h.sz
  have hb : w'.heap[RB]? = some (.cells #[.slice (some ⟨R1, 0, none⟩) n n, vg, .slice (some ⟨R3, 0, none⟩) 2 2, .slice (some ⟨R4, 0, none⟩) 2 2, .slice none 0 0, .slice none 0 0, .int .i64 0, .slice none 0 0] 26) := (g.block RB a1.2).trans h.b
  refine ⟨?_, ?_, ?_, ?_, ?_, ?_, ?_, ?_⟩
  · have := box_set hb 1 v'
    simpa using this
  · refine rw_keep hg (fun q hq => keepB _ _ _ _ _ ?_)
    have := (World.ownsRow.lt hg q hq).1
    omega
  · exact (keepB _ _ _ _ _ (fun e => a.bj e.symm)).trans ((g.block R1 a2.2).trans h.j)
  · exact (keepB _ _ _ _ _ (fun e => a.bp e.symm)).trans ((g.block R3 a3.2).trans h.p)
  · exact (keepB _ _ _ _ _ (fun e => a.bt e.symm)).trans ((g.block R4 a4.2).trans h.t)
  · exact (keepB _ _ _ _ _ (by omega)).trans ((g.block _ a0).trans h.z)
  · exact setB (h.bel.trans (g.mono (by omega))) _ _ (by omega) _
  · have e : (w'.setCell ⟨RB, 1, none⟩ v').heap.size = w'.heap.size := by simp [World.setCell]
    rw [e]
    exact Nat.le_trans hs g.size
theorem ns_fill {w v : World} {n RB R1 R3 R4 : Nat} (hG : Below w.heap.size w v ∧ v.heap[w.heap.size]? = some (.cells #[.slice none 0 0, .slice none 0 0, .slice none 0 0, .slice none 0 0, .slice none 0 0, .slice none 0 0, .int .i64 0, .slice none 0 0] 26)) (h1 : v.heap[R1]? = some (.cells (rp 0 n) 3)) (h3 : v.heap[R3]? = some (.cells (rp 0 2) 3)) (h4 : v.heap[R4]? = some (.cells #[.slice none 0 0, .slice none 0 0] 22)) (hB : v.heap[RB]? = some (.cells #[.slice none 0 0, .slice none 0 0, .slice none 0 0, .slice none 0 0, .slice none 0 0, .slice none 0 0, .int .i64 0, .slice none 0 0] 26))
    (l1 : w.heap.size + 1 ≤ R1) (l3 : w.heap.size + 1 ≤ R3) (l4 : w.heap.size + 1 ≤ R4) (lB : w.heap.size + 1 ≤ RB) (d13 : R1 ≠ R3) (d14 : R1 ≠ R4) (d34 : R3 ≠ R4) (e1 : RB ≠ R1) (e3 : RB ≠ R3) (e4 : RB ≠ R4) :
    NA w ((((((((v.setCell ⟨RB, 0, none⟩ (.slice (some ⟨R1, 0, none⟩) n n)).setCell ⟨RB, 1, none⟩ (.slice none 0 0)).setCell ⟨RB, 2, none⟩ (.slice (some ⟨R3, 0, none⟩) 2 2)).setCell ⟨RB, 3, none⟩ (.slice (some ⟨R4, 0, none⟩) 2 2)).setCell ⟨RB, 4, none⟩ (.slice none 0 0)).setCell ⟨RB, 5, none⟩ (.slice none 0 0)).setCell ⟨RB, 6, none⟩ (.int .i64 0)).setCell ⟨RB, 7, none⟩ (.slice none 0 0)).heap.size RB R1 R3 R4 ∧ NS w n ((((((((v.setCell ⟨RB, 0, none⟩ (.slice (some ⟨R1, 0, none⟩) n n)).setCell ⟨RB, 1, none⟩ (.slice none 0 0)).setCell ⟨RB, 2, none⟩ (.slice (some ⟨R3, 0, none⟩) 2 2)).setCell ⟨RB, 3, none⟩ (.slice (some ⟨R4, 0, none⟩) 2 2)).setCell ⟨RB, 4, none⟩ (.slice none 0 0)).setCell ⟨RB, 5, none⟩ (.slice none 0 0)).setCell ⟨RB, 6, none⟩ (.int .i64 0)).setCell ⟨RB, 7, none⟩ (.slice none 0 0)).heap.size RB R1 R3 R4 (.slice none 0 0) 0 ((((((((v.setCell ⟨RB, 0, none⟩ (.slice (some ⟨R1, 0, none⟩) n n)).setCell ⟨RB, 1, none⟩ (.slice none 0 0)).setCell ⟨RB, 2, none⟩ (.slice (some ⟨R3, 0, none⟩) 2 2)).setCell ⟨RB, 3, none⟩ (.slice (some ⟨R4, 0, none⟩) 2 2)).setCell ⟨RB, 4, none⟩ (.slice none 0 0)).setCell ⟨RB, 5, none⟩ (.slice none 0 0)).setCell ⟨RB, 6, none⟩ (.int .i64 0)).setCell ⟨RB, 7, none⟩ (.slice none 0 0)) := by
  have k1 := kbox h1
  have k3 := kbox h3
  have k4 := kbox h4
  have kB := kbox hB
  have kw := kbox hG.2
  have hF := fill8 hB (.slice (some ⟨R1, 0, none⟩) n n) (.slice none 0 0) (.slice (some ⟨R3, 0, none⟩) 2 2) (.slice (some ⟨R4, 0, none⟩) 2 2) (.slice none 0 0) (.slice none 0 0) (.int .i64 0) (.slice none 0 0)
  have hO := fill8_out v RB (.slice (some ⟨R1, 0, none⟩) n n) (.slice none 0 0) (.slice (some ⟨R3, 0, none⟩) 2 2) (.slice (some ⟨R4, 0, none⟩) 2 2) (.slice none 0 0) (.slice none 0 0) (.int .i64 0) (.slice none 0 0)
  have hBF := fill8_below (Q := RB) hG.1 (by omega) (.slice (some ⟨R1, 0, none⟩) n n) (.slice none 0 0) (.slice (some ⟨R3, 0, none⟩) 2 2) (.slice (some ⟨R4, 0, none⟩) 2 2) (.slice none 0 0) (.slice none 0 0) (.int .i64 0) (.slice none 0 0)
  have hs := hO.size
  exact ⟨⟨by omega, by omega, by omega, by omega, by omega, e1, e3, e4, d13, d14, d34⟩, ⟨hF, AL.nil _ _, (hO.block R1 k1 (by omega)).trans h1, (hO.block R3 k3 (by omega)).trans h3, (hO.block R4 k4 (by omega)).trans h4, (hO.block _ kw (by omega)).trans hG.2, hBF, Nat.le_refl _⟩⟩
set_option maxHeartbeats 8000000 in
theorem snewF_any (z : Int) (w : World) : Calls Try.prog 9 #[.int .i64 z] w fun e w' => NFo z w e w' := by
  have HB := hid (boxB w (.cells #[.slice none 0 0, .slice none 0 0, .slice none 0 0, .slice none 0 0, .slice none 0 0, .slice none 0 0, .int .i64 0, .slice none 0 0] 26))
  have HK := hid (heap_last w (.cells #[.slice none 0 0, .slice none 0 0, .slice none 0 0, .slice none 0 0, .slice none 0 0, .slice none 0 0, .int .i64 0, .slice none 0 0] 26))
  have HJ : Hid (∀ v, Calls Try.prog 34 #[.int .i64 z, .int .i64 1, .int .i64 5] v fun e w' => e = .returned (.bool (judgesN z)) ∧ w' = v) := fun v => l1In_b z 1 5 v
  cases hj : judgesN z
  case false =>
    have HE := hid hj
    rw [hj] at HJ
    clear hj
    go_enter Try.func9, Try.ntmps9
    go_wp2_with fail
    generalize w.alloc (.cells #[.slice none 0 0, .slice none 0 0, .slice none 0 0, .slice none 0 0, .slice none 0 0, .slice none 0 0, .int .i64 0, .slice none 0 0] 26) = W at *
    obtain ⟨⟨z0, z1, z2, z3, z4, z5, z6, z7⟩, f0, f1, f2, f3, f4, f5, f6, f7⟩ := box8 HK.out
    refine (HJ.out W).mono ?_
    rintro e v ⟨rfl, hv⟩
    rw [hv]
    clear hv v
    go_wp2_with fail
    have hb8 := box8 (fill8 HK.out (.slice none 0 0) (.slice none 0 0) (.slice none 0 0) (.slice none 0 0) (.slice none 0 0) (.slice none 0 0) (.int .i64 0) (.slice none 0 0))
    obtain ⟨⟨q0, q1, q2, q3, q4, q5, q6, q7⟩, -⟩ := hb8
    refine bodyPost_ret (v := .tuple #[.agg #[.slice none 0 0, .slice none 0 0, .slice none 0 0, .slice none 0 0, .slice none 0 0, .slice none 0 0, .int .i64 0, .slice none 0 0], .bool false]) (by simp [results, Try.results9, go_sem, q0, q1, q2, q3, q4, q5, q6, q7]) rfl ?_
    exact Or.inr ⟨HE.out, rfl, fill8_below HB.out (Nat.le_refl _) _ _ _ _ _ _ _ _⟩
  have HOK := hid hj
  have hq := judgesN_yes hj
  rw [hj] at HJ
  obtain ⟨n, rfl⟩ : ∃ n : Nat, z = (n : Int) := ⟨z.toNat, by omega⟩
  have hn1 : 1 ≤ n := by omega
  have hn5 : n ≤ 5 := by omega
  have hmk := fun W => make_ints n (by omega) W
  rw [rp_made] at hmk
  have HM1 := hid hmk
  have HM2 := hid make_two
  have HM3 := hid make_rows2
  have hz8 : rp 0 n = rp 0 n := rfl
  clear hj hq hmk hz8
  go_enter Try.func9, Try.ntmps9
  go_wp2_with fail
  generalize w.alloc (.cells #[.slice none 0 0, .slice none 0 0, .slice none 0 0, .slice none 0 0, .slice none 0 0, .slice none 0 0, .int .i64 0, .slice none 0 0] 26) = W at *
  refine (HJ.out W).mono ?_
  rintro e v ⟨rfl, hv⟩
  rw [hv]
  clear hv v HJ
  have HG0 : Hid (Below w.heap.size w W.drew ∧ W.drew.heap[w.heap.size]? = some (.cells #[.slice none 0 0, .slice none 0 0, .slice none 0 0, .slice none 0 0, .slice none 0 0, .slice none 0 0, .int .i64 0, .slice none 0 0] 26)) := ⟨HB.out.drew, HK.out⟩
  go_upto_region 3 with fail
  go_cut [4] (fun s4 wc => ∃ RB R1 R3 R4 : Nat, s4 = .pointer (some ⟨RB, 0, none⟩) ∧ NA w wc.heap.size RB R1 R3 R4 ∧ NS w n wc.heap.size RB R1 R3 R4 (.slice none 0 0) 0 wc)
  case first =>
    refine wp_region_any (by kernel_rfl) ?_
    clear HB HK
    refine wpAny_take (i := 0) (v := .int .i64 (n : Int)) rfl (by kernel_rfl) (by kernel_rfl) (by kernel_rfl) (fun _ _ _ h => h) (Or.inl ⟨by rfl, fun _ => by go_simp⟩) ?_
    try dsimp only [Act.put]
    refine wpAny_fam4X (fun b1 b2 b3 b4 => #[true, b1, b2, b3, false, b4, false]) (fun x1 x2 x3 x4 => { tmps := #[.int .i64 (n : Int), undef, .pointer (some ⟨w.heap.size, 0, none⟩), .bool false, x4, undef, .int .i64 (n : Int), .bool true, .bool false, undef, .int .i64 (n : Int), x1, x2, x3, undef, undef, undef, undef, undef, undef, undef, undef, undef, undef, undef, undef], defers := [] }) (fun v => Below w.heap.size w v ∧ v.heap[w.heap.size]? = some (.cells #[.slice none 0 0, .slice none 0 0, .slice none 0 0, .slice none 0 0, .slice none 0 0, .slice none 0 0, .int .i64 0, .slice none 0 0] 26)) (PB (w.heap.size + 1) n (rp 0 n) 3) (PB (w.heap.size + 1) 2 (rp 0 2) 3) (PB (w.heap.size + 1) 2 #[.slice none 0 0, .slice none 0 0] 22) (PP (w.heap.size + 1) #[.slice none 0 0, .slice none 0 0, .slice none 0 0, .slice none 0 0, .slice none 0 0, .slice none 0 0, .int .i64 0, .slice none 0 0] 26) (ownP_pb _ _ _ _) (ownP_pb _ _ _ _) (ownP_pb _ _ _ _) (ownP_pp _ _ _) 1 2 3 5 2 ?_ (fun _ _ _ _ => rfl) (fun _ _ _ _ => rfl) (fun _ _ _ _ => rfl) (fun _ _ _ _ => rfl) ?_ ?_ ?_ ?_ ?_ ?_ undef undef undef undef _ HG0.out
    · intro b1 b2 b3 b4 hb
      cases b1 <;> cases b2 <;> cases b3 <;> cases b4 <;> first | (exact absurd hb (by decide)) | (exact ⟨by kernel_rfl, by kernel_rfl⟩)
    · intro x1 x2 x3 x4 v hG
      have hlt := kbox hG.2
      have hm9 := HM1.out v
      have gA := boxB v (.cells (rp 0 n) 3)
      have hG2 := up1 (p := .cells (rp 0 n) 3) hG.2
      have hG1 := belA (o := .cells (rp 0 n) 3) hG.1 (Nat.le_refl _)
      have hL := heap_last v (.cells (rp 0 n) 3)
      refine wpOp_step rfl (fun K hK => ?_)
      have HK9 := hid hK
      clear hK
      rw [if_pos (by rfl)]
      go_simp
      exact HK9.out _ _ ⟨_, rfl, gA, ⟨hG1, hG2⟩, ⟨v.heap.size, rfl, hlt, hL⟩, fun k hk => by have h9 : some v.heap.size = some k := hk; injection h9 with h8; omega⟩
    · intro x1 x2 x3 x4 v hG
      have hlt := kbox hG.2
      have hm9 := HM2.out v
      have gA := boxB v (.cells (rp 0 2) 3)
      have hG2 := up1 (p := .cells (rp 0 2) 3) hG.2
      have hG1 := belA (o := .cells (rp 0 2) 3) hG.1 (Nat.le_refl _)
      have hL := heap_last v (.cells (rp 0 2) 3)
      refine wpOp_step rfl (fun K hK => ?_)
      have HK9 := hid hK
      clear hK
      rw [if_pos (by rfl)]
      go_simp
      exact HK9.out _ _ ⟨_, rfl, gA, ⟨hG1, hG2⟩, ⟨v.heap.size, rfl, hlt, hL⟩, fun k hk => by have h9 : some v.heap.size = some k := hk; injection h9 with h8; omega⟩
    · intro x1 x2 x3 x4 v hG
      have hlt := kbox hG.2
      have hm9 := HM3.out v
      have gA := boxB v (.cells (#[.slice none 0 0, .slice none 0 0]) 22)
      have hG2 := up1 (p := .cells (#[.slice none 0 0, .slice none 0 0]) 22) hG.2
      have hG1 := belA (o := .cells (#[.slice none 0 0, .slice none 0 0]) 22) hG.1 (Nat.le_refl _)
      have hL := heap_last v (.cells (#[.slice none 0 0, .slice none 0 0]) 22)
      refine wpOp_step rfl (fun K hK => ?_)
      have HK9 := hid hK
      clear hK
      rw [if_pos (by rfl)]
      go_simp
      exact HK9.out _ _ ⟨_, rfl, gA, ⟨hG1, hG2⟩, ⟨v.heap.size, rfl, hlt, hL⟩, fun k hk => by have h9 : some v.heap.size = some k := hk; injection h9 with h8; omega⟩
    · intro x1 x2 x3 x4 v hG
      have hlt := kbox hG.2
      have gA := boxB v (.cells #[.slice none 0 0, .slice none 0 0, .slice none 0 0, .slice none 0 0, .slice none 0 0, .slice none 0 0, .int .i64 0, .slice none 0 0] 26)
      have hG2 := up1 (p := (.cells #[.slice none 0 0, .slice none 0 0, .slice none 0 0, .slice none 0 0, .slice none 0 0, .slice none 0 0, .int .i64 0, .slice none 0 0] 26)) hG.2
      have hG1 := belA (o := (.cells #[.slice none 0 0, .slice none 0 0, .slice none 0 0, .slice none 0 0, .slice none 0 0, .slice none 0 0, .int .i64 0, .slice none 0 0] 26)) hG.1 (Nat.le_refl _)
      have hL := heap_last v (.cells #[.slice none 0 0, .slice none 0 0, .slice none 0 0, .slice none 0 0, .slice none 0 0, .slice none 0 0, .int .i64 0, .slice none 0 0] 26)
      refine wpOp_step rfl (fun K hK => ?_)
      have HK9 := hid hK
      clear hK
      rw [if_pos (by rfl)]
      go_simp
      exact HK9.out _ _ ⟨_, rfl, gA, ⟨hG1, hG2⟩, ⟨v.heap.size, rfl, hlt, hL⟩, fun k hk => by cases hk⟩
    · intro x1 x2 x3 x4 v hG r1 r2 r3 d12 d13 d23
      obtain ⟨R1, rfl, l1, h1⟩ := r1
      obtain ⟨R3, rfl, l3, h3⟩ := r2
      obtain ⟨R4, rfl, l4, h4⟩ := r3
      have k1 := kbox h1
      have k3 := kbox h3
      have k4 := kbox h4
      have hlt := kbox hG.2
      have hL := heap_last v (.cells #[.slice none 0 0, .slice none 0 0, .slice none 0 0, .slice none 0 0, .slice none 0 0, .slice none 0 0, .int .i64 0, .slice none 0 0] 26)
      have hN := ns_fill (w := w) (n := n) ⟨belA (o := (.cells #[.slice none 0 0, .slice none 0 0, .slice none 0 0, .slice none 0 0, .slice none 0 0, .slice none 0 0, .int .i64 0, .slice none 0 0] 26)) hG.1 (Nat.le_refl _), up1 (p := (.cells #[.slice none 0 0, .slice none 0 0, .slice none 0 0, .slice none 0 0, .slice none 0 0, .slice none 0 0, .int .i64 0, .slice none 0 0] 26)) hG.2⟩ (up1 h1) (up1 h3) (up1 h4) hL l1 l3 l4 hlt d12.ne d13.ne d23.ne (by omega) (by omega) (by omega)
      have HNA := hid hN.1
      have HNS := hid hN.2
      have HL := hid (box8 hL)
      clear h1 h3 h4 l1 l3 l4 d12 d13 d23 hG k1 k3 k4 hL hN hlt
      refine wpAny_take (i := 4) (v := .agg #[.slice (some ⟨R1, 0, none⟩) n n, .slice none 0 0, .slice (some ⟨R3, 0, none⟩) 2 2, .slice (some ⟨R4, 0, none⟩) 2 2, .slice none 0 0, .slice none 0 0, .int .i64 0, .slice none 0 0]) rfl (by kernel_rfl) (by kernel_rfl) (by kernel_rfl) (fun _ _ _ h => h) (Or.inl ⟨by rfl, fun _ => by go_simp⟩) ?_
      try dsimp only [Act.put]
      refine wpAny_ready (rs := [5]) (by kernel_rfl) (by simp) (AllReady.cons rfl (fun K hK => ?_) AllReady.nil)
      have HK9 := hid hK
      clear hK
      rw [if_pos (by rfl)]
      go_simp
      refine HK9.out _ _ ?_
      clear HK9 K
      try dsimp only [Act.put]
      generalize hV : v.alloc (.cells #[.slice none 0 0, .slice none 0 0, .slice none 0 0, .slice none 0 0, .slice none 0 0, .slice none 0 0, .int .i64 0, .slice none 0 0] 26) = V at *
      generalize v.heap.size = RB at *
      clear hV
      obtain ⟨⟨z0, z1, z2, z3, z4, z5, z6, z7⟩, f0, f1, f2, f3, f4, f5, f6, f7⟩ := HL.out
      refine wpAny_ready (rs := [6]) (by kernel_rfl) (by simp) (AllReady.cons rfl (fun K hK => ?_) AllReady.nil)
      have HK9 := hid hK
      clear hK
      rw [if_pos (by rfl)]
      go_simp
      refine HK9.out _ _ ?_
      clear HK9 K
      try dsimp only [Act.put]
      generalize ((((((((V.setCell ⟨RB, 0, none⟩ (.slice (some ⟨R1, 0, none⟩) n n)).setCell ⟨RB, 1, none⟩ (.slice none 0 0)).setCell ⟨RB, 2, none⟩ (.slice (some ⟨R3, 0, none⟩) 2 2)).setCell ⟨RB, 3, none⟩ (.slice (some ⟨R4, 0, none⟩) 2 2)).setCell ⟨RB, 4, none⟩ (.slice none 0 0)).setCell ⟨RB, 5, none⟩ (.slice none 0 0)).setCell ⟨RB, 6, none⟩ (.int .i64 0)).setCell ⟨RB, 7, none⟩ (.slice none 0 0)) = F9 at *
      refine wpAny_done (by kernel_rfl) ?_ _
      go_wp2_with fail
      go_meet
      case rel => exact ⟨_, R1, R3, R4, rfl, HNA.out, HNS.out⟩
    · intro x1 x2 x3 x4 v hG r1 r2 r3 r4 d12 d13 _ d23 _ _
      obtain ⟨R1, rfl, l1, h1⟩ := r1
      obtain ⟨R3, rfl, l3, h3⟩ := r2
      obtain ⟨R4, rfl, l4, h4⟩ := r3
      obtain ⟨RB, rfl, lB, hB⟩ := r4
      have e1 : RB ≠ R1 := fun e => by rw [e, h1] at hB; injection hB with hB; injection hB with _ hB; exact absurd hB (by decide)
      have e3 : RB ≠ R3 := fun e => by rw [e, h3] at hB; injection hB with hB; injection hB with _ hB; exact absurd hB (by decide)
      have e4 : RB ≠ R4 := fun e => by rw [e, h4] at hB; injection hB with hB; injection hB with _ hB; exact absurd hB (by decide)
      have hN := ns_fill (w := w) (n := n) hG h1 h3 h4 hB l1 l3 l4 lB d12.ne d13.ne d23.ne e1 e3 e4
      have HNA := hid hN.1
      have HNS := hid hN.2
      obtain ⟨⟨z0, z1, z2, z3, z4, z5, z6, z7⟩, f0, f1, f2, f3, f4, f5, f6, f7⟩ := box8 hB
      clear h1 h3 h4 hB l1 l3 l4 lB d12 d13 d23 hG e1 e3 e4 hN
      refine wpAny_take (i := 4) (v := .agg #[.slice (some ⟨R1, 0, none⟩) n n, .slice none 0 0, .slice (some ⟨R3, 0, none⟩) 2 2, .slice (some ⟨R4, 0, none⟩) 2 2, .slice none 0 0, .slice none 0 0, .int .i64 0, .slice none 0 0]) rfl (by kernel_rfl) (by kernel_rfl) (by kernel_rfl) (fun _ _ _ h => h) (Or.inl ⟨by rfl, fun _ => by go_simp⟩) ?_
      try dsimp only [Act.put]
      refine wpAny_ready (rs := [6]) (by kernel_rfl) (by simp) (AllReady.cons rfl (fun K hK => ?_) AllReady.nil)
      have HK9 := hid hK
      clear hK
      rw [if_pos (by rfl)]
      go_simp
      refine HK9.out _ _ ?_
      clear HK9 K
      try dsimp only [Act.put]
      generalize ((((((((v.setCell ⟨RB, 0, none⟩ (.slice (some ⟨R1, 0, none⟩) n n)).setCell ⟨RB, 1, none⟩ (.slice none 0 0)).setCell ⟨RB, 2, none⟩ (.slice (some ⟨R3, 0, none⟩) 2 2)).setCell ⟨RB, 3, none⟩ (.slice (some ⟨R4, 0, none⟩) 2 2)).setCell ⟨RB, 4, none⟩ (.slice none 0 0)).setCell ⟨RB, 5, none⟩ (.slice none 0 0)).setCell ⟨RB, 6, none⟩ (.int .i64 0)).setCell ⟨RB, 7, none⟩ (.slice none 0 0)) = F9 at *
      refine wpAny_done (by kernel_rfl) ?_ _
      go_wp2_with fail
      go_meet
      case rel => exact ⟨_, R1, R3, R4, rfl, HNA.out, HNS.out⟩
  case rest =>
    clear HG0 HB HK HM1 HM2 HM3
    obtain ⟨RB, R1, R3, R4, rfl, hA, hS⟩ := hcut
    have HA := hid hA
    have HS := hid hS
    clear hA hS
    generalize hlo : wc.heap.size = lo at HA HS
    clear hlo
    go_wp2_with fail
    go_loopw [5] (fun i wr => ∃ (k : Nat) (vg : Value), k ≤ n ∧ i = .int .i64 (k : Int) ∧ NS w n lo RB R1 R3 R4 vg k wr) (fun i _ => n - (intOf i).toNat)
    case atStart => exact ⟨0, _, Nat.zero_le _, rfl, HS.out⟩
    case round =>
      clear HS
      obtain ⟨k, vg, hk, rfl, hS⟩ := hrel
      have HS := hid hS
      by_cases hlt : k < n
      · have hlen : (List.replicate k (-1 : Int)).length + 1 ≤ 10000 := by rw [List.length_replicate]; omega
        obtain ⟨v', w', r1, o1, g1, z1, gb, -⟩ := hS.g.push hS.sz (-1) hlen
        have o2 : AL lo v' (List.replicate (k + 1) (-1)) w' := by rw [List.replicate_succ']; exact o1
        obtain ⟨aa, cc, ev⟩ := rw_form o2
        rw [List.length_replicate] at ev
        subst ev
        have HN := hid (hS.put HA.out o2 g1)
        have x1 := box_cell hS.b 1
        have hb' := (g1.block RB HA.out.b1.2).trans hS.b
        have y1 := box_cell hb' 1
        have f1 := box_free hb' 1
        clear hlen o1 o2 g1 z1 gb hS hb'
        go_wp2_with (refine wpList_append_run rfl _ _ 22 rfl _ _ rfl rfl _ _ r1 ?_)
        go_roundw
        case rel => exact ⟨k + 1, _, by omega, by go_num, HN.out⟩
        case measure => simp [intOf]; omega
      · obtain rfl : k = n := by omega
        clear hlt hk
        obtain ⟨R2, c2, hv, hl2, hi2, -⟩ := own_irow (l := List.replicate k (-1 : Int)) hS.g (by rw [List.length_replicate]; omega)
        rw [List.length_replicate] at hv
        subst hv
        have hA := HA.out
        have a0 := hA.w0; have a1 := hA.j1; have a3 := hA.p1; have a4 := hA.t1
        have hO := fill8_out wr w.heap.size (.slice (some ⟨R1, 0, none⟩) k k) (.slice (some ⟨R2, 0, none⟩) k c2) (.slice (some ⟨R3, 0, none⟩) 2 2) (.slice (some ⟨R4, 0, none⟩) 2 2) (.slice none 0 0) (.slice none 0 0) (.int .i64 0) (.slice none 0 0)
        have hF := fill8 hS.z (.slice (some ⟨R1, 0, none⟩) k k) (.slice (some ⟨R2, 0, none⟩) k c2) (.slice (some ⟨R3, 0, none⟩) 2 2) (.slice (some ⟨R4, 0, none⟩) 2 2) (.slice none 0 0) (.slice none 0 0) (.int .i64 0) (.slice none 0 0)
        have hBF := fill8_below hS.bel (Nat.le_refl _) (.slice (some ⟨R1, 0, none⟩) k k) (.slice (some ⟨R2, 0, none⟩) k c2) (.slice (some ⟨R3, 0, none⟩) 2 2) (.slice (some ⟨R4, 0, none⟩) 2 2) (.slice none 0 0) (.slice none 0 0) (.int .i64 0) (.slice none 0 0)
        have hg : ∀ R o, wr.heap[R]? = some o → w.heap.size < R → _ = some o := fun R o h hl => (hO.block R (kbox h) (by omega)).trans h
        have hi3 := hi2.same hO.size (hO.block R2 hi2.lt (by omega))
        have HW2 := hid (rows_newF (lo := w.heap.size) (c1 := c2) ⟨by omega, hi3.lt, hi3⟩ ⟨by omega, hg _ _ hS.j a1.1⟩ ⟨by omega, hg _ _ hS.p a3.1⟩ ⟨by omega, hg _ _ hS.t a4.1⟩ (by omega) (by omega) (by omega) hA.jp hA.jt hA.pt)
        have HBF := hid hBF
        have HQ := hid (box8 hF).1
        obtain ⟨⟨z0, z1, z2, z3, z4, z5, z6, z7⟩, f0, f1, f2, f3, f4, f5, f6, f7⟩ := box8 hS.z
        obtain ⟨⟨y0, y1, y2, y3, y4, y5, y6, y7⟩, -⟩ := box8 hS.b
        clear hO hF hBF hg hi2 hi3 hS HS hA a0 a1 a3 a4 hl2
        go_wp2_with fail
        generalize ((((((((wr.setCell ⟨w.heap.size, 0, none⟩ (.slice (some ⟨R1, 0, none⟩) k k)).setCell ⟨w.heap.size, 1, none⟩ (.slice (some ⟨R2, 0, none⟩) k c2)).setCell ⟨w.heap.size, 2, none⟩ (.slice (some ⟨R3, 0, none⟩) 2 2)).setCell ⟨w.heap.size, 3, none⟩ (.slice (some ⟨R4, 0, none⟩) 2 2)).setCell ⟨w.heap.size, 4, none⟩ (.slice none 0 0)).setCell ⟨w.heap.size, 5, none⟩ (.slice none 0 0)).setCell ⟨w.heap.size, 6, none⟩ (.int .i64 0)).setCell ⟨w.heap.size, 7, none⟩ (.slice none 0 0)) = F9 at *
        obtain ⟨q0, q1, q2, q3, q4, q5, q6, q7⟩ := HQ.out
        refine bodyPost_ret (v := .tuple #[.agg #[.slice (some ⟨R1, 0, none⟩) k k, .slice (some ⟨R2, 0, none⟩) k c2, .slice (some ⟨R3, 0, none⟩) 2 2, .slice (some ⟨R4, 0, none⟩) 2 2, .slice none 0 0, .slice none 0 0, .int .i64 0, .slice none 0 0], .bool true]) (by simp [results, Try.results9, go_sem, q0, q1, q2, q3, q4, q5, q6, q7]) rfl ?_
        refine Or.inl ⟨HOK.out, ⟨some ⟨R1, 0, none⟩, k, some ⟨R2, 0, none⟩, c2, some ⟨R3, 0, none⟩, 2, some ⟨R4, 0, none⟩, 2, none, 0, none, 0, none, 0⟩, ?_, HW2.out, HBF.out⟩
        have e1 : ((k : Int).toNat) = k := Int.toNat_natCast k
        rw [e1]
        show Ending.returned (.tuple #[.agg #[.slice (some ⟨R1, 0, none⟩) k k, .slice (some ⟨R2, 0, none⟩) k c2, .slice (some ⟨R3, 0, none⟩) 2 2, .slice (some ⟨R4, 0, none⟩) 2 2, .slice none 0 0, .slice none 0 0, .int .i64 0, .slice none 0 0], .bool true]) = Ending.returned (.tuple #[.agg #[.slice (some ⟨R1, 0, none⟩) (List.replicate k (0 : Int)).length k, .slice (some ⟨R2, 0, none⟩) (List.replicate k (-1 : Int)).length c2, .slice (some ⟨R3, 0, none⟩) 2 2, .slice (some ⟨R4, 0, none⟩) 2 2, .slice none 0 0, .slice none 0 0, .int .i64 0, .slice none 0 0], .bool true])
        rw [List.length_replicate, List.length_replicate]
end Go.Proofs.Ytikmkkklgdkpaaa

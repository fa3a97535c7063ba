/- Walk of the program's DoVolume. -/
import Derived.Test.YtlbhfgcpflhccaaIFold
namespace Go.Proofs.Ytlbhfgcpflhccaa
set_option maxRecDepth 100000
open Go.ChangeShapes Go.WideShapes Go.ChangeAt Go.RowKit G00541
theorem OV.apart {lo mid : Nat} {aB : Option Addr} {kB : Nat} {B : List ByteArray} {aL : Option Addr} {kL : Nat} {L : List Rc} {w : World} (h : OV lo mid aB kB B aL kL L w) (X j : Nat) (u : Value) (h1 : ∀ g, (Value.slice aB B.length kB).ownBlock = some g → g ≠ X) (h2 : ∀ g, (Value.slice aL L.length kL).ownBlock = some g → g ≠ X) : OV lo mid aB kB B aL kL L (w.setCell ⟨X, j, none⟩ u) :=
  ⟨h.lm, by have := h.mh; simpa [World.setCell] using this, rw_keep h.base (fun k hk => keepB _ _ _ _ _ (h1 k hk)), h.low, rw_keep h.log (fun k hk => keepB _ _ _ _ _ (h2 k hk))⟩
theorem OV.lower {lo lo' mid : Nat} {aB : Option Addr} {kB : Nat} {B : List ByteArray} {aL : Option Addr} {kL : Nat} {L : List Rc} {w : World} (h : OV lo mid aB kB B aL kL L w) (hl : lo' ≤ lo) : OV lo' mid aB kB B aL kL L w := ⟨by have := h.lm; omega, h.mh, rw_mono h.base hl, h.low, h.log⟩
theorem ownV_set {lo hi : Nat} {aB : Option Addr} {B : List ByteArray} {aL : Option Addr} {L : List Rc} {w : World} (h : OwnV lo hi aB B aL L w) (X j : Nat) (u : Value) (hX : X < lo) : OwnV lo hi aB B aL L (w.setCell ⟨X, j, none⟩ u) := by
  obtain ⟨mid, h1, h2, h3, h4⟩ := h
  refine ⟨mid, h1, h2, ?_, ?_⟩
  · rcases h3 with e | ⟨R, r1, r2, e, r⟩
    · exact Or.inl e
    · exact Or.inr ⟨R, r1, r2, e, r.same (by simp [World.setCell]) (keepB _ _ _ _ _ (by omega))⟩
  · rcases h4 with e | ⟨R, r1, r2, e, r⟩
    · exact Or.inl e
    · exact Or.inr ⟨R, r1, r2, e, r.same (by simp [World.setCell]) (keepB _ _ _ _ _ (by omega))⟩
theorem ownV_lower {lo lo' hi : Nat} {aB : Option Addr} {B : List ByteArray} {aL : Option Addr} {L : List Rc} {w : World} (h : OwnV lo hi aB B aL L w) (hl : lo' ≤ lo) : OwnV lo' hi aB B aL L w := by
  obtain ⟨mid, h1, h2, h3, h4⟩ := h
  refine ⟨mid, by omega, h2, ?_, h4⟩
  rcases h3 with e | ⟨R, r1, r2, e, r⟩
  · exact Or.inl e
  · exact Or.inr ⟨R, by omega, r2, e, r⟩
set_option maxHeartbeats 8000000 in
theorem idoV_any (aB aL : Option Addr) (kB kL : Nat) (B : List ByteArray) (F : Int) (L : List Rc) (s : Int) (k p n m : Int) (D : ByteArray) (w : World) (hf : B.length ≤ 1048576 ∧ L.length ≤ 1048576) (hk : L.length ≤ kL) (hB : Ss w.heap.size aB B w) (hL : Rs w.heap.size aL L w) (hg : GoodV B F L s) :
    Calls Try.prog 16 #[.agg #[.slice aB B.length kB, .int .i64 F, .slice aL L.length kL, .int .i64 s], .agg #[.int .i64 k, .int .i64 p, .int .i64 n, .string D, .int .i64 m]] w fun e w' => DOut (doV B F L s ⟨k, p, n, D, m⟩) w e w' := by
  have HK := hid (DK.start w #[.slice aB B.length kB, .int .i64 F, .slice aL L.length kL, .int .i64 s] #[.int .i64 k, .int .i64 p, .int .i64 n, .string D, .int .i64 m] #[.slice none 0 0, .int .i64 0, .slice none 0 0, .int .i64 0])
  have HG : Hid (∀ v, Below w.heap.size w v → Calls Try.prog 13 #[.agg #[.slice aB B.length kB, .int .i64 F, .slice aL L.length kL, .int .i64 s]] v fun e w' => e = .returned (.bool true) ∧ Below v.heap.size v w') := fun v g => by
    have := igoodV_any aB aL kB kL B F L s v hf ((hB.below g).mono g.size) ((hL.below g).mono g.size)
    rw [goodV_iff.2 hg] at this
    exact this
  have HND : Hid (∀ v, Calls Try.prog 34 #[.agg #[.int .i64 k, .int .i64 p, .int .i64 n, .string D, .int .i64 m]] v fun e w' => e = .returned (.bool (needOk ⟨k, p, n, D, m⟩)) ∧ Below v.heap.size v w') := fun v => need_any k p n m D v
  have HCP : Hid (∀ v, Below w.heap.size w v → Calls Try.prog 43 #[.agg #[.slice aB B.length kB, .int .i64 F, .slice aL L.length kL, .int .i64 s]] v fun e w' => CpOut B F L s v e w') := fun v g => copyVolume_any aB aL kB kL B F L s v hg ((hB.below g).mono g.size) ((hL.below g).mono g.size)
  have HMB : Hid (∀ v, Below w.heap.size w v → Calls Try.prog 44 #[.int .i64 F, .slice aL L.length kL] v fun e w' => e = .returned (.int .i64 (markF F L)) ∧ Below v.heap.size v w') := fun v g => markBehind_any aL kL F L v hf.2 ((hL.below g).mono g.size)
  have HRF : Hid (∀ v, Calls Try.prog 10 #[.agg #[.int .i64 k, .int .i64 p, .int .i64 n, .string D, .int .i64 m]] v fun e w' => ForOut ⟨k, p, n, D, m⟩ v e w') := fun v => irec_any k p n m D v
  have HFS : Hid (∀ v, Below w.heap.size w v → Calls Try.prog 46 #[.agg #[.slice aB B.length kB, .int .i64 F, .slice aL L.length kL, .int .i64 s]] v fun e w' => FdOut B F L s.toNat v e w') := fun v g => foldSure_any aB aL kB kL B F L s s.toNat v (by have := hg.s0; omega) hg hk ((hB.below g).mono g.size) ((hL.below g).mono g.size)
  have HCR : Hid (∀ q : Nat, q ≤ L.length → ∃ c, (∀ v, Sem.run Try.prog (Instr.slice 26 (.slice aL L.length kL) none (some (.int .i64 (q : Int))) none) v = .ok (.slice aL (L.take q).length c) v) ∧ ∀ v, Below w.heap.size w v → Calls Try.prog 45 #[.slice aL (L.take q).length c] v fun e w' => ∃ b c, e = .returned (.slice b (L.take q).length c) ∧ w'.ownsRow v.heap.size 37 4 (.slice b (L.take q).length c) (L.take q).length (rvals (L.take q)) ∧ Below v.heap.size v w') := fun q hq => by
    obtain ⟨c, hc⟩ := cut_low aL kL L q q rfl hq hk
    exact ⟨c, hc, fun v g => copyRecords_any aL c (L.take q) v (by rw [List.length_take]; have := hg.len; omega) (fun j h => by have := good_small (good_at (goodL_take hg.recs q) j h); omega) (((hL.take q).below g).mono g.size)⟩
  have HL40 : Hid (L.length ≤ 40) := hg.len
  have HM : Hid (0 ≤ markF F L ∧ markF F L ≤ 200) := by
    have := markF_in F L hg.f0 hg.f1 L.length (Nat.le_refl _) (fun j hj _ => good_at hg.recs j hj)
    rw [markF_all] at this
    exact this
  have hlen := hg.len
  have hs0 := hg.s0
  clear hB hL hg hf hk
  generalize hW : (((w.alloc (.cells #[.slice aB B.length kB, .int .i64 F, .slice aL L.length kL, .int .i64 s] 28)).alloc (.cells #[.int .i64 k, .int .i64 p, .int .i64 n, .string D, .int .i64 m] 35)).alloc (.cells #[.slice none 0 0, .int .i64 0, .slice none 0 0, .int .i64 0] 28)) = W at *
  obtain ⟨x0, x1, x2, x3⟩ := HK.out.vol
  go_enter Try.func16, Try.ntmps16
  go_wp2_with fail
  clear hW
  refine (HG.out _ HK.out.below).mono ?_
  rintro e w2 ⟨rfl, b2⟩
  have HK2 := hid (HK.out.on b2)
  clear b2 HK HG x0 x1 x2 x3
  obtain ⟨x0, x1, x2, x3⟩ := HK2.out.vol
  obtain ⟨o0, o1, o2, o3, o4⟩ := HK2.out.op
  go_wp2_with fail
  refine (HND.out _).mono ?_
  rintro e w3 ⟨rfl, b3⟩
  have HK3 := hid (HK2.out.on b3)
  clear b3 HK2 HND x0 x1 x2 x3 o0 o1 o2 o3 o4
  cases hnd : needOk ⟨k, p, n, D, m⟩
  · have HNO := hid (doV_need (B := B) (F := F) (L := L) (s := s) hnd)
    clear hnd
    have hKz := HK3.out.fill (.slice none 0 0) (.int .i64 0) (.slice none 0 0) (.int .i64 0)
    have ez0 : ((((w3.setCell ⟨w.heap.size + 1 + 1, 0, none⟩ (.slice none 0 0)).setCell ⟨w.heap.size + 1 + 1, 1, none⟩ (.int .i64 0)).setCell ⟨w.heap.size + 1 + 1, 2, none⟩ (.slice none 0 0)).setCell ⟨w.heap.size + 1 + 1, 3, none⟩ (.int .i64 0)).cell? ⟨w.heap.size + 1 + 1, 0, none⟩ = some (.slice none 0 0) := box_cell hKz.z 0
    have ez1 : ((((w3.setCell ⟨w.heap.size + 1 + 1, 0, none⟩ (.slice none 0 0)).setCell ⟨w.heap.size + 1 + 1, 1, none⟩ (.int .i64 0)).setCell ⟨w.heap.size + 1 + 1, 2, none⟩ (.slice none 0 0)).setCell ⟨w.heap.size + 1 + 1, 3, none⟩ (.int .i64 0)).cell? ⟨w.heap.size + 1 + 1, 1, none⟩ = some (.int .i64 0) := box_cell hKz.z 1
    have ez2 : ((((w3.setCell ⟨w.heap.size + 1 + 1, 0, none⟩ (.slice none 0 0)).setCell ⟨w.heap.size + 1 + 1, 1, none⟩ (.int .i64 0)).setCell ⟨w.heap.size + 1 + 1, 2, none⟩ (.slice none 0 0)).setCell ⟨w.heap.size + 1 + 1, 3, none⟩ (.int .i64 0)).cell? ⟨w.heap.size + 1 + 1, 2, none⟩ = some (.slice none 0 0) := box_cell hKz.z 2
    have ez3 : ((((w3.setCell ⟨w.heap.size + 1 + 1, 0, none⟩ (.slice none 0 0)).setCell ⟨w.heap.size + 1 + 1, 1, none⟩ (.int .i64 0)).setCell ⟨w.heap.size + 1 + 1, 2, none⟩ (.slice none 0 0)).setCell ⟨w.heap.size + 1 + 1, 3, none⟩ (.int .i64 0)).cell? ⟨w.heap.size + 1 + 1, 3, none⟩ = some (.int .i64 0) := box_cell hKz.z 3
    have HBz := hid hKz.below
    obtain ⟨⟨z0, z1, z2, z3⟩, f0, f1, f2, f3⟩ := HK3.out.cells
    clear hKz
    go_wp2_with fail
    generalize ((((w3.setCell ⟨w.heap.size + 1 + 1, 0, none⟩ (.slice none 0 0)).setCell ⟨w.heap.size + 1 + 1, 1, none⟩ (.int .i64 0)).setCell ⟨w.heap.size + 1 + 1, 2, none⟩ (.slice none 0 0)).setCell ⟨w.heap.size + 1 + 1, 3, none⟩ (.int .i64 0)) = XX at *
    refine bodyPost_ret (v := .tuple #[.agg #[.slice none 0 0, .int .i64 0, .slice none 0 0, .int .i64 0], .bool false]) (by simp [results, Try.results16, go_sem, ez0, ez1, ez2, ez3]) rfl ?_
    rw [HNO.out]
    exact ⟨rfl, HBz.out⟩
  obtain ⟨x0, x1, x2, x3⟩ := HK3.out.vol
  obtain ⟨o0, o1, o2, o3, o4⟩ := HK3.out.op
  have HND := hid hnd
  clear hnd
  go_wp2_with fail
  refine (HCP.out _ HK3.out.below).mono ?_
  rintro e w4 ⟨mid, a1, c1, a2, c2, rfl, hov, b4⟩
  have hK4 := HK3.out.on b4
  have b5 := boxB w4 (.cells #[.slice a1 B.length c1, .int .i64 F, .slice a2 L.length c2, .int .i64 s] 28)
  have hXD : (w4.alloc (.cells #[.slice a1 B.length c1, .int .i64 F, .slice a2 L.length c2, .int .i64 s] 28)).heap[w4.heap.size]? = some (.cells #[.slice a1 B.length c1, .int .i64 F, .slice a2 L.length c2, .int .i64 s] 28) := heap_last _ _
  have hlo := HK3.out.size
  have b4s := b4.size
  have hbd : ∀ g, (Value.slice a1 B.length c1).ownBlock = some g → g < w4.heap.size := fun g hg => (hov.base.lt g hg).2
  have hld : ∀ g, (Value.slice a2 L.length c2).ownBlock = some g → g < w4.heap.size := fun g hg => (hov.log.lt g hg).2
  have HOV := hid (hov.below b5)
  have HK5 := hid (hK4.on b5)
  have HXD := hid hXD
  have hsz5 : (w4.alloc (.cells #[.slice a1 B.length c1, .int .i64 F, .slice a2 L.length c2, .int .i64 s] 28)).heap.size = w4.heap.size + 1 := heap_size _ _
  have HBD := hid hbd
  have HLD := hid hld
  clear hov b4 hK4 b5 hXD HK3 HCP x0 x1 x2 x3 o0 o1 o2 o3 o4 hbd hld
  generalize hW5 : w4.alloc (.cells #[.slice a1 B.length c1, .int .i64 F, .slice a2 L.length c2, .int .i64 s] 28) = W5 at *
  have hXDlt : w4.heap.size < W5.heap.size := by omega
  have hX3 : w.heap.size + 3 ≤ w4.heap.size := by have := b4s; omega
  clear hsz5 b4s
  obtain ⟨x0, x1, x2, x3⟩ := HK5.out.vol
  obtain ⟨o0, o1, o2, o3, o4⟩ := HK5.out.op
  have d0 : W5.cell? ⟨w4.heap.size, 0, none⟩ = some (.slice a1 B.length c1) := box_cell HXD.out 0
  have g0 : W5.frozen? ⟨w4.heap.size, 0, none⟩ = false := box_free HXD.out 0
  have d1 : W5.cell? ⟨w4.heap.size, 1, none⟩ = some (.int .i64 F) := box_cell HXD.out 1
  have g1 : W5.frozen? ⟨w4.heap.size, 1, none⟩ = false := box_free HXD.out 1
  have d2 : W5.cell? ⟨w4.heap.size, 2, none⟩ = some (.slice a2 L.length c2) := box_cell HXD.out 2
  have g2 : W5.frozen? ⟨w4.heap.size, 2, none⟩ = false := box_free HXD.out 2
  have d3 : W5.cell? ⟨w4.heap.size, 3, none⟩ = some (.int .i64 s) := box_cell HXD.out 3
  have g3 : W5.frozen? ⟨w4.heap.size, 3, none⟩ = false := box_free HXD.out 3
  by_cases k6 : 1 ≤ k ∧ k ≤ 6
  case neg =>
    have HNO := hid (doV_other (B := B) (F := F) (L := L) (s := s) (o := ⟨k, p, n, D, m⟩) k6)
    have e1 : (k == 1) = false := beq_eq_false_iff_ne.2 (by omega)
    have e2 : (k == 2) = false := beq_eq_false_iff_ne.2 (by omega)
    have e3 : (k == 3) = false := beq_eq_false_iff_ne.2 (by omega)
    have e4 : (k == 4) = false := beq_eq_false_iff_ne.2 (by omega)
    have e5 : (k == 5) = false := beq_eq_false_iff_ne.2 (by omega)
    have e6 : (k == 6) = false := beq_eq_false_iff_ne.2 (by omega)
    have dd1 : decide (k = 1) = false := decide_eq_false (by omega)
    have dd2 : decide (k = 2) = false := decide_eq_false (by omega)
    have dd3 : decide (k = 3) = false := decide_eq_false (by omega)
    have dd4 : decide (k = 4) = false := decide_eq_false (by omega)
    have dd5 : decide (k = 5) = false := decide_eq_false (by omega)
    have dd6 : decide (k = 6) = false := decide_eq_false (by omega)
    clear k6
    have hKz := HK5.out.fill (.slice none 0 0) (.int .i64 0) (.slice none 0 0) (.int .i64 0)
    have ez0 : ((((W5.setCell ⟨w.heap.size + 1 + 1, 0, none⟩ (.slice none 0 0)).setCell ⟨w.heap.size + 1 + 1, 1, none⟩ (.int .i64 0)).setCell ⟨w.heap.size + 1 + 1, 2, none⟩ (.slice none 0 0)).setCell ⟨w.heap.size + 1 + 1, 3, none⟩ (.int .i64 0)).cell? ⟨w.heap.size + 1 + 1, 0, none⟩ = some (.slice none 0 0) := box_cell hKz.z 0
    have ez1 : ((((W5.setCell ⟨w.heap.size + 1 + 1, 0, none⟩ (.slice none 0 0)).setCell ⟨w.heap.size + 1 + 1, 1, none⟩ (.int .i64 0)).setCell ⟨w.heap.size + 1 + 1, 2, none⟩ (.slice none 0 0)).setCell ⟨w.heap.size + 1 + 1, 3, none⟩ (.int .i64 0)).cell? ⟨w.heap.size + 1 + 1, 1, none⟩ = some (.int .i64 0) := box_cell hKz.z 1
    have ez2 : ((((W5.setCell ⟨w.heap.size + 1 + 1, 0, none⟩ (.slice none 0 0)).setCell ⟨w.heap.size + 1 + 1, 1, none⟩ (.int .i64 0)).setCell ⟨w.heap.size + 1 + 1, 2, none⟩ (.slice none 0 0)).setCell ⟨w.heap.size + 1 + 1, 3, none⟩ (.int .i64 0)).cell? ⟨w.heap.size + 1 + 1, 2, none⟩ = some (.slice none 0 0) := box_cell hKz.z 2
    have ez3 : ((((W5.setCell ⟨w.heap.size + 1 + 1, 0, none⟩ (.slice none 0 0)).setCell ⟨w.heap.size + 1 + 1, 1, none⟩ (.int .i64 0)).setCell ⟨w.heap.size + 1 + 1, 2, none⟩ (.slice none 0 0)).setCell ⟨w.heap.size + 1 + 1, 3, none⟩ (.int .i64 0)).cell? ⟨w.heap.size + 1 + 1, 3, none⟩ = some (.int .i64 0) := box_cell hKz.z 3
    have HBz := hid hKz.below
    obtain ⟨⟨z0, z1, z2, z3⟩, f0, f1, f2, f3⟩ := HK5.out.cells
    clear hKz
    go_wp2_with fail
    generalize ((((W5.setCell ⟨w.heap.size + 1 + 1, 0, none⟩ (.slice none 0 0)).setCell ⟨w.heap.size + 1 + 1, 1, none⟩ (.int .i64 0)).setCell ⟨w.heap.size + 1 + 1, 2, none⟩ (.slice none 0 0)).setCell ⟨w.heap.size + 1 + 1, 3, none⟩ (.int .i64 0)) = XX at *
    refine bodyPost_ret (v := .tuple #[.agg #[.slice none 0 0, .int .i64 0, .slice none 0 0, .int .i64 0], .bool false]) (by simp [results, Try.results16, go_sem, ez0, ez1, ez2, ez3]) rfl ?_
    rw [HNO.out]
    exact ⟨rfl, HBz.out⟩
  have HRS : Hid (¬ (1 ≤ k ∧ k ≤ 3) → restOk ⟨k, p, n, D, m⟩) := fun h => of_decide_eq_true ((need_rest (o := ⟨k, p, n, D, m⟩) h).symm.trans HND.out)
  by_cases k4 : k = 4
  · subst k4
    have HEQ := hid (doV_four (B := B) (F := F) (L := L) (s := s) (o := ⟨4, p, n, D, m⟩) rfl (HRS.out (by omega)))
    have hK6 := HK5.out.step (setB (Below.refl (w.heap.size + 3) W5) w4.heap.size 3 hX3 (.int .i64 (L.length : Int)))
    have hO6 := HOV.out.apart w4.heap.size 3 (.int .i64 (L.length : Int)) (fun g hg => by have := HBD.out g hg; omega) (fun g hg => by have := HLD.out g hg; omega)
    have hKr := hK6.fill (.slice a1 B.length c1) (.int .i64 F) (.slice a2 L.length c2) (.int .i64 (L.length : Int))
    have er0 : (((((W5.setCell ⟨w4.heap.size, 3, none⟩ (.int .i64 (L.length : Int))).setCell ⟨w.heap.size + 1 + 1, 0, none⟩ (.slice a1 B.length c1)).setCell ⟨w.heap.size + 1 + 1, 1, none⟩ (.int .i64 F)).setCell ⟨w.heap.size + 1 + 1, 2, none⟩ (.slice a2 L.length c2)).setCell ⟨w.heap.size + 1 + 1, 3, none⟩ (.int .i64 (L.length : Int))).cell? ⟨w.heap.size + 1 + 1, 0, none⟩ = some (.slice a1 B.length c1) := box_cell hKr.z 0
    have er1 : (((((W5.setCell ⟨w4.heap.size, 3, none⟩ (.int .i64 (L.length : Int))).setCell ⟨w.heap.size + 1 + 1, 0, none⟩ (.slice a1 B.length c1)).setCell ⟨w.heap.size + 1 + 1, 1, none⟩ (.int .i64 F)).setCell ⟨w.heap.size + 1 + 1, 2, none⟩ (.slice a2 L.length c2)).setCell ⟨w.heap.size + 1 + 1, 3, none⟩ (.int .i64 (L.length : Int))).cell? ⟨w.heap.size + 1 + 1, 1, none⟩ = some (.int .i64 F) := box_cell hKr.z 1
    have er2 : (((((W5.setCell ⟨w4.heap.size, 3, none⟩ (.int .i64 (L.length : Int))).setCell ⟨w.heap.size + 1 + 1, 0, none⟩ (.slice a1 B.length c1)).setCell ⟨w.heap.size + 1 + 1, 1, none⟩ (.int .i64 F)).setCell ⟨w.heap.size + 1 + 1, 2, none⟩ (.slice a2 L.length c2)).setCell ⟨w.heap.size + 1 + 1, 3, none⟩ (.int .i64 (L.length : Int))).cell? ⟨w.heap.size + 1 + 1, 2, none⟩ = some (.slice a2 L.length c2) := box_cell hKr.z 2
    have er3 : (((((W5.setCell ⟨w4.heap.size, 3, none⟩ (.int .i64 (L.length : Int))).setCell ⟨w.heap.size + 1 + 1, 0, none⟩ (.slice a1 B.length c1)).setCell ⟨w.heap.size + 1 + 1, 1, none⟩ (.int .i64 F)).setCell ⟨w.heap.size + 1 + 1, 2, none⟩ (.slice a2 L.length c2)).setCell ⟨w.heap.size + 1 + 1, 3, none⟩ (.int .i64 (L.length : Int))).cell? ⟨w.heap.size + 1 + 1, 3, none⟩ = some (.int .i64 (L.length : Int)) := box_cell hKr.z 3
    have HBr := hid hKr.below
    have hOr := (((hO6.set (w.heap.size + 1 + 1) 0 (.slice a1 B.length c1) (by omega)).set (w.heap.size + 1 + 1) 1 (.int .i64 F) (by omega)).set (w.heap.size + 1 + 1) 2 (.slice a2 L.length c2) (by omega)).set (w.heap.size + 1 + 1) 3 (.int .i64 (L.length : Int)) (by omega)
    have HOr := hid (hOr.lower (show w.heap.size ≤ w3.heap.size by omega)).own
    obtain ⟨⟨z0, z1, z2, z3⟩, f0, f1, f2, f3⟩ := hK6.cells
    clear hKr hOr
    go_wp2_with fail
    generalize (((((W5.setCell ⟨w4.heap.size, 3, none⟩ (.int .i64 (L.length : Int))).setCell ⟨w.heap.size + 1 + 1, 0, none⟩ (.slice a1 B.length c1)).setCell ⟨w.heap.size + 1 + 1, 1, none⟩ (.int .i64 F)).setCell ⟨w.heap.size + 1 + 1, 2, none⟩ (.slice a2 L.length c2)).setCell ⟨w.heap.size + 1 + 1, 3, none⟩ (.int .i64 (L.length : Int))) = XX at *
    refine bodyPost_ret (v := .tuple #[.agg #[.slice a1 B.length c1, .int .i64 F, .slice a2 L.length c2, .int .i64 (L.length : Int)], .bool true]) (by simp [results, Try.results16, go_sem, er0, er1, er2, er3]) rfl ?_
    rw [HEQ.out]
    exact ⟨_, _, _, _, rfl, HOr.out, HBr.out⟩
  by_cases k6f : k = 6
  · subst k6f
    have HEQ := hid (doV_six (B := B) (F := F) (L := L) (s := s) (o := ⟨6, p, n, D, m⟩) rfl (HRS.out (by omega)))
    have HC6 := hid (HFS.out W5 HK5.out.below)
    unfold FdOut at HC6
    generalize hB9 : doL B (L.take s.toNat) = B9 at *
    generalize hm9 : markF F (L.take s.toNat) = mk at *
    generalize hL9 : L.drop s.toNat = L9 at *
    have HEQ2 : Hid (doV B F L s ⟨6, p, n, D, m⟩ = some (B9, mk, L9, 0)) := by
      show doV B F L s ⟨6, p, n, D, m⟩ = _
      rw [HEQ.out]; unfold foldDo; rw [hB9, hm9, hL9]
    have HDO : Hid (∀ e w', (∃ aB' kB' aL' kL', e = .returned (.tuple #[.agg #[.slice aB' B9.length kB', .int .i64 mk, .slice aL' L9.length kL', .int .i64 0], .bool true]) ∧ OwnV w.heap.size w'.heap.size aB' B9 aL' L9 w' ∧ Below w.heap.size w w') → DOut (doV B F L s ⟨6, p, n, D, m⟩) w e w') := fun e w' h => by rw [HEQ2.out]; exact h
    clear hB9 hm9 hL9 HEQ
    generalize B9.length = n1 at *
    generalize L9.length = n2 at *
    go_wp2_with fail
    refine HC6.out.mono ?_
    rintro e w6 ⟨b1, j1, b2, j2, rfl, ho6, b6⟩
    have hK6 := HK5.out.on b6
    have hX6 := (b6.block w4.heap.size hXDlt).trans HXD.out
    have hs6 := b6.size
    clear d0 d1 d2 d3 g0 g1 g2 g3 x0 x1 x2 x3 o0 o1 o2 o3 o4
    have d0 : w6.cell? ⟨w4.heap.size, 0, none⟩ = some (.slice a1 B.length c1) := box_cell hX6 0
    have g0 : w6.frozen? ⟨w4.heap.size, 0, none⟩ = false := box_free hX6 0
    have d1 : w6.cell? ⟨w4.heap.size, 1, none⟩ = some (.int .i64 F) := box_cell hX6 1
    have g1 : w6.frozen? ⟨w4.heap.size, 1, none⟩ = false := box_free hX6 1
    have d2 : w6.cell? ⟨w4.heap.size, 2, none⟩ = some (.slice a2 L.length c2) := box_cell hX6 2
    have g2 : w6.frozen? ⟨w4.heap.size, 2, none⟩ = false := box_free hX6 2
    have d3 : w6.cell? ⟨w4.heap.size, 3, none⟩ = some (.int .i64 s) := box_cell hX6 3
    have g3 : w6.frozen? ⟨w4.heap.size, 3, none⟩ = false := box_free hX6 3
    have hK7 := hK6.step (setB (setB (setB (setB (Below.refl (w.heap.size + 3) w6) w4.heap.size 0 hX3 (.slice b1 n1 j1)) w4.heap.size 1 hX3 (.int .i64 mk)) w4.heap.size 2 hX3 (.slice b2 n2 j2)) w4.heap.size 3 hX3 (.int .i64 0))
    have hKr := hK7.fill (.slice b1 n1 j1) (.int .i64 mk) (.slice b2 n2 j2) (.int .i64 0)
    have er0 : ((((((((w6.setCell ⟨w4.heap.size, 0, none⟩ (.slice b1 n1 j1)).setCell ⟨w4.heap.size, 1, none⟩ (.int .i64 mk)).setCell ⟨w4.heap.size, 2, none⟩ (.slice b2 n2 j2)).setCell ⟨w4.heap.size, 3, none⟩ (.int .i64 0)).setCell ⟨w.heap.size + 1 + 1, 0, none⟩ (.slice b1 n1 j1)).setCell ⟨w.heap.size + 1 + 1, 1, none⟩ (.int .i64 mk)).setCell ⟨w.heap.size + 1 + 1, 2, none⟩ (.slice b2 n2 j2)).setCell ⟨w.heap.size + 1 + 1, 3, none⟩ (.int .i64 0)).cell? ⟨w.heap.size + 1 + 1, 0, none⟩ = some (.slice b1 n1 j1) := box_cell hKr.z 0
    have er1 : ((((((((w6.setCell ⟨w4.heap.size, 0, none⟩ (.slice b1 n1 j1)).setCell ⟨w4.heap.size, 1, none⟩ (.int .i64 mk)).setCell ⟨w4.heap.size, 2, none⟩ (.slice b2 n2 j2)).setCell ⟨w4.heap.size, 3, none⟩ (.int .i64 0)).setCell ⟨w.heap.size + 1 + 1, 0, none⟩ (.slice b1 n1 j1)).setCell ⟨w.heap.size + 1 + 1, 1, none⟩ (.int .i64 mk)).setCell ⟨w.heap.size + 1 + 1, 2, none⟩ (.slice b2 n2 j2)).setCell ⟨w.heap.size + 1 + 1, 3, none⟩ (.int .i64 0)).cell? ⟨w.heap.size + 1 + 1, 1, none⟩ = some (.int .i64 mk) := box_cell hKr.z 1
    have er2 : ((((((((w6.setCell ⟨w4.heap.size, 0, none⟩ (.slice b1 n1 j1)).setCell ⟨w4.heap.size, 1, none⟩ (.int .i64 mk)).setCell ⟨w4.heap.size, 2, none⟩ (.slice b2 n2 j2)).setCell ⟨w4.heap.size, 3, none⟩ (.int .i64 0)).setCell ⟨w.heap.size + 1 + 1, 0, none⟩ (.slice b1 n1 j1)).setCell ⟨w.heap.size + 1 + 1, 1, none⟩ (.int .i64 mk)).setCell ⟨w.heap.size + 1 + 1, 2, none⟩ (.slice b2 n2 j2)).setCell ⟨w.heap.size + 1 + 1, 3, none⟩ (.int .i64 0)).cell? ⟨w.heap.size + 1 + 1, 2, none⟩ = some (.slice b2 n2 j2) := box_cell hKr.z 2
    have er3 : ((((((((w6.setCell ⟨w4.heap.size, 0, none⟩ (.slice b1 n1 j1)).setCell ⟨w4.heap.size, 1, none⟩ (.int .i64 mk)).setCell ⟨w4.heap.size, 2, none⟩ (.slice b2 n2 j2)).setCell ⟨w4.heap.size, 3, none⟩ (.int .i64 0)).setCell ⟨w.heap.size + 1 + 1, 0, none⟩ (.slice b1 n1 j1)).setCell ⟨w.heap.size + 1 + 1, 1, none⟩ (.int .i64 mk)).setCell ⟨w.heap.size + 1 + 1, 2, none⟩ (.slice b2 n2 j2)).setCell ⟨w.heap.size + 1 + 1, 3, none⟩ (.int .i64 0)).cell? ⟨w.heap.size + 1 + 1, 3, none⟩ = some (.int .i64 0) := box_cell hKr.z 3
    have HBr := hid hKr.below
    have hP0 := ownV_set ho6 w4.heap.size 0 (.slice b1 n1 j1) hXDlt
    have hP1 := ownV_set hP0 w4.heap.size 1 (.int .i64 mk) hXDlt
    have hP2 := ownV_set hP1 w4.heap.size 2 (.slice b2 n2 j2) hXDlt
    have hP3 := ownV_set hP2 w4.heap.size 3 (.int .i64 0) hXDlt
    have hP4 := ownV_set hP3 (w.heap.size + 1 + 1) 0 (.slice b1 n1 j1) (by omega)
    have hP5 := ownV_set hP4 (w.heap.size + 1 + 1) 1 (.int .i64 mk) (by omega)
    have hP6 := ownV_set hP5 (w.heap.size + 1 + 1) 2 (.slice b2 n2 j2) (by omega)
    have hP7 := ownV_set hP6 (w.heap.size + 1 + 1) 3 (.int .i64 0) (by omega)
    have hz8 : ((((((((w6.setCell ⟨w4.heap.size, 0, none⟩ (.slice b1 n1 j1)).setCell ⟨w4.heap.size, 1, none⟩ (.int .i64 mk)).setCell ⟨w4.heap.size, 2, none⟩ (.slice b2 n2 j2)).setCell ⟨w4.heap.size, 3, none⟩ (.int .i64 0)).setCell ⟨w.heap.size + 1 + 1, 0, none⟩ (.slice b1 n1 j1)).setCell ⟨w.heap.size + 1 + 1, 1, none⟩ (.int .i64 mk)).setCell ⟨w.heap.size + 1 + 1, 2, none⟩ (.slice b2 n2 j2)).setCell ⟨w.heap.size + 1 + 1, 3, none⟩ (.int .i64 0)).heap.size = w6.heap.size := by simp [World.setCell]
    have HOr : Hid (OwnV w.heap.size ((((((((w6.setCell ⟨w4.heap.size, 0, none⟩ (.slice b1 n1 j1)).setCell ⟨w4.heap.size, 1, none⟩ (.int .i64 mk)).setCell ⟨w4.heap.size, 2, none⟩ (.slice b2 n2 j2)).setCell ⟨w4.heap.size, 3, none⟩ (.int .i64 0)).setCell ⟨w.heap.size + 1 + 1, 0, none⟩ (.slice b1 n1 j1)).setCell ⟨w.heap.size + 1 + 1, 1, none⟩ (.int .i64 mk)).setCell ⟨w.heap.size + 1 + 1, 2, none⟩ (.slice b2 n2 j2)).setCell ⟨w.heap.size + 1 + 1, 3, none⟩ (.int .i64 0)).heap.size b1 B9 b2 L9 ((((((((w6.setCell ⟨w4.heap.size, 0, none⟩ (.slice b1 n1 j1)).setCell ⟨w4.heap.size, 1, none⟩ (.int .i64 mk)).setCell ⟨w4.heap.size, 2, none⟩ (.slice b2 n2 j2)).setCell ⟨w4.heap.size, 3, none⟩ (.int .i64 0)).setCell ⟨w.heap.size + 1 + 1, 0, none⟩ (.slice b1 n1 j1)).setCell ⟨w.heap.size + 1 + 1, 1, none⟩ (.int .i64 mk)).setCell ⟨w.heap.size + 1 + 1, 2, none⟩ (.slice b2 n2 j2)).setCell ⟨w.heap.size + 1 + 1, 3, none⟩ (.int .i64 0))) := by
      show OwnV w.heap.size ((((((((w6.setCell ⟨w4.heap.size, 0, none⟩ (.slice b1 n1 j1)).setCell ⟨w4.heap.size, 1, none⟩ (.int .i64 mk)).setCell ⟨w4.heap.size, 2, none⟩ (.slice b2 n2 j2)).setCell ⟨w4.heap.size, 3, none⟩ (.int .i64 0)).setCell ⟨w.heap.size + 1 + 1, 0, none⟩ (.slice b1 n1 j1)).setCell ⟨w.heap.size + 1 + 1, 1, none⟩ (.int .i64 mk)).setCell ⟨w.heap.size + 1 + 1, 2, none⟩ (.slice b2 n2 j2)).setCell ⟨w.heap.size + 1 + 1, 3, none⟩ (.int .i64 0)).heap.size b1 B9 b2 L9 ((((((((w6.setCell ⟨w4.heap.size, 0, none⟩ (.slice b1 n1 j1)).setCell ⟨w4.heap.size, 1, none⟩ (.int .i64 mk)).setCell ⟨w4.heap.size, 2, none⟩ (.slice b2 n2 j2)).setCell ⟨w4.heap.size, 3, none⟩ (.int .i64 0)).setCell ⟨w.heap.size + 1 + 1, 0, none⟩ (.slice b1 n1 j1)).setCell ⟨w.heap.size + 1 + 1, 1, none⟩ (.int .i64 mk)).setCell ⟨w.heap.size + 1 + 1, 2, none⟩ (.slice b2 n2 j2)).setCell ⟨w.heap.size + 1 + 1, 3, none⟩ (.int .i64 0))
      rw [hz8]
      exact ownV_lower hP7 (by omega)
    obtain ⟨⟨z0, z1, z2, z3⟩, f0, f1, f2, f3⟩ := hK6.cells
    clear hKr hP0 hP1 hP2 hP3 hP4 hP5 hP6 hP7 hK7 ho6 b6 hz8
    go_wp2_with fail
    generalize ((((((((w6.setCell ⟨w4.heap.size, 0, none⟩ (.slice b1 n1 j1)).setCell ⟨w4.heap.size, 1, none⟩ (.int .i64 mk)).setCell ⟨w4.heap.size, 2, none⟩ (.slice b2 n2 j2)).setCell ⟨w4.heap.size, 3, none⟩ (.int .i64 0)).setCell ⟨w.heap.size + 1 + 1, 0, none⟩ (.slice b1 n1 j1)).setCell ⟨w.heap.size + 1 + 1, 1, none⟩ (.int .i64 mk)).setCell ⟨w.heap.size + 1 + 1, 2, none⟩ (.slice b2 n2 j2)).setCell ⟨w.heap.size + 1 + 1, 3, none⟩ (.int .i64 0)) = XX at *
    refine bodyPost_ret (v := .tuple #[.agg #[.slice b1 n1 j1, .int .i64 mk, .slice b2 n2 j2, .int .i64 0], .bool true]) (by simp [results, Try.results16, go_sem, er0, er1, er2, er3]) rfl ?_
    exact HDO.out _ _ ⟨_, _, _, _, rfl, HOr.out, HBr.out⟩
  by_cases k5 : k = 5
  · subst k5
    have HEQ := hid (doV_five (B := B) (F := F) (L := L) (s := s) (o := ⟨5, p, n, D, m⟩) rfl (HRS.out (by omega)))
    by_cases hc : s ≤ m ∧ m ≤ L.length
    case neg =>
      have HNO : Hid (doV B F L s ⟨5, p, n, D, m⟩ = none) := by
        show doV B F L s ⟨5, p, n, D, m⟩ = none
        rw [HEQ.out]; unfold crashDo; rw [if_neg hc]
      by_cases h1 : s ≤ m
      · have q1 : decide (m < s) = false := decide_eq_false (by omega)
        have q2 : decide ((L.length : Int) < m) = true := decide_eq_true (by omega)
        clear hc HEQ h1
        have hKz := HK5.out.fill (.slice none 0 0) (.int .i64 0) (.slice none 0 0) (.int .i64 0)
        have ez0 : ((((W5.setCell ⟨w.heap.size + 1 + 1, 0, none⟩ (.slice none 0 0)).setCell ⟨w.heap.size + 1 + 1, 1, none⟩ (.int .i64 0)).setCell ⟨w.heap.size + 1 + 1, 2, none⟩ (.slice none 0 0)).setCell ⟨w.heap.size + 1 + 1, 3, none⟩ (.int .i64 0)).cell? ⟨w.heap.size + 1 + 1, 0, none⟩ = some (.slice none 0 0) := box_cell hKz.z 0
        have ez1 : ((((W5.setCell ⟨w.heap.size + 1 + 1, 0, none⟩ (.slice none 0 0)).setCell ⟨w.heap.size + 1 + 1, 1, none⟩ (.int .i64 0)).setCell ⟨w.heap.size + 1 + 1, 2, none⟩ (.slice none 0 0)).setCell ⟨w.heap.size + 1 + 1, 3, none⟩ (.int .i64 0)).cell? ⟨w.heap.size + 1 + 1, 1, none⟩ = some (.int .i64 0) := box_cell hKz.z 1
        have ez2 : ((((W5.setCell ⟨w.heap.size + 1 + 1, 0, none⟩ (.slice none 0 0)).setCell ⟨w.heap.size + 1 + 1, 1, none⟩ (.int .i64 0)).setCell ⟨w.heap.size + 1 + 1, 2, none⟩ (.slice none 0 0)).setCell ⟨w.heap.size + 1 + 1, 3, none⟩ (.int .i64 0)).cell? ⟨w.heap.size + 1 + 1, 2, none⟩ = some (.slice none 0 0) := box_cell hKz.z 2
        have ez3 : ((((W5.setCell ⟨w.heap.size + 1 + 1, 0, none⟩ (.slice none 0 0)).setCell ⟨w.heap.size + 1 + 1, 1, none⟩ (.int .i64 0)).setCell ⟨w.heap.size + 1 + 1, 2, none⟩ (.slice none 0 0)).setCell ⟨w.heap.size + 1 + 1, 3, none⟩ (.int .i64 0)).cell? ⟨w.heap.size + 1 + 1, 3, none⟩ = some (.int .i64 0) := box_cell hKz.z 3
        have HBz := hid hKz.below
        obtain ⟨⟨z0, z1, z2, z3⟩, f0, f1, f2, f3⟩ := HK5.out.cells
        clear hKz
        go_wp2_with fail
        generalize ((((W5.setCell ⟨w.heap.size + 1 + 1, 0, none⟩ (.slice none 0 0)).setCell ⟨w.heap.size + 1 + 1, 1, none⟩ (.int .i64 0)).setCell ⟨w.heap.size + 1 + 1, 2, none⟩ (.slice none 0 0)).setCell ⟨w.heap.size + 1 + 1, 3, none⟩ (.int .i64 0)) = XX at *
        refine bodyPost_ret (v := .tuple #[.agg #[.slice none 0 0, .int .i64 0, .slice none 0 0, .int .i64 0], .bool false]) (by simp [results, Try.results16, go_sem, ez0, ez1, ez2, ez3]) rfl ?_
        rw [HNO.out]
        exact ⟨rfl, HBz.out⟩
      · have q1 : decide (m < s) = true := decide_eq_true (by omega)
        clear hc HEQ h1
        have hKz := HK5.out.fill (.slice none 0 0) (.int .i64 0) (.slice none 0 0) (.int .i64 0)
        have ez0 : ((((W5.setCell ⟨w.heap.size + 1 + 1, 0, none⟩ (.slice none 0 0)).setCell ⟨w.heap.size + 1 + 1, 1, none⟩ (.int .i64 0)).setCell ⟨w.heap.size + 1 + 1, 2, none⟩ (.slice none 0 0)).setCell ⟨w.heap.size + 1 + 1, 3, none⟩ (.int .i64 0)).cell? ⟨w.heap.size + 1 + 1, 0, none⟩ = some (.slice none 0 0) := box_cell hKz.z 0
        have ez1 : ((((W5.setCell ⟨w.heap.size + 1 + 1, 0, none⟩ (.slice none 0 0)).setCell ⟨w.heap.size + 1 + 1, 1, none⟩ (.int .i64 0)).setCell ⟨w.heap.size + 1 + 1, 2, none⟩ (.slice none 0 0)).setCell ⟨w.heap.size + 1 + 1, 3, none⟩ (.int .i64 0)).cell? ⟨w.heap.size + 1 + 1, 1, none⟩ = some (.int .i64 0) := box_cell hKz.z 1
        have ez2 : ((((W5.setCell ⟨w.heap.size + 1 + 1, 0, none⟩ (.slice none 0 0)).setCell ⟨w.heap.size + 1 + 1, 1, none⟩ (.int .i64 0)).setCell ⟨w.heap.size + 1 + 1, 2, none⟩ (.slice none 0 0)).setCell ⟨w.heap.size + 1 + 1, 3, none⟩ (.int .i64 0)).cell? ⟨w.heap.size + 1 + 1, 2, none⟩ = some (.slice none 0 0) := box_cell hKz.z 2
        have ez3 : ((((W5.setCell ⟨w.heap.size + 1 + 1, 0, none⟩ (.slice none 0 0)).setCell ⟨w.heap.size + 1 + 1, 1, none⟩ (.int .i64 0)).setCell ⟨w.heap.size + 1 + 1, 2, none⟩ (.slice none 0 0)).setCell ⟨w.heap.size + 1 + 1, 3, none⟩ (.int .i64 0)).cell? ⟨w.heap.size + 1 + 1, 3, none⟩ = some (.int .i64 0) := box_cell hKz.z 3
        have HBz := hid hKz.below
        obtain ⟨⟨z0, z1, z2, z3⟩, f0, f1, f2, f3⟩ := HK5.out.cells
        clear hKz
        go_wp2_with fail
        generalize ((((W5.setCell ⟨w.heap.size + 1 + 1, 0, none⟩ (.slice none 0 0)).setCell ⟨w.heap.size + 1 + 1, 1, none⟩ (.int .i64 0)).setCell ⟨w.heap.size + 1 + 1, 2, none⟩ (.slice none 0 0)).setCell ⟨w.heap.size + 1 + 1, 3, none⟩ (.int .i64 0)) = XX at *
        refine bodyPost_ret (v := .tuple #[.agg #[.slice none 0 0, .int .i64 0, .slice none 0 0, .int .i64 0], .bool false]) (by simp [results, Try.results16, go_sem, ez0, ez1, ez2, ez3]) rfl ?_
        rw [HNO.out]
        exact ⟨rfl, HBz.out⟩
    obtain ⟨q, rfl⟩ : ∃ q : Nat, m = q := ⟨m.toNat, by have := hs0; omega⟩
    have hq : q ≤ L.length := by omega
    have q1 : decide ((q : Int) < s) = false := decide_eq_false (by omega)
    have q2 : decide ((L.length : Int) < (q : Int)) = false := decide_eq_false (by omega)
    have q3 : decide (L.length < q) = false := decide_eq_false (by omega)
    have HEQ2 : Hid (doV B F L s ⟨5, p, n, D, (q : Int)⟩ = some (B, F, L.take q, (q : Int))) := by
      show doV B F L s ⟨5, p, n, D, (q : Int)⟩ = _
      rw [HEQ.out]; unfold crashDo; rw [if_pos hc]; rfl
    obtain ⟨cc, hc1, hcr⟩ := HCR.out q hq
    have HC6 := hid (hcr W5 HK5.out.below)
    have hnq : (L.take q).length = q := by rw [List.length_take]; omega
    rw [hnq] at hc1 HC6
    clear hc HEQ hcr
    go_wp2_with fail
    refine HC6.out.mono ?_
    rintro e w6 ⟨b2, j2, rfl, ho6, b6⟩
    have hK6 := HK5.out.on b6
    have hX6 := (b6.block w4.heap.size hXDlt).trans HXD.out
    have hs6 := b6.size
    have hO6 : OV w3.heap.size W5.heap.size a1 c1 B b2 j2 (L.take q) w6 := ⟨by have := HOV.out.lm; have := HOV.out.mh; omega, hs6, rw_below HOV.out.base b6, fun g hg => by have := HBD.out g hg; omega, by rw [hnq]; exact ho6⟩
    clear d0 d1 d2 d3 g0 g1 g2 g3 x0 x1 x2 x3 o0 o1 o2 o3 o4
    have d0 : w6.cell? ⟨w4.heap.size, 0, none⟩ = some (.slice a1 B.length c1) := box_cell hX6 0
    have g0 : w6.frozen? ⟨w4.heap.size, 0, none⟩ = false := box_free hX6 0
    have d1 : w6.cell? ⟨w4.heap.size, 1, none⟩ = some (.int .i64 F) := box_cell hX6 1
    have g1 : w6.frozen? ⟨w4.heap.size, 1, none⟩ = false := box_free hX6 1
    have d2 : w6.cell? ⟨w4.heap.size, 2, none⟩ = some (.slice a2 L.length c2) := box_cell hX6 2
    have g2 : w6.frozen? ⟨w4.heap.size, 2, none⟩ = false := box_free hX6 2
    have d3 : w6.cell? ⟨w4.heap.size, 3, none⟩ = some (.int .i64 s) := box_cell hX6 3
    have g3 : w6.frozen? ⟨w4.heap.size, 3, none⟩ = false := box_free hX6 3
    have hlg : ∀ g, (Value.slice b2 (L.take q).length j2).ownBlock = some g → g ≠ w4.heap.size := fun g hg => by have := (hO6.log.lt g hg).1; omega
    have hO7 := (hO6.apart w4.heap.size 2 (.slice b2 q j2) (fun g hg => by have := HBD.out g hg; omega) hlg).apart w4.heap.size 3 (.int .i64 (q : Int)) (fun g hg => by have := HBD.out g hg; omega) hlg
    have hK7 := hK6.step (setB (setB (Below.refl (w.heap.size + 3) w6) w4.heap.size 2 hX3 (.slice b2 q j2)) w4.heap.size 3 hX3 (.int .i64 (q : Int)))
    have HDO : Hid (∀ e w', (∃ aB' kB' aL' kL', e = .returned (.tuple #[.agg #[.slice aB' B.length kB', .int .i64 F, .slice aL' q kL', .int .i64 (q : Int)], .bool true]) ∧ OwnV w.heap.size w'.heap.size aB' B aL' (L.take q) w' ∧ Below w.heap.size w w') → DOut (doV B F L s ⟨5, p, n, D, (q : Int)⟩) w e w') := fun e w' h => by
      rw [HEQ2.out]
      obtain ⟨x1, x2, x3, x4, h1, h2, h3⟩ := h
      exact ⟨x1, x2, x3, x4, by rw [h1, hnq], h2, h3⟩
    have hKr := hK7.fill (.slice a1 B.length c1) (.int .i64 F) (.slice b2 q j2) (.int .i64 (q : Int))
    have er0 : ((((((w6.setCell ⟨w4.heap.size, 2, none⟩ (.slice b2 q j2)).setCell ⟨w4.heap.size, 3, none⟩ (.int .i64 (q : Int))).setCell ⟨w.heap.size + 1 + 1, 0, none⟩ (.slice a1 B.length c1)).setCell ⟨w.heap.size + 1 + 1, 1, none⟩ (.int .i64 F)).setCell ⟨w.heap.size + 1 + 1, 2, none⟩ (.slice b2 q j2)).setCell ⟨w.heap.size + 1 + 1, 3, none⟩ (.int .i64 (q : Int))).cell? ⟨w.heap.size + 1 + 1, 0, none⟩ = some (.slice a1 B.length c1) := box_cell hKr.z 0
    have er1 : ((((((w6.setCell ⟨w4.heap.size, 2, none⟩ (.slice b2 q j2)).setCell ⟨w4.heap.size, 3, none⟩ (.int .i64 (q : Int))).setCell ⟨w.heap.size + 1 + 1, 0, none⟩ (.slice a1 B.length c1)).setCell ⟨w.heap.size + 1 + 1, 1, none⟩ (.int .i64 F)).setCell ⟨w.heap.size + 1 + 1, 2, none⟩ (.slice b2 q j2)).setCell ⟨w.heap.size + 1 + 1, 3, none⟩ (.int .i64 (q : Int))).cell? ⟨w.heap.size + 1 + 1, 1, none⟩ = some (.int .i64 F) := box_cell hKr.z 1
    have er2 : ((((((w6.setCell ⟨w4.heap.size, 2, none⟩ (.slice b2 q j2)).setCell ⟨w4.heap.size, 3, none⟩ (.int .i64 (q : Int))).setCell ⟨w.heap.size + 1 + 1, 0, none⟩ (.slice a1 B.length c1)).setCell ⟨w.heap.size + 1 + 1, 1, none⟩ (.int .i64 F)).setCell ⟨w.heap.size + 1 + 1, 2, none⟩ (.slice b2 q j2)).setCell ⟨w.heap.size + 1 + 1, 3, none⟩ (.int .i64 (q : Int))).cell? ⟨w.heap.size + 1 + 1, 2, none⟩ = some (.slice b2 q j2) := box_cell hKr.z 2
    have er3 : ((((((w6.setCell ⟨w4.heap.size, 2, none⟩ (.slice b2 q j2)).setCell ⟨w4.heap.size, 3, none⟩ (.int .i64 (q : Int))).setCell ⟨w.heap.size + 1 + 1, 0, none⟩ (.slice a1 B.length c1)).setCell ⟨w.heap.size + 1 + 1, 1, none⟩ (.int .i64 F)).setCell ⟨w.heap.size + 1 + 1, 2, none⟩ (.slice b2 q j2)).setCell ⟨w.heap.size + 1 + 1, 3, none⟩ (.int .i64 (q : Int))).cell? ⟨w.heap.size + 1 + 1, 3, none⟩ = some (.int .i64 (q : Int)) := box_cell hKr.z 3
    have HBr := hid hKr.below
    have hOr := (((hO7.set (w.heap.size + 1 + 1) 0 (.slice a1 B.length c1) (by omega)).set (w.heap.size + 1 + 1) 1 (.int .i64 F) (by omega)).set (w.heap.size + 1 + 1) 2 (.slice b2 q j2) (by omega)).set (w.heap.size + 1 + 1) 3 (.int .i64 (q : Int)) (by omega)
    have HOr := hid (hOr.lower (show w.heap.size ≤ w3.heap.size by omega)).own
    obtain ⟨⟨z0, z1, z2, z3⟩, f0, f1, f2, f3⟩ := hK6.cells
    have HNQ := hid hnq
    clear hKr hOr hK7 hO7 hO6 ho6 b6 hlg hnq
    go_wp2_with fail
    generalize ((((((w6.setCell ⟨w4.heap.size, 2, none⟩ (.slice b2 q j2)).setCell ⟨w4.heap.size, 3, none⟩ (.int .i64 (q : Int))).setCell ⟨w.heap.size + 1 + 1, 0, none⟩ (.slice a1 B.length c1)).setCell ⟨w.heap.size + 1 + 1, 1, none⟩ (.int .i64 F)).setCell ⟨w.heap.size + 1 + 1, 2, none⟩ (.slice b2 q j2)).setCell ⟨w.heap.size + 1 + 1, 3, none⟩ (.int .i64 (q : Int))) = XX at *
    refine bodyPost_ret (v := .tuple #[.agg #[.slice a1 B.length c1, .int .i64 F, .slice b2 q j2, .int .i64 (q : Int)], .bool true]) (by simp [results, Try.results16, go_sem, er0, er1, er2, er3]) rfl ?_
    exact HDO.out _ _ ⟨_, _, _, _, rfl, HOr.out, HBr.out⟩
  by_cases kk1 : k = 1
  · subst kk1
    have hXw := hXDlt
    have hXb := HXD.out
    have hOb := HOV.out
    clear d0 d1 d2 d3 g0 g1 g2 g3 x0 x1 x2 x3
    go_wp2_with fail
    refine (HRF.out _).mono ?_
    rintro e w6 ⟨rfl, b6⟩
    have hK6 := HK5.out.on b6
    have hX6 := (b6.block w4.heap.size hXw).trans hXb
    have hs6 := b6.size
    have hO6 := hOb.below b6
    clear b6
    cases hr : recOk ⟨1, p, n, D, m⟩
    · rw [recV_no hr]
      have HNO : Hid (doV B F L s ⟨1, p, n, D, m⟩ = none) := (doV_rec (o := ⟨1, p, n, D, m⟩) (show (1 : Int) ≤ 1 ∧ (1 : Int) ≤ 3 by omega)).trans (recDo_no hr)
      have HK7 := hid (hK6.on (boxB w6 (.cells #[.int .i64 0, .int .i64 0, .int .i64 0, .string ⟨#[]⟩] 37)))
      clear hr hK6 hX6 hO6
      have hKz := HK7.out.fill (.slice none 0 0) (.int .i64 0) (.slice none 0 0) (.int .i64 0)
      have ez0 : (((((w6.alloc (.cells #[.int .i64 0, .int .i64 0, .int .i64 0, .string ⟨#[]⟩] 37)).setCell ⟨w.heap.size + 1 + 1, 0, none⟩ (.slice none 0 0)).setCell ⟨w.heap.size + 1 + 1, 1, none⟩ (.int .i64 0)).setCell ⟨w.heap.size + 1 + 1, 2, none⟩ (.slice none 0 0)).setCell ⟨w.heap.size + 1 + 1, 3, none⟩ (.int .i64 0)).cell? ⟨w.heap.size + 1 + 1, 0, none⟩ = some (.slice none 0 0) := box_cell hKz.z 0
      have ez1 : (((((w6.alloc (.cells #[.int .i64 0, .int .i64 0, .int .i64 0, .string ⟨#[]⟩] 37)).setCell ⟨w.heap.size + 1 + 1, 0, none⟩ (.slice none 0 0)).setCell ⟨w.heap.size + 1 + 1, 1, none⟩ (.int .i64 0)).setCell ⟨w.heap.size + 1 + 1, 2, none⟩ (.slice none 0 0)).setCell ⟨w.heap.size + 1 + 1, 3, none⟩ (.int .i64 0)).cell? ⟨w.heap.size + 1 + 1, 1, none⟩ = some (.int .i64 0) := box_cell hKz.z 1
      have ez2 : (((((w6.alloc (.cells #[.int .i64 0, .int .i64 0, .int .i64 0, .string ⟨#[]⟩] 37)).setCell ⟨w.heap.size + 1 + 1, 0, none⟩ (.slice none 0 0)).setCell ⟨w.heap.size + 1 + 1, 1, none⟩ (.int .i64 0)).setCell ⟨w.heap.size + 1 + 1, 2, none⟩ (.slice none 0 0)).setCell ⟨w.heap.size + 1 + 1, 3, none⟩ (.int .i64 0)).cell? ⟨w.heap.size + 1 + 1, 2, none⟩ = some (.slice none 0 0) := box_cell hKz.z 2
      have ez3 : (((((w6.alloc (.cells #[.int .i64 0, .int .i64 0, .int .i64 0, .string ⟨#[]⟩] 37)).setCell ⟨w.heap.size + 1 + 1, 0, none⟩ (.slice none 0 0)).setCell ⟨w.heap.size + 1 + 1, 1, none⟩ (.int .i64 0)).setCell ⟨w.heap.size + 1 + 1, 2, none⟩ (.slice none 0 0)).setCell ⟨w.heap.size + 1 + 1, 3, none⟩ (.int .i64 0)).cell? ⟨w.heap.size + 1 + 1, 3, none⟩ = some (.int .i64 0) := box_cell hKz.z 3
      have HBz := hid hKz.below
      obtain ⟨⟨z0, z1, z2, z3⟩, f0, f1, f2, f3⟩ := HK7.out.cells
      clear hKz
      go_wp2_with fail
      generalize (((((w6.alloc (.cells #[.int .i64 0, .int .i64 0, .int .i64 0, .string ⟨#[]⟩] 37)).setCell ⟨w.heap.size + 1 + 1, 0, none⟩ (.slice none 0 0)).setCell ⟨w.heap.size + 1 + 1, 1, none⟩ (.int .i64 0)).setCell ⟨w.heap.size + 1 + 1, 2, none⟩ (.slice none 0 0)).setCell ⟨w.heap.size + 1 + 1, 3, none⟩ (.int .i64 0)) = XX at *
      refine bodyPost_ret (v := .tuple #[.agg #[.slice none 0 0, .int .i64 0, .slice none 0 0, .int .i64 0], .bool false]) (by simp [results, Try.results16, go_sem, ez0, ez1, ez2, ez3]) rfl ?_
      rw [HNO.out]
      exact ⟨rfl, HBz.out⟩
    rw [recV_yes hr]
    have b7 := boxB w6 (.cells #[.int .i64 1, .int .i64 p, .int .i64 n, .string D] 37)
    have hK7 := hK6.on b7
    have hX7 := (b7.block w4.heap.size (by omega)).trans hX6
    have hO7 := hO6.below b7
    have hR7 : (w6.alloc (.cells #[.int .i64 1, .int .i64 p, .int .i64 n, .string D] 37)).heap[w6.heap.size]? = some (.cells #[.int .i64 1, .int .i64 p, .int .i64 n, .string D] 37) := heap_last _ _
    have hz7 : (w6.alloc (.cells #[.int .i64 1, .int .i64 p, .int .i64 n, .string D] 37)).heap.size = w6.heap.size + 1 := heap_size _ _
    generalize hW7 : w6.alloc (.cells #[.int .i64 1, .int .i64 p, .int .i64 n, .string D] 37) = W7 at *
    clear b7 hK6 hX6 hO6
    by_cases h40 : L.length = 40
    · have HNO : Hid (doV B F L s ⟨1, p, n, D, m⟩ = none) := by
        show doV B F L s ⟨1, p, n, D, m⟩ = none
        rw [doV_rec (o := ⟨1, p, n, D, m⟩) (show (1 : Int) ≤ 1 ∧ (1 : Int) ≤ 3 by omega)]; unfold recDo; rw [if_neg (fun g => g.2.1 h40)]
      have q40 : ((L.length : Int) == 40) = true := by rw [h40]; rfl
      have q41 : decide ((L.length : Int) = 40) = true := decide_eq_true (by omega)
      have q42 : decide (L.length = 40) = true := decide_eq_true h40
      have q43 : (L.length == 40) = true := by rw [h40]; rfl
      obtain ⟨x0, x1, x2, x3⟩ := hK7.vol
      have HK7 := hid hK7
      clear hr h40 hK7 hX7 hO7 hR7
      have hKz := HK7.out.fill (.slice none 0 0) (.int .i64 0) (.slice none 0 0) (.int .i64 0)
      have ez0 : ((((W7.setCell ⟨w.heap.size + 1 + 1, 0, none⟩ (.slice none 0 0)).setCell ⟨w.heap.size + 1 + 1, 1, none⟩ (.int .i64 0)).setCell ⟨w.heap.size + 1 + 1, 2, none⟩ (.slice none 0 0)).setCell ⟨w.heap.size + 1 + 1, 3, none⟩ (.int .i64 0)).cell? ⟨w.heap.size + 1 + 1, 0, none⟩ = some (.slice none 0 0) := box_cell hKz.z 0
      have ez1 : ((((W7.setCell ⟨w.heap.size + 1 + 1, 0, none⟩ (.slice none 0 0)).setCell ⟨w.heap.size + 1 + 1, 1, none⟩ (.int .i64 0)).setCell ⟨w.heap.size + 1 + 1, 2, none⟩ (.slice none 0 0)).setCell ⟨w.heap.size + 1 + 1, 3, none⟩ (.int .i64 0)).cell? ⟨w.heap.size + 1 + 1, 1, none⟩ = some (.int .i64 0) := box_cell hKz.z 1
      have ez2 : ((((W7.setCell ⟨w.heap.size + 1 + 1, 0, none⟩ (.slice none 0 0)).setCell ⟨w.heap.size + 1 + 1, 1, none⟩ (.int .i64 0)).setCell ⟨w.heap.size + 1 + 1, 2, none⟩ (.slice none 0 0)).setCell ⟨w.heap.size + 1 + 1, 3, none⟩ (.int .i64 0)).cell? ⟨w.heap.size + 1 + 1, 2, none⟩ = some (.slice none 0 0) := box_cell hKz.z 2
      have ez3 : ((((W7.setCell ⟨w.heap.size + 1 + 1, 0, none⟩ (.slice none 0 0)).setCell ⟨w.heap.size + 1 + 1, 1, none⟩ (.int .i64 0)).setCell ⟨w.heap.size + 1 + 1, 2, none⟩ (.slice none 0 0)).setCell ⟨w.heap.size + 1 + 1, 3, none⟩ (.int .i64 0)).cell? ⟨w.heap.size + 1 + 1, 3, none⟩ = some (.int .i64 0) := box_cell hKz.z 3
      have HBz := hid hKz.below
      obtain ⟨⟨z0, z1, z2, z3⟩, f0, f1, f2, f3⟩ := HK7.out.cells
      clear hKz
      go_wp2_with fail
      generalize ((((W7.setCell ⟨w.heap.size + 1 + 1, 0, none⟩ (.slice none 0 0)).setCell ⟨w.heap.size + 1 + 1, 1, none⟩ (.int .i64 0)).setCell ⟨w.heap.size + 1 + 1, 2, none⟩ (.slice none 0 0)).setCell ⟨w.heap.size + 1 + 1, 3, none⟩ (.int .i64 0)) = XX at *
      refine bodyPost_ret (v := .tuple #[.agg #[.slice none 0 0, .int .i64 0, .slice none 0 0, .int .i64 0], .bool false]) (by simp [results, Try.results16, go_sem, ez0, ez1, ez2, ez3]) rfl ?_
      rw [HNO.out]
      exact ⟨rfl, HBz.out⟩
    have q40 : ((L.length : Int) == 40) = false := beq_eq_false_iff_ne.2 (by omega)
    have q41 : decide ((L.length : Int) = 40) = false := decide_eq_false (by omega)
    have q42 : decide (L.length = 40) = false := decide_eq_false h40
    have q43 : (L.length == 40) = false := beq_eq_false_iff_ne.2 h40
    have HEQ : Hid (doV B F L s ⟨1, p, n, D, m⟩ = some (B, F, L ++ [opR ⟨1, p, n, D, m⟩], s)) := by
      show doV B F L s ⟨1, p, n, D, m⟩ = _
      rw [doV_rec (o := ⟨1, p, n, D, m⟩) (show (1 : Int) ≤ 1 ∧ (1 : Int) ≤ 3 by omega)]; unfold recDo; rw [if_pos ⟨hr, h40, fun g => by cases g⟩]
    have hRs : Rs (W7.alloc (.cells #[.int .i64 1, .int .i64 p, .int .i64 n, .string D] 37)).heap.size (some ⟨W7.heap.size, 0, none⟩) [opR ⟨1, p, n, D, m⟩] (W7.alloc (.cells #[.int .i64 1, .int .i64 p, .int .i64 n, .string D] 37)) := by
      have := rrow_one W7 (opR ⟨1, p, n, D, m⟩)
      have hD : str (opR ⟨1, p, n, D, m⟩).data = D := str_back D
      rw [hD] at this
      exact this
    have b8 := boxB W7 (.cells #[.int .i64 1, .int .i64 p, .int .i64 n, .string D] 37)
    obtain ⟨v9, w9, r9, o9, g9, gb9⟩ := app_rec (W7.alloc (.cells #[.int .i64 1, .int .i64 p, .int .i64 n, .string D] 37)) mid (.slice a2 L.length c2) L.length (rvals L) (rw_below hO7.log b8) (some ⟨W7.heap.size, 0, none⟩) 1 [opR ⟨1, p, n, D, m⟩] hRs (by show L.length + 1 ≤ 10000; omega) (by have := hO7.mh; have := b8.size; omega)
    obtain ⟨a9, c9, rfl⟩ := rw_form o9
    have hmid : w.heap.size + 3 ≤ mid := by have := hO7.lm; omega
    have g9b := below_of_grown (lo := mid) g9 (by have := hO7.mh; have := b8.size; omega) (fun j hj => (hO7.log.lt j hj).1)
    have hK9 := (hK7.on b8).step (g9b.mono hmid)
    have hne9 : ∀ g, (Value.slice a2 L.length c2).ownBlock = some g → g ≠ w4.heap.size := fun g hg => by have := HLD.out g hg; omega
    have hX9 := (g9.block w4.heap.size (by have := b8.size; omega) (fun e9 => hne9 _ e9.symm rfl)).trans ((b8.block w4.heap.size (by omega)).trans hX7)
    have hl1 : (L ++ [opR ⟨1, p, n, D, m⟩]).length = L.length + 1 := by rw [List.length_append]; rfl
    have hO9 : OV w3.heap.size mid a1 c1 B a9 c9 (L ++ [opR ⟨1, p, n, D, m⟩]) w9 := by
      refine ⟨hO7.lm, by have := hO7.mh; have := b8.size; have := g9.size; omega, rw_keep (rw_below hO7.base b8) (fun g hg => g9.block g (by have := (rw_below hO7.base b8).lt g hg; exact this.2) (fun e9 => ?_)), hO7.low, ?_⟩
      · have h8 := hO7.low g hg
        have h9 := (hO7.log.lt g e9.symm).1
        omega
      · rw [hl1, rvals_snoc]; exact o9
    have hlg : ∀ g, (Value.slice a9 (L ++ [opR ⟨1, p, n, D, m⟩]).length c9).ownBlock = some g → g ≠ w4.heap.size := fun g hg => by
      rw [hl1] at hg
      rcases gb9 with h8 | h8
      · exact hne9 g (by rw [← h8]; exact hg)
      · have h7 : (Value.slice a9 (L.length + 1) c9).ownBlock = some g := hg
        have h6 := h8.symm.trans h7
        injection h6 with h6
        have h5 : (W7.alloc (.cells #[.int .i64 1, .int .i64 p, .int .i64 n, .string D] 37)).heap.size = W7.heap.size + 1 := heap_size _ _
        omega
    have hO10 := hO9.apart w4.heap.size 2 (.slice a9 (L.length + 1) c9) (fun g hg => by have := HBD.out g hg; omega) hlg
    have hK10 := hK9.step (setB (Below.refl (w.heap.size + 3) w9) w4.heap.size 2 hX3 (.slice a9 (L.length + 1) c9))
    have d0 : w9.cell? ⟨w4.heap.size, 0, none⟩ = some (.slice a1 B.length c1) := box_cell hX9 0
    have g0 : w9.frozen? ⟨w4.heap.size, 0, none⟩ = false := box_free hX9 0
    have d1 : w9.cell? ⟨w4.heap.size, 1, none⟩ = some (.int .i64 F) := box_cell hX9 1
    have g1 : w9.frozen? ⟨w4.heap.size, 1, none⟩ = false := box_free hX9 1
    have d2 : w9.cell? ⟨w4.heap.size, 2, none⟩ = some (.slice a2 L.length c2) := box_cell hX9 2
    have g2 : w9.frozen? ⟨w4.heap.size, 2, none⟩ = false := box_free hX9 2
    have d3 : w9.cell? ⟨w4.heap.size, 3, none⟩ = some (.int .i64 s) := box_cell hX9 3
    have g3 : w9.frozen? ⟨w4.heap.size, 3, none⟩ = false := box_free hX9 3
    have dd2 : W7.cell? ⟨w4.heap.size, 2, none⟩ = some (.slice a2 L.length c2) := box_cell hX7 2
    have rr0 : W7.cell? ⟨w6.heap.size, 0, none⟩ = some (.int .i64 1) := box_cell hR7 0
    have rr1 : W7.cell? ⟨w6.heap.size, 1, none⟩ = some (.int .i64 p) := box_cell hR7 1
    have rr2 : W7.cell? ⟨w6.heap.size, 2, none⟩ = some (.int .i64 n) := box_cell hR7 2
    have rr3 : W7.cell? ⟨w6.heap.size, 3, none⟩ = some (.string D) := box_cell hR7 3
    have hKr := hK10.fill (.slice a1 B.length c1) (.int .i64 F) (.slice a9 (L.length + 1) c9) (.int .i64 s)
    have er0 : (((((w9.setCell ⟨w4.heap.size, 2, none⟩ (.slice a9 (L.length + 1) c9)).setCell ⟨w.heap.size + 1 + 1, 0, none⟩ (.slice a1 B.length c1)).setCell ⟨w.heap.size + 1 + 1, 1, none⟩ (.int .i64 F)).setCell ⟨w.heap.size + 1 + 1, 2, none⟩ (.slice a9 (L.length + 1) c9)).setCell ⟨w.heap.size + 1 + 1, 3, none⟩ (.int .i64 s)).cell? ⟨w.heap.size + 1 + 1, 0, none⟩ = some (.slice a1 B.length c1) := box_cell hKr.z 0
    have er1 : (((((w9.setCell ⟨w4.heap.size, 2, none⟩ (.slice a9 (L.length + 1) c9)).setCell ⟨w.heap.size + 1 + 1, 0, none⟩ (.slice a1 B.length c1)).setCell ⟨w.heap.size + 1 + 1, 1, none⟩ (.int .i64 F)).setCell ⟨w.heap.size + 1 + 1, 2, none⟩ (.slice a9 (L.length + 1) c9)).setCell ⟨w.heap.size + 1 + 1, 3, none⟩ (.int .i64 s)).cell? ⟨w.heap.size + 1 + 1, 1, none⟩ = some (.int .i64 F) := box_cell hKr.z 1
    have er2 : (((((w9.setCell ⟨w4.heap.size, 2, none⟩ (.slice a9 (L.length + 1) c9)).setCell ⟨w.heap.size + 1 + 1, 0, none⟩ (.slice a1 B.length c1)).setCell ⟨w.heap.size + 1 + 1, 1, none⟩ (.int .i64 F)).setCell ⟨w.heap.size + 1 + 1, 2, none⟩ (.slice a9 (L.length + 1) c9)).setCell ⟨w.heap.size + 1 + 1, 3, none⟩ (.int .i64 s)).cell? ⟨w.heap.size + 1 + 1, 2, none⟩ = some (.slice a9 (L.length + 1) c9) := box_cell hKr.z 2
    have er3 : (((((w9.setCell ⟨w4.heap.size, 2, none⟩ (.slice a9 (L.length + 1) c9)).setCell ⟨w.heap.size + 1 + 1, 0, none⟩ (.slice a1 B.length c1)).setCell ⟨w.heap.size + 1 + 1, 1, none⟩ (.int .i64 F)).setCell ⟨w.heap.size + 1 + 1, 2, none⟩ (.slice a9 (L.length + 1) c9)).setCell ⟨w.heap.size + 1 + 1, 3, none⟩ (.int .i64 s)).cell? ⟨w.heap.size + 1 + 1, 3, none⟩ = some (.int .i64 s) := box_cell hKr.z 3
    have HBr := hid hKr.below
    have hOr := (((hO10.set (w.heap.size + 1 + 1) 0 (.slice a1 B.length c1) (by omega)).set (w.heap.size + 1 + 1) 1 (.int .i64 F) (by omega)).set (w.heap.size + 1 + 1) 2 (.slice a9 (L.length + 1) c9) (by omega)).set (w.heap.size + 1 + 1) 3 (.int .i64 s) (by omega)
    have HOr := hid (hOr.lower (show w.heap.size ≤ w3.heap.size by omega)).own
    have HDO : Hid (∀ e w', (∃ aB' kB' aL' kL', e = .returned (.tuple #[.agg #[.slice aB' B.length kB', .int .i64 F, .slice aL' (L.length + 1) kL', .int .i64 s], .bool true]) ∧ OwnV w.heap.size w'.heap.size aB' B aL' (L ++ [opR ⟨1, p, n, D, m⟩]) w' ∧ Below w.heap.size w w') → DOut (doV B F L s ⟨1, p, n, D, m⟩) w e w') := fun e w' h => by
      rw [HEQ.out]
      obtain ⟨x1, x2, x3, x4, h1, h2, h3⟩ := h
      exact ⟨x1, x2, x3, x4, by rw [h1, hl1], h2, h3⟩
    obtain ⟨⟨z0, z1, z2, z3⟩, f0, f1, f2, f3⟩ := hK9.cells
    obtain ⟨y0, y1, y2, y3⟩ := hK7.vol
    clear hKr hOr hK10 hO10 hO9 hlg o9 g9 gb9 g9b hK9 hX9 hne9 hRs b8 hO7 hK7 hX7 hR7 hz7 hl1 hr h40
    go_wp2_with (at_builtin; refine wpList_append_run rfl (.tmp 58) (.tmp 60) 26 rfl _ _ rfl rfl _ _ r9 ?_)
    generalize (((((w9.setCell ⟨w4.heap.size, 2, none⟩ (.slice a9 (L.length + 1) c9)).setCell ⟨w.heap.size + 1 + 1, 0, none⟩ (.slice a1 B.length c1)).setCell ⟨w.heap.size + 1 + 1, 1, none⟩ (.int .i64 F)).setCell ⟨w.heap.size + 1 + 1, 2, none⟩ (.slice a9 (L.length + 1) c9)).setCell ⟨w.heap.size + 1 + 1, 3, none⟩ (.int .i64 s)) = XX at *
    refine bodyPost_ret (v := .tuple #[.agg #[.slice a1 B.length c1, .int .i64 F, .slice a9 (L.length + 1) c9, .int .i64 s], .bool true]) (by simp [results, Try.results16, go_sem, er0, er1, er2, er3]) rfl ?_
    exact HDO.out _ _ ⟨_, _, _, _, rfl, HOr.out, HBr.out⟩
  by_cases kk2 : k = 2
  · subst kk2
    have hXw := hXDlt
    have hXb := HXD.out
    have hOb := HOV.out
    clear d0 d1 d2 d3 g0 g1 g2 g3 x0 x1 x2 x3
    go_wp2_with fail
    refine (HRF.out _).mono ?_
    rintro e w6 ⟨rfl, b6⟩
    have hK6 := HK5.out.on b6
    have hX6 := (b6.block w4.heap.size hXw).trans hXb
    have hs6 := b6.size
    have hO6 := hOb.below b6
    clear b6
    cases hr : recOk ⟨2, p, n, D, m⟩
    · rw [recV_no hr]
      have HNO : Hid (doV B F L s ⟨2, p, n, D, m⟩ = none) := (doV_rec (o := ⟨2, p, n, D, m⟩) (show (1 : Int) ≤ 2 ∧ (2 : Int) ≤ 3 by omega)).trans (recDo_no hr)
      have HK7 := hid (hK6.on (boxB w6 (.cells #[.int .i64 0, .int .i64 0, .int .i64 0, .string ⟨#[]⟩] 37)))
      clear hr hK6 hX6 hO6
      have hKz := HK7.out.fill (.slice none 0 0) (.int .i64 0) (.slice none 0 0) (.int .i64 0)
      have ez0 : (((((w6.alloc (.cells #[.int .i64 0, .int .i64 0, .int .i64 0, .string ⟨#[]⟩] 37)).setCell ⟨w.heap.size + 1 + 1, 0, none⟩ (.slice none 0 0)).setCell ⟨w.heap.size + 1 + 1, 1, none⟩ (.int .i64 0)).setCell ⟨w.heap.size + 1 + 1, 2, none⟩ (.slice none 0 0)).setCell ⟨w.heap.size + 1 + 1, 3, none⟩ (.int .i64 0)).cell? ⟨w.heap.size + 1 + 1, 0, none⟩ = some (.slice none 0 0) := box_cell hKz.z 0
      have ez1 : (((((w6.alloc (.cells #[.int .i64 0, .int .i64 0, .int .i64 0, .string ⟨#[]⟩] 37)).setCell ⟨w.heap.size + 1 + 1, 0, none⟩ (.slice none 0 0)).setCell ⟨w.heap.size + 1 + 1, 1, none⟩ (.int .i64 0)).setCell ⟨w.heap.size + 1 + 1, 2, none⟩ (.slice none 0 0)).setCell ⟨w.heap.size + 1 + 1, 3, none⟩ (.int .i64 0)).cell? ⟨w.heap.size + 1 + 1, 1, none⟩ = some (.int .i64 0) := box_cell hKz.z 1
      have ez2 : (((((w6.alloc (.cells #[.int .i64 0, .int .i64 0, .int .i64 0, .string ⟨#[]⟩] 37)).setCell ⟨w.heap.size + 1 + 1, 0, none⟩ (.slice none 0 0)).setCell ⟨w.heap.size + 1 + 1, 1, none⟩ (.int .i64 0)).setCell ⟨w.heap.size + 1 + 1, 2, none⟩ (.slice none 0 0)).setCell ⟨w.heap.size + 1 + 1, 3, none⟩ (.int .i64 0)).cell? ⟨w.heap.size + 1 + 1, 2, none⟩ = some (.slice none 0 0) := box_cell hKz.z 2
      have ez3 : (((((w6.alloc (.cells #[.int .i64 0, .int .i64 0, .int .i64 0, .string ⟨#[]⟩] 37)).setCell ⟨w.heap.size + 1 + 1, 0, none⟩ (.slice none 0 0)).setCell ⟨w.heap.size + 1 + 1, 1, none⟩ (.int .i64 0)).setCell ⟨w.heap.size + 1 + 1, 2, none⟩ (.slice none 0 0)).setCell ⟨w.heap.size + 1 + 1, 3, none⟩ (.int .i64 0)).cell? ⟨w.heap.size + 1 + 1, 3, none⟩ = some (.int .i64 0) := box_cell hKz.z 3
      have HBz := hid hKz.below
      obtain ⟨⟨z0, z1, z2, z3⟩, f0, f1, f2, f3⟩ := HK7.out.cells
      clear hKz
      go_wp2_with fail
      generalize (((((w6.alloc (.cells #[.int .i64 0, .int .i64 0, .int .i64 0, .string ⟨#[]⟩] 37)).setCell ⟨w.heap.size + 1 + 1, 0, none⟩ (.slice none 0 0)).setCell ⟨w.heap.size + 1 + 1, 1, none⟩ (.int .i64 0)).setCell ⟨w.heap.size + 1 + 1, 2, none⟩ (.slice none 0 0)).setCell ⟨w.heap.size + 1 + 1, 3, none⟩ (.int .i64 0)) = XX at *
      refine bodyPost_ret (v := .tuple #[.agg #[.slice none 0 0, .int .i64 0, .slice none 0 0, .int .i64 0], .bool false]) (by simp [results, Try.results16, go_sem, ez0, ez1, ez2, ez3]) rfl ?_
      rw [HNO.out]
      exact ⟨rfl, HBz.out⟩
    rw [recV_yes hr]
    have b7 := boxB w6 (.cells #[.int .i64 2, .int .i64 p, .int .i64 n, .string D] 37)
    have hK7 := hK6.on b7
    have hX7 := (b7.block w4.heap.size (by omega)).trans hX6
    have hO7 := hO6.below b7
    have hR7 : (w6.alloc (.cells #[.int .i64 2, .int .i64 p, .int .i64 n, .string D] 37)).heap[w6.heap.size]? = some (.cells #[.int .i64 2, .int .i64 p, .int .i64 n, .string D] 37) := heap_last _ _
    have hz7 : (w6.alloc (.cells #[.int .i64 2, .int .i64 p, .int .i64 n, .string D] 37)).heap.size = w6.heap.size + 1 := heap_size _ _
    generalize hW7 : w6.alloc (.cells #[.int .i64 2, .int .i64 p, .int .i64 n, .string D] 37) = W7 at *
    clear b7 hK6 hX6 hO6
    by_cases h40 : L.length = 40
    · have HNO : Hid (doV B F L s ⟨2, p, n, D, m⟩ = none) := by
        show doV B F L s ⟨2, p, n, D, m⟩ = none
        rw [doV_rec (o := ⟨2, p, n, D, m⟩) (show (1 : Int) ≤ 2 ∧ (2 : Int) ≤ 3 by omega)]; unfold recDo; rw [if_neg (fun g => g.2.1 h40)]
      have q40 : ((L.length : Int) == 40) = true := by rw [h40]; rfl
      have q41 : decide ((L.length : Int) = 40) = true := decide_eq_true (by omega)
      have q42 : decide (L.length = 40) = true := decide_eq_true h40
      have q43 : (L.length == 40) = true := by rw [h40]; rfl
      obtain ⟨x0, x1, x2, x3⟩ := hK7.vol
      have HK7 := hid hK7
      clear hr h40 hK7 hX7 hO7 hR7
      have hKz := HK7.out.fill (.slice none 0 0) (.int .i64 0) (.slice none 0 0) (.int .i64 0)
      have ez0 : ((((W7.setCell ⟨w.heap.size + 1 + 1, 0, none⟩ (.slice none 0 0)).setCell ⟨w.heap.size + 1 + 1, 1, none⟩ (.int .i64 0)).setCell ⟨w.heap.size + 1 + 1, 2, none⟩ (.slice none 0 0)).setCell ⟨w.heap.size + 1 + 1, 3, none⟩ (.int .i64 0)).cell? ⟨w.heap.size + 1 + 1, 0, none⟩ = some (.slice none 0 0) := box_cell hKz.z 0
      have ez1 : ((((W7.setCell ⟨w.heap.size + 1 + 1, 0, none⟩ (.slice none 0 0)).setCell ⟨w.heap.size + 1 + 1, 1, none⟩ (.int .i64 0)).setCell ⟨w.heap.size + 1 + 1, 2, none⟩ (.slice none 0 0)).setCell ⟨w.heap.size + 1 + 1, 3, none⟩ (.int .i64 0)).cell? ⟨w.heap.size + 1 + 1, 1, none⟩ = some (.int .i64 0) := box_cell hKz.z 1
      have ez2 : ((((W7.setCell ⟨w.heap.size + 1 + 1, 0, none⟩ (.slice none 0 0)).setCell ⟨w.heap.size + 1 + 1, 1, none⟩ (.int .i64 0)).setCell ⟨w.heap.size + 1 + 1, 2, none⟩ (.slice none 0 0)).setCell ⟨w.heap.size + 1 + 1, 3, none⟩ (.int .i64 0)).cell? ⟨w.heap.size + 1 + 1, 2, none⟩ = some (.slice none 0 0) := box_cell hKz.z 2
      have ez3 : ((((W7.setCell ⟨w.heap.size + 1 + 1, 0, none⟩ (.slice none 0 0)).setCell ⟨w.heap.size + 1 + 1, 1, none⟩ (.int .i64 0)).setCell ⟨w.heap.size + 1 + 1, 2, none⟩ (.slice none 0 0)).setCell ⟨w.heap.size + 1 + 1, 3, none⟩ (.int .i64 0)).cell? ⟨w.heap.size + 1 + 1, 3, none⟩ = some (.int .i64 0) := box_cell hKz.z 3
      have HBz := hid hKz.below
      obtain ⟨⟨z0, z1, z2, z3⟩, f0, f1, f2, f3⟩ := HK7.out.cells
      clear hKz
      go_wp2_with fail
      generalize ((((W7.setCell ⟨w.heap.size + 1 + 1, 0, none⟩ (.slice none 0 0)).setCell ⟨w.heap.size + 1 + 1, 1, none⟩ (.int .i64 0)).setCell ⟨w.heap.size + 1 + 1, 2, none⟩ (.slice none 0 0)).setCell ⟨w.heap.size + 1 + 1, 3, none⟩ (.int .i64 0)) = XX at *
      refine bodyPost_ret (v := .tuple #[.agg #[.slice none 0 0, .int .i64 0, .slice none 0 0, .int .i64 0], .bool false]) (by simp [results, Try.results16, go_sem, ez0, ez1, ez2, ez3]) rfl ?_
      rw [HNO.out]
      exact ⟨rfl, HBz.out⟩
    have q40 : ((L.length : Int) == 40) = false := beq_eq_false_iff_ne.2 (by omega)
    have q41 : decide ((L.length : Int) = 40) = false := decide_eq_false (by omega)
    have q42 : decide (L.length = 40) = false := decide_eq_false h40
    have q43 : (L.length == 40) = false := beq_eq_false_iff_ne.2 h40
    have HEQ : Hid (doV B F L s ⟨2, p, n, D, m⟩ = some (B, F, L ++ [opR ⟨2, p, n, D, m⟩], s)) := by
      show doV B F L s ⟨2, p, n, D, m⟩ = _
      rw [doV_rec (o := ⟨2, p, n, D, m⟩) (show (1 : Int) ≤ 2 ∧ (2 : Int) ≤ 3 by omega)]; unfold recDo; rw [if_pos ⟨hr, h40, fun g => by cases g⟩]
    have hRs : Rs (W7.alloc (.cells #[.int .i64 2, .int .i64 p, .int .i64 n, .string D] 37)).heap.size (some ⟨W7.heap.size, 0, none⟩) [opR ⟨2, p, n, D, m⟩] (W7.alloc (.cells #[.int .i64 2, .int .i64 p, .int .i64 n, .string D] 37)) := by
      have := rrow_one W7 (opR ⟨2, p, n, D, m⟩)
      have hD : str (opR ⟨2, p, n, D, m⟩).data = D := str_back D
      rw [hD] at this
      exact this
    have b8 := boxB W7 (.cells #[.int .i64 2, .int .i64 p, .int .i64 n, .string D] 37)
    obtain ⟨v9, w9, r9, o9, g9, gb9⟩ := app_rec (W7.alloc (.cells #[.int .i64 2, .int .i64 p, .int .i64 n, .string D] 37)) mid (.slice a2 L.length c2) L.length (rvals L) (rw_below hO7.log b8) (some ⟨W7.heap.size, 0, none⟩) 1 [opR ⟨2, p, n, D, m⟩] hRs (by show L.length + 1 ≤ 10000; omega) (by have := hO7.mh; have := b8.size; omega)
    obtain ⟨a9, c9, rfl⟩ := rw_form o9
    have hmid : w.heap.size + 3 ≤ mid := by have := hO7.lm; omega
    have g9b := below_of_grown (lo := mid) g9 (by have := hO7.mh; have := b8.size; omega) (fun j hj => (hO7.log.lt j hj).1)
    have hK9 := (hK7.on b8).step (g9b.mono hmid)
    have hne9 : ∀ g, (Value.slice a2 L.length c2).ownBlock = some g → g ≠ w4.heap.size := fun g hg => by have := HLD.out g hg; omega
    have hX9 := (g9.block w4.heap.size (by have := b8.size; omega) (fun e9 => hne9 _ e9.symm rfl)).trans ((b8.block w4.heap.size (by omega)).trans hX7)
    have hl1 : (L ++ [opR ⟨2, p, n, D, m⟩]).length = L.length + 1 := by rw [List.length_append]; rfl
    have hO9 : OV w3.heap.size mid a1 c1 B a9 c9 (L ++ [opR ⟨2, p, n, D, m⟩]) w9 := by
      refine ⟨hO7.lm, by have := hO7.mh; have := b8.size; have := g9.size; omega, rw_keep (rw_below hO7.base b8) (fun g hg => g9.block g (by have := (rw_below hO7.base b8).lt g hg; exact this.2) (fun e9 => ?_)), hO7.low, ?_⟩
      · have h8 := hO7.low g hg
        have h9 := (hO7.log.lt g e9.symm).1
        omega
      · rw [hl1, rvals_snoc]; exact o9
    have hlg : ∀ g, (Value.slice a9 (L ++ [opR ⟨2, p, n, D, m⟩]).length c9).ownBlock = some g → g ≠ w4.heap.size := fun g hg => by
      rw [hl1] at hg
      rcases gb9 with h8 | h8
      · exact hne9 g (by rw [← h8]; exact hg)
      · have h7 : (Value.slice a9 (L.length + 1) c9).ownBlock = some g := hg
        have h6 := h8.symm.trans h7
        injection h6 with h6
        have h5 : (W7.alloc (.cells #[.int .i64 2, .int .i64 p, .int .i64 n, .string D] 37)).heap.size = W7.heap.size + 1 := heap_size _ _
        omega
    have hO10 := hO9.apart w4.heap.size 2 (.slice a9 (L.length + 1) c9) (fun g hg => by have := HBD.out g hg; omega) hlg
    have hK10 := hK9.step (setB (Below.refl (w.heap.size + 3) w9) w4.heap.size 2 hX3 (.slice a9 (L.length + 1) c9))
    have d0 : w9.cell? ⟨w4.heap.size, 0, none⟩ = some (.slice a1 B.length c1) := box_cell hX9 0
    have g0 : w9.frozen? ⟨w4.heap.size, 0, none⟩ = false := box_free hX9 0
    have d1 : w9.cell? ⟨w4.heap.size, 1, none⟩ = some (.int .i64 F) := box_cell hX9 1
    have g1 : w9.frozen? ⟨w4.heap.size, 1, none⟩ = false := box_free hX9 1
    have d2 : w9.cell? ⟨w4.heap.size, 2, none⟩ = some (.slice a2 L.length c2) := box_cell hX9 2
    have g2 : w9.frozen? ⟨w4.heap.size, 2, none⟩ = false := box_free hX9 2
    have d3 : w9.cell? ⟨w4.heap.size, 3, none⟩ = some (.int .i64 s) := box_cell hX9 3
    have g3 : w9.frozen? ⟨w4.heap.size, 3, none⟩ = false := box_free hX9 3
    have dd2 : W7.cell? ⟨w4.heap.size, 2, none⟩ = some (.slice a2 L.length c2) := box_cell hX7 2
    have rr0 : W7.cell? ⟨w6.heap.size, 0, none⟩ = some (.int .i64 2) := box_cell hR7 0
    have rr1 : W7.cell? ⟨w6.heap.size, 1, none⟩ = some (.int .i64 p) := box_cell hR7 1
    have rr2 : W7.cell? ⟨w6.heap.size, 2, none⟩ = some (.int .i64 n) := box_cell hR7 2
    have rr3 : W7.cell? ⟨w6.heap.size, 3, none⟩ = some (.string D) := box_cell hR7 3
    have hKr := hK10.fill (.slice a1 B.length c1) (.int .i64 F) (.slice a9 (L.length + 1) c9) (.int .i64 s)
    have er0 : (((((w9.setCell ⟨w4.heap.size, 2, none⟩ (.slice a9 (L.length + 1) c9)).setCell ⟨w.heap.size + 1 + 1, 0, none⟩ (.slice a1 B.length c1)).setCell ⟨w.heap.size + 1 + 1, 1, none⟩ (.int .i64 F)).setCell ⟨w.heap.size + 1 + 1, 2, none⟩ (.slice a9 (L.length + 1) c9)).setCell ⟨w.heap.size + 1 + 1, 3, none⟩ (.int .i64 s)).cell? ⟨w.heap.size + 1 + 1, 0, none⟩ = some (.slice a1 B.length c1) := box_cell hKr.z 0
    have er1 : (((((w9.setCell ⟨w4.heap.size, 2, none⟩ (.slice a9 (L.length + 1) c9)).setCell ⟨w.heap.size + 1 + 1, 0, none⟩ (.slice a1 B.length c1)).setCell ⟨w.heap.size + 1 + 1, 1, none⟩ (.int .i64 F)).setCell ⟨w.heap.size + 1 + 1, 2, none⟩ (.slice a9 (L.length + 1) c9)).setCell ⟨w.heap.size + 1 + 1, 3, none⟩ (.int .i64 s)).cell? ⟨w.heap.size + 1 + 1, 1, none⟩ = some (.int .i64 F) := box_cell hKr.z 1
    have er2 : (((((w9.setCell ⟨w4.heap.size, 2, none⟩ (.slice a9 (L.length + 1) c9)).setCell ⟨w.heap.size + 1 + 1, 0, none⟩ (.slice a1 B.length c1)).setCell ⟨w.heap.size + 1 + 1, 1, none⟩ (.int .i64 F)).setCell ⟨w.heap.size + 1 + 1, 2, none⟩ (.slice a9 (L.length + 1) c9)).setCell ⟨w.heap.size + 1 + 1, 3, none⟩ (.int .i64 s)).cell? ⟨w.heap.size + 1 + 1, 2, none⟩ = some (.slice a9 (L.length + 1) c9) := box_cell hKr.z 2
    have er3 : (((((w9.setCell ⟨w4.heap.size, 2, none⟩ (.slice a9 (L.length + 1) c9)).setCell ⟨w.heap.size + 1 + 1, 0, none⟩ (.slice a1 B.length c1)).setCell ⟨w.heap.size + 1 + 1, 1, none⟩ (.int .i64 F)).setCell ⟨w.heap.size + 1 + 1, 2, none⟩ (.slice a9 (L.length + 1) c9)).setCell ⟨w.heap.size + 1 + 1, 3, none⟩ (.int .i64 s)).cell? ⟨w.heap.size + 1 + 1, 3, none⟩ = some (.int .i64 s) := box_cell hKr.z 3
    have HBr := hid hKr.below
    have hOr := (((hO10.set (w.heap.size + 1 + 1) 0 (.slice a1 B.length c1) (by omega)).set (w.heap.size + 1 + 1) 1 (.int .i64 F) (by omega)).set (w.heap.size + 1 + 1) 2 (.slice a9 (L.length + 1) c9) (by omega)).set (w.heap.size + 1 + 1) 3 (.int .i64 s) (by omega)
    have HOr := hid (hOr.lower (show w.heap.size ≤ w3.heap.size by omega)).own
    have HDO : Hid (∀ e w', (∃ aB' kB' aL' kL', e = .returned (.tuple #[.agg #[.slice aB' B.length kB', .int .i64 F, .slice aL' (L.length + 1) kL', .int .i64 s], .bool true]) ∧ OwnV w.heap.size w'.heap.size aB' B aL' (L ++ [opR ⟨2, p, n, D, m⟩]) w' ∧ Below w.heap.size w w') → DOut (doV B F L s ⟨2, p, n, D, m⟩) w e w') := fun e w' h => by
      rw [HEQ.out]
      obtain ⟨x1, x2, x3, x4, h1, h2, h3⟩ := h
      exact ⟨x1, x2, x3, x4, by rw [h1, hl1], h2, h3⟩
    obtain ⟨⟨z0, z1, z2, z3⟩, f0, f1, f2, f3⟩ := hK9.cells
    obtain ⟨y0, y1, y2, y3⟩ := hK7.vol
    clear hKr hOr hK10 hO10 hO9 hlg o9 g9 gb9 g9b hK9 hX9 hne9 hRs b8 hO7 hK7 hX7 hR7 hz7 hl1 hr h40
    go_wp2_with (at_builtin; refine wpList_append_run rfl (.tmp 58) (.tmp 60) 26 rfl _ _ rfl rfl _ _ r9 ?_)
    generalize (((((w9.setCell ⟨w4.heap.size, 2, none⟩ (.slice a9 (L.length + 1) c9)).setCell ⟨w.heap.size + 1 + 1, 0, none⟩ (.slice a1 B.length c1)).setCell ⟨w.heap.size + 1 + 1, 1, none⟩ (.int .i64 F)).setCell ⟨w.heap.size + 1 + 1, 2, none⟩ (.slice a9 (L.length + 1) c9)).setCell ⟨w.heap.size + 1 + 1, 3, none⟩ (.int .i64 s)) = XX at *
    refine bodyPost_ret (v := .tuple #[.agg #[.slice a1 B.length c1, .int .i64 F, .slice a9 (L.length + 1) c9, .int .i64 s], .bool true]) (by simp [results, Try.results16, go_sem, er0, er1, er2, er3]) rfl ?_
    exact HDO.out _ _ ⟨_, _, _, _, rfl, HOr.out, HBr.out⟩
  obtain rfl : k = 3 := by omega
  have HKd := hid (HK5.out.on (Below.refl _ _).drew)
  have t0 : W5.drew.cell? ⟨w.heap.size + 1, 1, none⟩ = some (.int .i64 p) := o1
  have t1 : W5.drew.cell? ⟨w.heap.size, 1, none⟩ = some (.int .i64 F) := x1
  have t2 : W5.drew.cell? ⟨w.heap.size, 2, none⟩ = some (.slice aL L.length kL) := x2
  have HMd := hid (HMB.out W5.drew HKd.out.below)
  obtain ⟨mk, hmk⟩ : ∃ mk, markF F L = mk := ⟨_, rfl⟩
  rw [hmk] at HMd HM
  have HMK := hid hmk
  obtain ⟨m0, m1⟩ := HM.out
  have hwr : IntKind.i64.wrap (mk + 1) = mk + 1 := by rw [IntKind.wrap_i64]; omega
  have hOb := HOV.out
  have hXb := HXD.out
  clear hmk HMB HCR HFS HRS HM d0 d1 d2 d3 g0 g1 g2 g3
  by_cases hp : p = mk + 1
  · have e1 : (p == mk + 1) = true := by rw [hp]; exact beq_self_eq_true _
    have e2 : decide (p = mk + 1) = true := decide_eq_true hp
    have HP := hid hp
    clear hp
    go_wp2_with fail
    go_region_held (fun v => v.cell? ⟨w.heap.size + 1, 1, none⟩ = some (.int .i64 p) ∧ v.cell? ⟨w.heap.size, 1, none⟩ = some (.int .i64 F) ∧ v.cell? ⟨w.heap.size, 2, none⟩ = some (.slice aL L.length kL)) (first | exact ⟨by with_reducible assumption, by with_reducible assumption, by with_reducible assumption⟩) (first | (go_at_call 44; refine HMd.out.mono ?_; rintro e wm ⟨rfl, bm⟩; have hKm := HKd.out.on bm; have u0 : wm.cell? ⟨w.heap.size + 1, 1, none⟩ = some (.int .i64 p) := box_cell hKm.o 1; have u1 : wm.cell? ⟨w.heap.size, 1, none⟩ = some (.int .i64 F) := box_cell hKm.x 1; have u2 : wm.cell? ⟨w.heap.size, 2, none⟩ = some (.slice aL L.length kL) := box_cell hKm.x 2))
    all_goals
      have bm5 : Below W5.heap.size W5 wm := ⟨bm.os, bm.tape, bm.output, bm.size, bm.block⟩
      have hXw : w4.heap.size < wm.heap.size := Nat.lt_of_lt_of_le hXDlt bm5.size
      replace hXb := (bm5.block w4.heap.size hXDlt).trans hXb
      replace hOb := hOb.below bm5
      have HKm := hid hKm
      clear bm bm5 hKm u0 u1 u2 t0 t1 t2 x0 x1 x2 x3 o0 o1 o2 o3 o4 hW5
      obtain ⟨o0, o1, o2, o3, o4⟩ := HKm.out.op
      go_wp2_with fail
      refine (HRF.out _).mono ?_
      rintro e w6 ⟨rfl, b6⟩
      have hK6 := HKm.out.on b6
      have hX6 := (b6.block w4.heap.size hXw).trans hXb
      have hs6 := b6.size
      have hO6 := hOb.below b6
      clear b6
      cases hr : recOk ⟨3, p, n, D, m⟩
      · rw [recV_no hr]
        have HNO : Hid (doV B F L s ⟨3, p, n, D, m⟩ = none) := (doV_rec (o := ⟨3, p, n, D, m⟩) (show (1 : Int) ≤ 3 ∧ (3 : Int) ≤ 3 by omega)).trans (recDo_no hr)
        have HK7 := hid (hK6.on (boxB w6 (.cells #[.int .i64 0, .int .i64 0, .int .i64 0, .string ⟨#[]⟩] 37)))
        clear hr hK6 hX6 hO6
        have hKz := HK7.out.fill (.slice none 0 0) (.int .i64 0) (.slice none 0 0) (.int .i64 0)
        have ez0 : (((((w6.alloc (.cells #[.int .i64 0, .int .i64 0, .int .i64 0, .string ⟨#[]⟩] 37)).setCell ⟨w.heap.size + 1 + 1, 0, none⟩ (.slice none 0 0)).setCell ⟨w.heap.size + 1 + 1, 1, none⟩ (.int .i64 0)).setCell ⟨w.heap.size + 1 + 1, 2, none⟩ (.slice none 0 0)).setCell ⟨w.heap.size + 1 + 1, 3, none⟩ (.int .i64 0)).cell? ⟨w.heap.size + 1 + 1, 0, none⟩ = some (.slice none 0 0) := box_cell hKz.z 0
        have ez1 : (((((w6.alloc (.cells #[.int .i64 0, .int .i64 0, .int .i64 0, .string ⟨#[]⟩] 37)).setCell ⟨w.heap.size + 1 + 1, 0, none⟩ (.slice none 0 0)).setCell ⟨w.heap.size + 1 + 1, 1, none⟩ (.int .i64 0)).setCell ⟨w.heap.size + 1 + 1, 2, none⟩ (.slice none 0 0)).setCell ⟨w.heap.size + 1 + 1, 3, none⟩ (.int .i64 0)).cell? ⟨w.heap.size + 1 + 1, 1, none⟩ = some (.int .i64 0) := box_cell hKz.z 1
        have ez2 : (((((w6.alloc (.cells #[.int .i64 0, .int .i64 0, .int .i64 0, .string ⟨#[]⟩] 37)).setCell ⟨w.heap.size + 1 + 1, 0, none⟩ (.slice none 0 0)).setCell ⟨w.heap.size + 1 + 1, 1, none⟩ (.int .i64 0)).setCell ⟨w.heap.size + 1 + 1, 2, none⟩ (.slice none 0 0)).setCell ⟨w.heap.size + 1 + 1, 3, none⟩ (.int .i64 0)).cell? ⟨w.heap.size + 1 + 1, 2, none⟩ = some (.slice none 0 0) := box_cell hKz.z 2
        have ez3 : (((((w6.alloc (.cells #[.int .i64 0, .int .i64 0, .int .i64 0, .string ⟨#[]⟩] 37)).setCell ⟨w.heap.size + 1 + 1, 0, none⟩ (.slice none 0 0)).setCell ⟨w.heap.size + 1 + 1, 1, none⟩ (.int .i64 0)).setCell ⟨w.heap.size + 1 + 1, 2, none⟩ (.slice none 0 0)).setCell ⟨w.heap.size + 1 + 1, 3, none⟩ (.int .i64 0)).cell? ⟨w.heap.size + 1 + 1, 3, none⟩ = some (.int .i64 0) := box_cell hKz.z 3
        have HBz := hid hKz.below
        obtain ⟨⟨z0, z1, z2, z3⟩, f0, f1, f2, f3⟩ := HK7.out.cells
        clear hKz
        go_wp2_with fail
        generalize (((((w6.alloc (.cells #[.int .i64 0, .int .i64 0, .int .i64 0, .string ⟨#[]⟩] 37)).setCell ⟨w.heap.size + 1 + 1, 0, none⟩ (.slice none 0 0)).setCell ⟨w.heap.size + 1 + 1, 1, none⟩ (.int .i64 0)).setCell ⟨w.heap.size + 1 + 1, 2, none⟩ (.slice none 0 0)).setCell ⟨w.heap.size + 1 + 1, 3, none⟩ (.int .i64 0)) = XX at *
        refine bodyPost_ret (v := .tuple #[.agg #[.slice none 0 0, .int .i64 0, .slice none 0 0, .int .i64 0], .bool false]) (by simp [results, Try.results16, go_sem, ez0, ez1, ez2, ez3]) rfl ?_
        rw [HNO.out]
        exact ⟨rfl, HBz.out⟩
      rw [recV_yes hr]
      have b7 := boxB w6 (.cells #[.int .i64 3, .int .i64 p, .int .i64 n, .string D] 37)
      have hK7 := hK6.on b7
      have hX7 := (b7.block w4.heap.size (by omega)).trans hX6
      have hO7 := hO6.below b7
      have hR7 : (w6.alloc (.cells #[.int .i64 3, .int .i64 p, .int .i64 n, .string D] 37)).heap[w6.heap.size]? = some (.cells #[.int .i64 3, .int .i64 p, .int .i64 n, .string D] 37) := heap_last _ _
      have hz7 : (w6.alloc (.cells #[.int .i64 3, .int .i64 p, .int .i64 n, .string D] 37)).heap.size = w6.heap.size + 1 := heap_size _ _
      generalize hW7 : w6.alloc (.cells #[.int .i64 3, .int .i64 p, .int .i64 n, .string D] 37) = W7 at *
      clear b7 hK6 hX6 hO6
      by_cases h40 : L.length = 40
      · have HNO : Hid (doV B F L s ⟨3, p, n, D, m⟩ = none) := by
          show doV B F L s ⟨3, p, n, D, m⟩ = none
          rw [doV_rec (o := ⟨3, p, n, D, m⟩) (show (1 : Int) ≤ 3 ∧ (3 : Int) ≤ 3 by omega)]; unfold recDo; rw [if_neg (fun g => g.2.1 h40)]
        have q40 : ((L.length : Int) == 40) = true := by rw [h40]; rfl
        have q41 : decide ((L.length : Int) = 40) = true := decide_eq_true (by omega)
        have q42 : decide (L.length = 40) = true := decide_eq_true h40
        have q43 : (L.length == 40) = true := by rw [h40]; rfl
        obtain ⟨x0, x1, x2, x3⟩ := hK7.vol
        have HK7 := hid hK7
        clear hr h40 hK7 hX7 hO7 hR7
        have hKz := HK7.out.fill (.slice none 0 0) (.int .i64 0) (.slice none 0 0) (.int .i64 0)
        have ez0 : ((((W7.setCell ⟨w.heap.size + 1 + 1, 0, none⟩ (.slice none 0 0)).setCell ⟨w.heap.size + 1 + 1, 1, none⟩ (.int .i64 0)).setCell ⟨w.heap.size + 1 + 1, 2, none⟩ (.slice none 0 0)).setCell ⟨w.heap.size + 1 + 1, 3, none⟩ (.int .i64 0)).cell? ⟨w.heap.size + 1 + 1, 0, none⟩ = some (.slice none 0 0) := box_cell hKz.z 0
        have ez1 : ((((W7.setCell ⟨w.heap.size + 1 + 1, 0, none⟩ (.slice none 0 0)).setCell ⟨w.heap.size + 1 + 1, 1, none⟩ (.int .i64 0)).setCell ⟨w.heap.size + 1 + 1, 2, none⟩ (.slice none 0 0)).setCell ⟨w.heap.size + 1 + 1, 3, none⟩ (.int .i64 0)).cell? ⟨w.heap.size + 1 + 1, 1, none⟩ = some (.int .i64 0) := box_cell hKz.z 1
        have ez2 : ((((W7.setCell ⟨w.heap.size + 1 + 1, 0, none⟩ (.slice none 0 0)).setCell ⟨w.heap.size + 1 + 1, 1, none⟩ (.int .i64 0)).setCell ⟨w.heap.size + 1 + 1, 2, none⟩ (.slice none 0 0)).setCell ⟨w.heap.size + 1 + 1, 3, none⟩ (.int .i64 0)).cell? ⟨w.heap.size + 1 + 1, 2, none⟩ = some (.slice none 0 0) := box_cell hKz.z 2
        have ez3 : ((((W7.setCell ⟨w.heap.size + 1 + 1, 0, none⟩ (.slice none 0 0)).setCell ⟨w.heap.size + 1 + 1, 1, none⟩ (.int .i64 0)).setCell ⟨w.heap.size + 1 + 1, 2, none⟩ (.slice none 0 0)).setCell ⟨w.heap.size + 1 + 1, 3, none⟩ (.int .i64 0)).cell? ⟨w.heap.size + 1 + 1, 3, none⟩ = some (.int .i64 0) := box_cell hKz.z 3
        have HBz := hid hKz.below
        obtain ⟨⟨z0, z1, z2, z3⟩, f0, f1, f2, f3⟩ := HK7.out.cells
        clear hKz
        go_wp2_with fail
        generalize ((((W7.setCell ⟨w.heap.size + 1 + 1, 0, none⟩ (.slice none 0 0)).setCell ⟨w.heap.size + 1 + 1, 1, none⟩ (.int .i64 0)).setCell ⟨w.heap.size + 1 + 1, 2, none⟩ (.slice none 0 0)).setCell ⟨w.heap.size + 1 + 1, 3, none⟩ (.int .i64 0)) = XX at *
        refine bodyPost_ret (v := .tuple #[.agg #[.slice none 0 0, .int .i64 0, .slice none 0 0, .int .i64 0], .bool false]) (by simp [results, Try.results16, go_sem, ez0, ez1, ez2, ez3]) rfl ?_
        rw [HNO.out]
        exact ⟨rfl, HBz.out⟩
      have q40 : ((L.length : Int) == 40) = false := beq_eq_false_iff_ne.2 (by omega)
      have q41 : decide ((L.length : Int) = 40) = false := decide_eq_false (by omega)
      have q42 : decide (L.length = 40) = false := decide_eq_false h40
      have q43 : (L.length == 40) = false := beq_eq_false_iff_ne.2 h40
      have HEQ : Hid (doV B F L s ⟨3, p, n, D, m⟩ = some (B, F, L ++ [opR ⟨3, p, n, D, m⟩], s)) := by
        show doV B F L s ⟨3, p, n, D, m⟩ = _
        rw [doV_rec (o := ⟨3, p, n, D, m⟩) (show (1 : Int) ≤ 3 ∧ (3 : Int) ≤ 3 by omega)]; unfold recDo; rw [if_pos ⟨hr, h40, fun _ => by rw [HMK.out]; exact HP.out⟩]
      have hRs : Rs (W7.alloc (.cells #[.int .i64 3, .int .i64 p, .int .i64 n, .string D] 37)).heap.size (some ⟨W7.heap.size, 0, none⟩) [opR ⟨3, p, n, D, m⟩] (W7.alloc (.cells #[.int .i64 3, .int .i64 p, .int .i64 n, .string D] 37)) := by
        have := rrow_one W7 (opR ⟨3, p, n, D, m⟩)
        have hD : str (opR ⟨3, p, n, D, m⟩).data = D := str_back D
        rw [hD] at this
        exact this
      have b8 := boxB W7 (.cells #[.int .i64 3, .int .i64 p, .int .i64 n, .string D] 37)
      obtain ⟨v9, w9, r9, o9, g9, gb9⟩ := app_rec (W7.alloc (.cells #[.int .i64 3, .int .i64 p, .int .i64 n, .string D] 37)) mid (.slice a2 L.length c2) L.length (rvals L) (rw_below hO7.log b8) (some ⟨W7.heap.size, 0, none⟩) 1 [opR ⟨3, p, n, D, m⟩] hRs (by show L.length + 1 ≤ 10000; omega) (by have := hO7.mh; have := b8.size; omega)
      obtain ⟨a9, c9, rfl⟩ := rw_form o9
      have hmid : w.heap.size + 3 ≤ mid := by have := hO7.lm; omega
      have g9b := below_of_grown (lo := mid) g9 (by have := hO7.mh; have := b8.size; omega) (fun j hj => (hO7.log.lt j hj).1)
      have hK9 := (hK7.on b8).step (g9b.mono hmid)
      have hne9 : ∀ g, (Value.slice a2 L.length c2).ownBlock = some g → g ≠ w4.heap.size := fun g hg => by have := HLD.out g hg; omega
      have hX9 := (g9.block w4.heap.size (by have := b8.size; omega) (fun e9 => hne9 _ e9.symm rfl)).trans ((b8.block w4.heap.size (by omega)).trans hX7)
      have hl1 : (L ++ [opR ⟨3, p, n, D, m⟩]).length = L.length + 1 := by rw [List.length_append]; rfl
      have hO9 : OV w3.heap.size mid a1 c1 B a9 c9 (L ++ [opR ⟨3, p, n, D, m⟩]) w9 := by
        refine ⟨hO7.lm, by have := hO7.mh; have := b8.size; have := g9.size; omega, rw_keep (rw_below hO7.base b8) (fun g hg => g9.block g (by have := (rw_below hO7.base b8).lt g hg; exact this.2) (fun e9 => ?_)), hO7.low, ?_⟩
        · have h8 := hO7.low g hg
          have h9 := (hO7.log.lt g e9.symm).1
          omega
        · rw [hl1, rvals_snoc]; exact o9
      have hlg : ∀ g, (Value.slice a9 (L ++ [opR ⟨3, p, n, D, m⟩]).length c9).ownBlock = some g → g ≠ w4.heap.size := fun g hg => by
        rw [hl1] at hg
        rcases gb9 with h8 | h8
        · exact hne9 g (by rw [← h8]; exact hg)
        · have h7 : (Value.slice a9 (L.length + 1) c9).ownBlock = some g := hg
          have h6 := h8.symm.trans h7
          injection h6 with h6
          have h5 : (W7.alloc (.cells #[.int .i64 3, .int .i64 p, .int .i64 n, .string D] 37)).heap.size = W7.heap.size + 1 := heap_size _ _
          omega
      have hO10 := hO9.apart w4.heap.size 2 (.slice a9 (L.length + 1) c9) (fun g hg => by have := HBD.out g hg; omega) hlg
      have hK10 := hK9.step (setB (Below.refl (w.heap.size + 3) w9) w4.heap.size 2 hX3 (.slice a9 (L.length + 1) c9))
      have d0 : w9.cell? ⟨w4.heap.size, 0, none⟩ = some (.slice a1 B.length c1) := box_cell hX9 0
      have g0 : w9.frozen? ⟨w4.heap.size, 0, none⟩ = false := box_free hX9 0
      have d1 : w9.cell? ⟨w4.heap.size, 1, none⟩ = some (.int .i64 F) := box_cell hX9 1
      have g1 : w9.frozen? ⟨w4.heap.size, 1, none⟩ = false := box_free hX9 1
      have d2 : w9.cell? ⟨w4.heap.size, 2, none⟩ = some (.slice a2 L.length c2) := box_cell hX9 2
      have g2 : w9.frozen? ⟨w4.heap.size, 2, none⟩ = false := box_free hX9 2
      have d3 : w9.cell? ⟨w4.heap.size, 3, none⟩ = some (.int .i64 s) := box_cell hX9 3
      have g3 : w9.frozen? ⟨w4.heap.size, 3, none⟩ = false := box_free hX9 3
      have dd2 : W7.cell? ⟨w4.heap.size, 2, none⟩ = some (.slice a2 L.length c2) := box_cell hX7 2
      have rr0 : W7.cell? ⟨w6.heap.size, 0, none⟩ = some (.int .i64 3) := box_cell hR7 0
      have rr1 : W7.cell? ⟨w6.heap.size, 1, none⟩ = some (.int .i64 p) := box_cell hR7 1
      have rr2 : W7.cell? ⟨w6.heap.size, 2, none⟩ = some (.int .i64 n) := box_cell hR7 2
      have rr3 : W7.cell? ⟨w6.heap.size, 3, none⟩ = some (.string D) := box_cell hR7 3
      have hKr := hK10.fill (.slice a1 B.length c1) (.int .i64 F) (.slice a9 (L.length + 1) c9) (.int .i64 s)
      have er0 : (((((w9.setCell ⟨w4.heap.size, 2, none⟩ (.slice a9 (L.length + 1) c9)).setCell ⟨w.heap.size + 1 + 1, 0, none⟩ (.slice a1 B.length c1)).setCell ⟨w.heap.size + 1 + 1, 1, none⟩ (.int .i64 F)).setCell ⟨w.heap.size + 1 + 1, 2, none⟩ (.slice a9 (L.length + 1) c9)).setCell ⟨w.heap.size + 1 + 1, 3, none⟩ (.int .i64 s)).cell? ⟨w.heap.size + 1 + 1, 0, none⟩ = some (.slice a1 B.length c1) := box_cell hKr.z 0
      have er1 : (((((w9.setCell ⟨w4.heap.size, 2, none⟩ (.slice a9 (L.length + 1) c9)).setCell ⟨w.heap.size + 1 + 1, 0, none⟩ (.slice a1 B.length c1)).setCell ⟨w.heap.size + 1 + 1, 1, none⟩ (.int .i64 F)).setCell ⟨w.heap.size + 1 + 1, 2, none⟩ (.slice a9 (L.length + 1) c9)).setCell ⟨w.heap.size + 1 + 1, 3, none⟩ (.int .i64 s)).cell? ⟨w.heap.size + 1 + 1, 1, none⟩ = some (.int .i64 F) := box_cell hKr.z 1
      have er2 : (((((w9.setCell ⟨w4.heap.size, 2, none⟩ (.slice a9 (L.length + 1) c9)).setCell ⟨w.heap.size + 1 + 1, 0, none⟩ (.slice a1 B.length c1)).setCell ⟨w.heap.size + 1 + 1, 1, none⟩ (.int .i64 F)).setCell ⟨w.heap.size + 1 + 1, 2, none⟩ (.slice a9 (L.length + 1) c9)).setCell ⟨w.heap.size + 1 + 1, 3, none⟩ (.int .i64 s)).cell? ⟨w.heap.size + 1 + 1, 2, none⟩ = some (.slice a9 (L.length + 1) c9) := box_cell hKr.z 2
      have er3 : (((((w9.setCell ⟨w4.heap.size, 2, none⟩ (.slice a9 (L.length + 1) c9)).setCell ⟨w.heap.size + 1 + 1, 0, none⟩ (.slice a1 B.length c1)).setCell ⟨w.heap.size + 1 + 1, 1, none⟩ (.int .i64 F)).setCell ⟨w.heap.size + 1 + 1, 2, none⟩ (.slice a9 (L.length + 1) c9)).setCell ⟨w.heap.size + 1 + 1, 3, none⟩ (.int .i64 s)).cell? ⟨w.heap.size + 1 + 1, 3, none⟩ = some (.int .i64 s) := box_cell hKr.z 3
      have HBr := hid hKr.below
      have hOr := (((hO10.set (w.heap.size + 1 + 1) 0 (.slice a1 B.length c1) (by omega)).set (w.heap.size + 1 + 1) 1 (.int .i64 F) (by omega)).set (w.heap.size + 1 + 1) 2 (.slice a9 (L.length + 1) c9) (by omega)).set (w.heap.size + 1 + 1) 3 (.int .i64 s) (by omega)
      have HOr := hid (hOr.lower (show w.heap.size ≤ w3.heap.size by omega)).own
      have HDO : Hid (∀ e w', (∃ aB' kB' aL' kL', e = .returned (.tuple #[.agg #[.slice aB' B.length kB', .int .i64 F, .slice aL' (L.length + 1) kL', .int .i64 s], .bool true]) ∧ OwnV w.heap.size w'.heap.size aB' B aL' (L ++ [opR ⟨3, p, n, D, m⟩]) w' ∧ Below w.heap.size w w') → DOut (doV B F L s ⟨3, p, n, D, m⟩) w e w') := fun e w' h => by
        rw [HEQ.out]
        obtain ⟨x1, x2, x3, x4, h1, h2, h3⟩ := h
        exact ⟨x1, x2, x3, x4, by rw [h1, hl1], h2, h3⟩
      obtain ⟨⟨z0, z1, z2, z3⟩, f0, f1, f2, f3⟩ := hK9.cells
      obtain ⟨y0, y1, y2, y3⟩ := hK7.vol
      clear hKr hOr hK10 hO10 hO9 hlg o9 g9 gb9 g9b hK9 hX9 hne9 hRs b8 hO7 hK7 hX7 hR7 hz7 hl1 hr h40
      go_wp2_with (at_builtin; refine wpList_append_run rfl (.tmp 58) (.tmp 60) 26 rfl _ _ rfl rfl _ _ r9 ?_)
      generalize (((((w9.setCell ⟨w4.heap.size, 2, none⟩ (.slice a9 (L.length + 1) c9)).setCell ⟨w.heap.size + 1 + 1, 0, none⟩ (.slice a1 B.length c1)).setCell ⟨w.heap.size + 1 + 1, 1, none⟩ (.int .i64 F)).setCell ⟨w.heap.size + 1 + 1, 2, none⟩ (.slice a9 (L.length + 1) c9)).setCell ⟨w.heap.size + 1 + 1, 3, none⟩ (.int .i64 s)) = XX at *
      refine bodyPost_ret (v := .tuple #[.agg #[.slice a1 B.length c1, .int .i64 F, .slice a9 (L.length + 1) c9, .int .i64 s], .bool true]) (by simp [results, Try.results16, go_sem, er0, er1, er2, er3]) rfl ?_
      exact HDO.out _ _ ⟨_, _, _, _, rfl, HOr.out, HBr.out⟩
  · have e1 : (p == mk + 1) = false := beq_eq_false_iff_ne.2 hp
    have e2 : decide (p = mk + 1) = false := decide_eq_false hp
    go_wp2_with fail
    go_region_held (fun v => v.cell? ⟨w.heap.size + 1, 1, none⟩ = some (.int .i64 p) ∧ v.cell? ⟨w.heap.size, 1, none⟩ = some (.int .i64 F) ∧ v.cell? ⟨w.heap.size, 2, none⟩ = some (.slice aL L.length kL)) (first | exact ⟨by with_reducible assumption, by with_reducible assumption, by with_reducible assumption⟩) (first | (go_at_call 44; refine HMd.out.mono ?_; rintro e wm ⟨rfl, bm⟩; have hKm := HKd.out.on bm; have u0 : wm.cell? ⟨w.heap.size + 1, 1, none⟩ = some (.int .i64 p) := box_cell hKm.o 1; have u1 : wm.cell? ⟨w.heap.size, 1, none⟩ = some (.int .i64 F) := box_cell hKm.x 1; have u2 : wm.cell? ⟨w.heap.size, 2, none⟩ = some (.slice aL L.length kL) := box_cell hKm.x 2))
    all_goals
      have bm5 : Below W5.heap.size W5 wm := ⟨bm.os, bm.tape, bm.output, bm.size, bm.block⟩
      have hXw : w4.heap.size < wm.heap.size := Nat.lt_of_lt_of_le hXDlt bm5.size
      replace hXb := (bm5.block w4.heap.size hXDlt).trans hXb
      replace hOb := hOb.below bm5
      have HKm := hid hKm
      clear bm bm5 hKm u0 u1 u2 t0 t1 t2 x0 x1 x2 x3 o0 o1 o2 o3 o4 hW5
      have HNO : Hid (doV B F L s ⟨3, p, n, D, m⟩ = none) := by
        show doV B F L s ⟨3, p, n, D, m⟩ = none
        rw [doV_rec (o := ⟨3, p, n, D, m⟩) (show (1 : Int) ≤ 3 ∧ (3 : Int) ≤ 3 by omega)]; unfold recDo; rw [if_neg (fun g => hp (by rw [← HMK.out]; exact g.2.2 rfl))]
      clear hp
      have hKz := HKm.out.fill (.slice none 0 0) (.int .i64 0) (.slice none 0 0) (.int .i64 0)
      have ez0 : ((((wm.setCell ⟨w.heap.size + 1 + 1, 0, none⟩ (.slice none 0 0)).setCell ⟨w.heap.size + 1 + 1, 1, none⟩ (.int .i64 0)).setCell ⟨w.heap.size + 1 + 1, 2, none⟩ (.slice none 0 0)).setCell ⟨w.heap.size + 1 + 1, 3, none⟩ (.int .i64 0)).cell? ⟨w.heap.size + 1 + 1, 0, none⟩ = some (.slice none 0 0) := box_cell hKz.z 0
      have ez1 : ((((wm.setCell ⟨w.heap.size + 1 + 1, 0, none⟩ (.slice none 0 0)).setCell ⟨w.heap.size + 1 + 1, 1, none⟩ (.int .i64 0)).setCell ⟨w.heap.size + 1 + 1, 2, none⟩ (.slice none 0 0)).setCell ⟨w.heap.size + 1 + 1, 3, none⟩ (.int .i64 0)).cell? ⟨w.heap.size + 1 + 1, 1, none⟩ = some (.int .i64 0) := box_cell hKz.z 1
      have ez2 : ((((wm.setCell ⟨w.heap.size + 1 + 1, 0, none⟩ (.slice none 0 0)).setCell ⟨w.heap.size + 1 + 1, 1, none⟩ (.int .i64 0)).setCell ⟨w.heap.size + 1 + 1, 2, none⟩ (.slice none 0 0)).setCell ⟨w.heap.size + 1 + 1, 3, none⟩ (.int .i64 0)).cell? ⟨w.heap.size + 1 + 1, 2, none⟩ = some (.slice none 0 0) := box_cell hKz.z 2
      have ez3 : ((((wm.setCell ⟨w.heap.size + 1 + 1, 0, none⟩ (.slice none 0 0)).setCell ⟨w.heap.size + 1 + 1, 1, none⟩ (.int .i64 0)).setCell ⟨w.heap.size + 1 + 1, 2, none⟩ (.slice none 0 0)).setCell ⟨w.heap.size + 1 + 1, 3, none⟩ (.int .i64 0)).cell? ⟨w.heap.size + 1 + 1, 3, none⟩ = some (.int .i64 0) := box_cell hKz.z 3
      have HBz := hid hKz.below
      obtain ⟨⟨z0, z1, z2, z3⟩, f0, f1, f2, f3⟩ := HKm.out.cells
      clear hKz
      go_wp2_with fail
      generalize ((((wm.setCell ⟨w.heap.size + 1 + 1, 0, none⟩ (.slice none 0 0)).setCell ⟨w.heap.size + 1 + 1, 1, none⟩ (.int .i64 0)).setCell ⟨w.heap.size + 1 + 1, 2, none⟩ (.slice none 0 0)).setCell ⟨w.heap.size + 1 + 1, 3, none⟩ (.int .i64 0)) = XX at *
      refine bodyPost_ret (v := .tuple #[.agg #[.slice none 0 0, .int .i64 0, .slice none 0 0, .int .i64 0], .bool false]) (by simp [results, Try.results16, go_sem, ez0, ez1, ez2, ez3]) rfl ?_
      rw [HNO.out]
      exact ⟨rfl, HBz.out⟩
end Go.Proofs.Ytlbhfgcpflhccaa

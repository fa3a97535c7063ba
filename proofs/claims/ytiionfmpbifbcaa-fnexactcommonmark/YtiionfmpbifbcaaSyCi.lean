/- The program's CommonMark. -/
import Derived.Test.YtiionfmpbifbcaaSySc
import Derived.Test.YtiionfmpbifbcaaSyBk
import Derived.Test.YtiionfmpbifbcaaKZ
import Derived.Sort.CutIn
namespace Go.Proofs.Ytiionfmpbifbcaa
set_option maxRecDepth 100000
open Go Go.ChangeShapes Go.WideShapes Go.ChangeAt Go.RowKit Go.Shelf
attribute [local go_sem] Oper.semAt_some
theorem alloc4 (w : World) (a b c d : Obj) : (((((w.alloc a).alloc b).alloc c).alloc d).heap[w.heap.size]? = some a ∧ ((((w.alloc a).alloc b).alloc c).alloc d).heap[w.heap.size + 1]? = some b ∧ ((((w.alloc a).alloc b).alloc c).alloc d).heap[w.heap.size + 1 + 1]? = some c ∧ ((((w.alloc a).alloc b).alloc c).alloc d).heap[w.heap.size + 1 + 1 + 1]? = some d) ∧ ((((w.alloc a).alloc b).alloc c).alloc d).heap.size = w.heap.size + 4 := by
  obtain ⟨⟨h1, h2, h3⟩, hz⟩ := alloc3 w a b c
  have h4 := heap_last (((w.alloc a).alloc b).alloc c) d
  rw [hz] at h4
  have g := boxB (((w.alloc a).alloc b).alloc c) d
  exact ⟨⟨(g.block _ (by omega)).trans h1, (g.block _ (by omega)).trans h2, (g.block _ (by omega)).trans h3, h4⟩, by rw [heap_size, hz]⟩
theorem YsA.monoS {B B' b off : Nat} {A : Nat → LA} {S : List Ly} {w : World} (h : YsA B b off A S w) (hB : B ≤ B') : YsA B' b off A S w := ⟨Nat.lt_of_lt_of_le h.1 hB, fun i hi => by
  obtain ⟨h1, h2, h3, h4, h5⟩ := h.2 i hi
  exact ⟨h1, h2, h3, h4.mono hB, h5.mono hB⟩⟩
theorem boxedBelow {W W' : World} {B : Nat} {t : TypeId} {v : Value} (h : Boxed W B t v) (g : Below W.heap.size W W') : Boxed W' B t v := (g.block B (kboxS h)).trans h
theorem below_othersS {W W' : World} (g : Below W.heap.size W W') : KeepsOthers W W' := ⟨g.size, fun k _ hk _ => (g.block k (Array.getElem?_eq_some_iff.1 hk).1).trans hk⟩
/-- none of these can be told -/
def NoC (A B : List Ly) (pre : List (Fin A.length)) : Prop := ∀ x ∈ pre, comC A B x.1 = false
theorem com_skip (A B : List Ly) : ∀ j, j ≤ A.length → NoC A B (bkT A j) → comI A B A.length = comI A B (A.length - j)
  | 0, _, _ => rfl
  | j + 1, hj, hN => by
    have e := bkT_succ A j (by omega)
    rw [e] at hN
    have h1 := com_skip A B j (by omega) (fun x hx => hN x (List.mem_append_left _ hx))
    have h2 := hN ⟨A.length - 1 - j, by omega⟩ (List.mem_append_right _ (by simp))
    obtain ⟨m, hm⟩ : ∃ m, A.length - j = m + 1 := ⟨A.length - j - 1, by omega⟩
    have hm2 : A.length - 1 - j = m := by omega
    have hm3 : A.length - (j + 1) = m := by omega
    simp only [hm2] at h2
    rw [h1, hm, hm3]
    show (if comC A B m = true then mkAt A m else comI A B m) = _
    rw [h2]
    rfl
theorem com_none {A B : List Ly} (h : NoC A B (bkT A A.length)) : comI A B A.length = -1 := by
  rw [com_skip A B A.length (Nat.le_refl _) h, Nat.sub_self]
  rfl
theorem com_some {A B : List Ly} {k : Nat} (hk : k ≤ A.length) {init : List (Fin A.length)} {x : Fin A.length} (h : bkT A k = init ++ [x]) (hN : NoC A B init) (hx : comC A B x.1 = true) : comI A B A.length = A[x.1].mark := by
  cases k with
  | zero => simp [bkT] at h
  | succ k =>
    rw [bkT_succ A k (by omega)] at h
    obtain ⟨h1, h2⟩ := List.append_inj' h rfl
    have h3 : (⟨A.length - 1 - k, by omega⟩ : Fin A.length) = x := by simpa using h2
    have h4 : A.length - 1 - k = x.1 := by rw [← h3]
    rw [← h1] at hN
    rw [com_skip A B k (by omega) hN]
    have h5 : A.length - k = x.1 + 1 := by omega
    rw [h5]
    show (if comC A B x.1 = true then mkAt A x.1 else comI A B x.1) = _
    rw [if_pos hx, mkAt_at A x.1 x.2]
theorem com_cond {A B : List Ly} (hA : GoodK A) (hB : GoodK B) (k : Nat) (hk : k < A.length) : (saV A B A[k].mark && decide (A[k].mark < if lastM B < lastM A then lastM B else lastM A)) = comC A B k := by
  have ha : A[k].mark < lastM A ↔ k + 1 < A.length := by
    rw [lastM_at (by omega)]
    constructor
    · intro h
      by_cases e : k + 1 < A.length
      · exact e
      · obtain rfl : k = A.length - 1 := by omega
        omega
    · intro h
      exact rise_lt hA.2.2 k (A.length - 1) (by omega) (by omega)
  unfold comC
  rw [mkAt_at A k hk]
  by_cases hf : fndK B A[k].mark < B.length
  · have hbo : BothOk A B A[k].mark := ⟨⟨hA, hB⟩, by rw [fnd_self hA k hk]; exact hk, hf⟩
    have hfm : (B[fndK B A[k].mark]'hf).mark = A[k].mark := by
      have := List.findIdx_getElem (p := fun y : Ly => y.mark == A[k].mark) (xs := B) (w := hf)
      exact eq_of_beq this
    have hb : A[k].mark < lastM B ↔ fndK B A[k].mark + 1 < B.length := by
      rw [lastM_at (by have := hB.1; omega)]
      constructor
      · intro h
        by_cases e : fndK B A[k].mark + 1 < B.length
        · exact e
        · have e2 : fndK B A[k].mark = B.length - 1 := by omega
          have : (B[B.length - 1]'(by omega)).mark = A[k].mark := by
            rw [← hfm]
            congr 1
            simp only [e2]
          omega
      · intro h
        rw [← hfm]
        exact rise_lt hB.2.2 _ (B.length - 1) (by omega) (by omega)
    have e1 : saV A B A[k].mark = sameK A B A[k].mark := if_pos hbo
    rw [e1]
    have e2 : decide (A[k].mark < if lastM B < lastM A then lastM B else lastM A) = (decide (k + 1 < A.length) && decide (fndK B A[k].mark + 1 < B.length)) := by
      rw [← Bool.decide_and]
      apply decide_eq_decide.2
      rw [← ha, ← hb]
      split <;> omega
    rw [e2]
    cases sameK A B A[k].mark <;> cases decide (k + 1 < A.length) <;> cases decide (fndK B A[k].mark + 1 < B.length) <;> rfl
  · have e1 : saV A B A[k].mark = false := if_neg (fun h => hf h.2.2)
    rw [e1, decide_eq_false (show ¬ fndK B A[k].mark + 1 < B.length by omega)]
    cases decide (k + 1 < A.length) <;> rfl
set_option maxHeartbeats 8000000 in
theorem icommon_any (a b : Option Addr) (c d : Nat) (A B : List Ly) (w : World) (hA : Mr a c A w) (hB : Mr b d B w) :
    Calls Try.prog 31 #[.agg #[.slice a A.length c], .agg #[.slice b B.length d]] w fun e w' => e = .returned (.tuple #[.int .i64 (comV A B), .bool (comOk A B)]) ∧ Below w.heap.size w w' := by
  have b0 : Below w.heap.size w ((((w.alloc (.cells #[.slice a A.length c] 30)).alloc (.cells #[.slice b B.length d] 30)).alloc (.cells #[.int .i64 0] 3)).alloc (.cells #[.bool false] 4)) := ((((Below.refl _ w).alloc (Nat.le_refl _) _).alloc (by simp) _).alloc (by simp; omega) _).alloc (by simp; omega) _
  obtain ⟨⟨k0, k1, k2, k3⟩, hz⟩ := alloc4 w (.cells #[.slice a A.length c] 30) (.cells #[.slice b B.length d] 30) (.cells #[.int .i64 0] 3) (.cells #[.bool false] 4)
  generalize hW : (((w.alloc (.cells #[.slice a A.length c] 30)).alloc (.cells #[.slice b B.length d] 30)).alloc (.cells #[.int .i64 0] 3)).alloc (.cells #[.bool false] 4) = W at *
  have HX : Hid (∀ v, Below W.heap.size W v → v.cell? ⟨w.heap.size, 0, none⟩ = some (.slice a A.length c) ∧ v.cell? ⟨w.heap.size + 1, 0, none⟩ = some (.slice b B.length d)) := fun v g => ⟨box_cell ((g.block _ (kboxS k0)).trans k0) 0, box_cell ((g.block _ (kboxS k1)).trans k1) 0⟩
  have HU : Hid (∀ v, Below W.heap.size W v → Below w.heap.size w v) := fun v g => b0.trans (g.mono b0.size)
  have HXK : Hid (∀ v, Below W.heap.size W v → v.heap[w.heap.size]? = some (.cells #[.slice a A.length c] 30) ∧ v.heap[w.heap.size + 1]? = some (.cells #[.slice b B.length d] 30) ∧ v.heap[w.heap.size + 1 + 1]? = some (.cells #[.int .i64 0] 3) ∧ v.heap[w.heap.size + 1 + 1 + 1]? = some (.cells #[.bool false] 4)) := fun v g => ⟨(g.block _ (kboxS k0)).trans k0, (g.block _ (kboxS k1)).trans k1, (g.block _ (kboxS k2)).trans k2, (g.block _ (kboxS k3)).trans k3⟩
  have HGD : Hid (∀ v, Below W.heap.size W v → Calls Try.prog 36 #[.agg #[.slice a A.length c], .agg #[.slice b B.length d]] v fun e w' => e = .returned (.bool (goodK A && goodK B)) ∧ Below v.heap.size v w') := fun v g => areGood_any a b c d A B v (hA.on (HU.out v g)) (hB.on (HU.out v g))
  have B0 : Hid (Below W.heap.size W W) := Below.refl _ _
  obtain ⟨x0, x1⟩ := HX.out _ B0.out
  have HE : Hid (comOk A B = ((goodK A && goodK B) && !decide (comI A B A.length < 0)) ∧ comV A B = if comOk A B = true then comI A B A.length else 0) := ⟨rfl, rfl⟩
  obtain ⟨o, ho⟩ : ∃ o, comOk A B = o := ⟨_, rfl⟩
  obtain ⟨u, hu⟩ : ∃ u, comV A B = u := ⟨_, rfl⟩
  rw [ho, hu] at HE
  rw [ho, hu]
  clear ho hu
  have HA0 := hid hA
  have HB0 := hid hB
  have HK2 := hid k2
  have HK3 := hid k3
  have HZ := hid hz
  clear k0 k1 k2 k3 hz b0 hA hB
  refine (callsIn_wide (n := 6)).1 ?_
  have hro : Fence.wide.round = none := rfl
  refine callsIn_of_wp_marks Try.func31 rfl trivial ?_ hro
  simp only [Try.ntmps31, List.size_toArray, List.length_cons, List.length_nil, Nat.reduceAdd, Nat.reduceSub, Array.replicate_succ, Array.replicate_zero, List.push_toArray, List.append_toArray, List.nil_append, List.cons_append]
  have hF1 : Fence.wide.fn 36 := trivial
  have hF2 : Fence.wide.fn 56 := trivial
  have hF3 : Fence.wide.fn 57 := trivial
  have hF4 : Fence.wide.fn 12 := trivial
  have hmix : Try.prog.follows .mixedOrders = true := by kernel_rfl
  gi_wp2_with fail
  refine (callsIn_wide.2 (HGD.out _ B0.out)).mono ?_
  rintro e w5 ⟨rfl, g5⟩
  clear hW x0 x1
  have B5 : Hid (Below W.heap.size W w5) := B0.out.trans (g5.mono B0.out.size)
  have K2 : Hid (w5.heap[w.heap.size + 1 + 1]? = some (.cells #[.int .i64 0] 3 (0, 0))) := (g5.block _ (kboxS HK2.out)).trans HK2.out
  have K3 : Hid (w5.heap[w.heap.size + 1 + 1 + 1]? = some (.cells #[.bool false] 4 (0, 0))) := (g5.block _ (kboxS HK3.out)).trans HK3.out
  obtain ⟨x0, x1⟩ := HX.out _ B5.out
  clear g5 HGD HK2 HK3
  generalize hgg : (goodK A && goodK B) = gg at *
  cases gg
  · have E1 : Hid (o = false ∧ u = 0) := by
      have e1 : o = false := by rw [HE.out.1]; rfl
      exact ⟨e1, by rw [HE.out.2, e1]; rfl⟩
    have c2 := box_cell K2.out 0
    have c3 := box_cell K3.out 0
    have f2 := box_free K2.out 0
    have f3 := box_free K3.out 0
    have q2 : ((w5.setCell ⟨w.heap.size + 1 + 1, 0, none⟩ (.int .i64 0)).setCell ⟨w.heap.size + 1 + 1 + 1, 0, none⟩ (.bool false)).heap[w.heap.size + 1 + 1]? = some (.cells #[.int .i64 0] 3 (0, 0)) := (keepB _ _ _ _ _ (by omega)).trans (box_set K2.out 0 (.int .i64 0))
    have q3 : ((w5.setCell ⟨w.heap.size + 1 + 1, 0, none⟩ (.int .i64 0)).setCell ⟨w.heap.size + 1 + 1 + 1, 0, none⟩ (.bool false)).heap[w.heap.size + 1 + 1 + 1]? = some (.cells #[.bool false] 4 (0, 0)) := box_set ((keepB _ _ _ _ _ (by omega)).trans K3.out) 0 (.bool false)
    have e2 := box_cell q2 0
    have e3 := box_cell q3 0
    have HBF : Hid (Below w.heap.size w ((w5.setCell ⟨w.heap.size + 1 + 1, 0, none⟩ (.int .i64 0)).setCell ⟨w.heap.size + 1 + 1 + 1, 0, none⟩ (.bool false))) := setB (setB (HU.out _ B5.out) _ _ (by omega) _) _ _ (by omega) _
    have c3' : (w5.setCell ⟨w.heap.size + 1 + 1, 0, none⟩ (.int .i64 0)).cell? ⟨w.heap.size + 1 + 1 + 1, 0, none⟩ = some (.bool false) := box_cell ((keepB _ _ _ _ _ (by omega)).trans K3.out) 0
    have f3' : (w5.setCell ⟨w.heap.size + 1 + 1, 0, none⟩ (.int .i64 0)).frozen? ⟨w.heap.size + 1 + 1 + 1, 0, none⟩ = false := box_free ((keepB _ _ _ _ _ (by omega)).trans K3.out) 0
    clear q2 q3 hgg
    gi_wp2
    generalize ((w5.setCell ⟨w.heap.size + 1 + 1, 0, none⟩ (.int .i64 0)).setCell ⟨w.heap.size + 1 + 1 + 1, 0, none⟩ (.bool false)) = W9 at *
    exact ⟨_, by simp [results, Try.results31, go_sem, e2, e3]; rfl, by rw [E1.out.1, E1.out.2], HBF.out⟩
  have HGG : Hid (GoodK A ∧ GoodK B) := by
    rw [Bool.and_eq_true] at hgg
    exact ⟨goodK_iff.1 hgg.1, goodK_iff.1 hgg.2⟩
  clear hgg
  obtain ⟨la, hla⟩ : ∃ la, lastM A = la := ⟨_, rfl⟩
  obtain ⟨lb, hlb⟩ : ∃ lb, lastM B = lb := ⟨_, rfl⟩
  have HL1 : Hid (∀ v, Below W.heap.size W v → Calls Try.prog 56 #[.agg #[.slice a A.length c]] v fun e w' => e = .returned (.int .i64 la) ∧ Below v.heap.size v w') := fun v g => by
    have := lastMark_any a c A v (by have := HGG.out.1.1; omega) (by have := HGG.out.1.2.1; omega) (HA0.out.on (HU.out v g)).ys
    rwa [hla] at this
  have HL2 : Hid (∀ v, Below W.heap.size W v → Calls Try.prog 56 #[.agg #[.slice b B.length d]] v fun e w' => e = .returned (.int .i64 lb) ∧ Below v.heap.size v w') := fun v g => by
    have := lastMark_any b d B v (by have := HGG.out.2.1; omega) (by have := HGG.out.2.2.1; omega) (HB0.out.on (HU.out v g)).ys
    rwa [hlb] at this
  have HLA := hid hla
  have HLB := hid hlb
  clear hla hlb
  obtain ⟨mn, hmn⟩ : ∃ mn, (if lb < la then lb else la) = mn := ⟨_, rfl⟩
  have HMN := hid hmn
  gi_upto_region 3 with fail
  refine wpIn_mono (Q := fun e a' W' => e = .normal ∧ ∃ U, Below W.heap.size W W' ∧ w5.heap.size ≤ U ∧ W'.heap[U]? = some (.cells #[.int .i64 mn] 3 (0, 0)) ∧ a' = { tmps := #[.agg #[.slice a A.length c], .agg #[.slice b B.length d], .pointer (some ⟨w.heap.size, 0, none⟩), .pointer (some ⟨w.heap.size + 1, 0, none⟩), .pointer (some ⟨w.heap.size + 1 + 1, 0, none⟩), .pointer (some ⟨w.heap.size + 1 + 1 + 1, 0, none⟩), .pointer (some ⟨U, 0, none⟩), undef, undef, undef, undef, .agg #[.slice a A.length c], .agg #[.slice b B.length d], .bool true, .bool false, .agg #[.slice a A.length c], .int .i64 la, .agg #[.slice b B.length d], .int .i64 lb, .int .i64 mn, undef, undef, undef, undef, undef, undef, undef, undef, undef, undef, undef, undef, undef, undef, undef, undef, undef, undef, undef, undef, undef, undef], defers := [] }) ?_ ?_
  · refine wpIn_wide.2 ?_
    have BD : Hid (Below W.heap.size W w5.drew) := B5.out.drew
    have hT0 := HX.out _ BD.out
    have hsd : w5.heap.size = w5.drew.heap.size := rfl
    clear x0 x1 HE K2 K3
    refine wp_region_L (fun v : World => v.cell? ⟨w.heap.size, 0, none⟩ = some (.slice a A.length c) ∧ v.cell? ⟨w.heap.size + 1, 0, none⟩ = some (.slice b B.length d)) 6 (by kernel_rfl) ?_
    generalize w5.drew = Wd at *
    rw [hsd]
    have hHeld := hT0
    refine wpAnyL_take (i := 0) (v := .agg #[.slice a A.length c]) (C := [0, 1, 3, 4, 6]) rfl (by kernel_rfl) (fun _ _ _ h => nomatch h.1) (Or.inl ⟨by rfl, fun u hu => by obtain ⟨h1, h2⟩ := hu; go_simp⟩) hHeld ?_
    dsimp only [Act.put]
    refine wpAnyL_take (i := 2) (v := .agg #[.slice b B.length d]) (C := [2, 3, 4, 6]) rfl (by kernel_rfl) (fun _ _ _ h => nomatch h.1) (Or.inl ⟨by rfl, fun u hu => by obtain ⟨h1, h2⟩ := hu; go_simp⟩) hHeld ?_
    dsimp only [Act.put]
    refine wpAnyL_two (i := 1) (j := 5) (by kernel_rfl) rfl rfl (fun K hK => ?_) (fun K hK => ?_)
    · skip
      rw [if_pos (by rfl)]
      go_simp
      go_wp2_with (go_at_call 56; refine (HL1.out _ BD.out).mono ?_; rintro e v1 ⟨rfl, g1⟩)
      have B_1 : Hid (Below W.heap.size W v1) := BD.out.trans (g1.mono BD.out.size)
      have s_1 := g1.size
      have hT_1 := HX.out _ B_1.out
      refine hK.out _ _ (fun _ => hT_1) ?_
      clear hK K hHeld
      have hHeld := hT_1
      try dsimp only [Act.put]
      refine wpAnyL_two (i := 3) (j := 5) (by kernel_rfl) rfl rfl (fun K hK => ?_) (fun K hK => ?_)
      · skip
        rw [if_pos (by rfl)]
        go_simp
        go_wp2_with (go_at_call 56; refine (HL2.out _ B_1.out).mono ?_; rintro e v2 ⟨rfl, g2⟩)
        have B_2 : Hid (Below W.heap.size W v2) := B_1.out.trans (g2.mono B_1.out.size)
        have s_2 := g2.size
        have hT_2 := HX.out _ B_2.out
        refine hK.out _ _ (fun _ => hT_2) ?_
        clear hK K hHeld
        have hHeld := hT_2
        try dsimp only [Act.put]
        refine wpAnyL_take (i := 4) (v := .int .i64 mn) (C := [4, 6]) rfl (by kernel_rfl) (fun _ _ _ h => nomatch h.1) (Or.inl ⟨by rfl, fun _ _ => by go_simp⟩) hHeld ?_
        dsimp only [Act.put]
        refine wpAnyL_one (i := 5) (by kernel_rfl) rfl (fun K hK => ?_)
        have gA3 := boxB v2 (.cells #[.int .i64 0] 3)
        have B_3 : Hid (Below W.heap.size W (v2.alloc (.cells #[.int .i64 0] 3))) := B_2.out.trans (gA3.mono B_2.out.size)
        have HX_3 := heap_last v2 (.cells #[.int .i64 0] 3)
        have s_3 : (v2.alloc (.cells #[.int .i64 0] 3)).heap.size = v2.heap.size + 1 := heap_size _ _
        have hT_3 := HX.out _ B_3.out
        rw [if_pos (by rfl)]
        go_simp
        refine hK.out _ _ (fun _ => hT_3) ?_
        clear hK K hHeld
        have hHeld := hT_3
        clear gA3
        generalize v2.alloc (.cells #[.int .i64 0] 3) = v3 at *
        try dsimp only [Act.put]
        have z9 := box_cell HX_3 0
        have f9 := box_free HX_3 0
        have q9 := box_set HX_3 0 (.int .i64 mn)
        have HBF : Below W.heap.size W (v3.setCell ⟨v2.heap.size, 0, none⟩ (.int .i64 mn)) := setB B_3.out (v2.heap.size) 0 (by have := BD.out.size; omega) _
        refine wpAnyL_one (i := 6) (by kernel_rfl) rfl (fun K hK => ?_)
        rw [if_pos (by rfl)]
        go_simp
        refine hK.out _ _ (fun h => absurd rfl h) ?_
        clear hK K hHeld
        refine wpAnyL_done (by kernel_rfl) ?_
        first | exact ⟨rfl, _, HBF, by omega, q9, rfl⟩ | exact ⟨rfl, HBF, _, by omega, q9, rfl⟩
      · skip
        have gA2 := boxB v1 (.cells #[.int .i64 0] 3)
        have B_2 : Hid (Below W.heap.size W (v1.alloc (.cells #[.int .i64 0] 3))) := B_1.out.trans (gA2.mono B_1.out.size)
        have HX_2 := heap_last v1 (.cells #[.int .i64 0] 3)
        have s_2 : (v1.alloc (.cells #[.int .i64 0] 3)).heap.size = v1.heap.size + 1 := heap_size _ _
        have hT_2 := HX.out _ B_2.out
        rw [if_pos (by rfl)]
        go_simp
        refine hK.out _ _ (fun _ => hT_2) ?_
        clear hK K hHeld
        have hHeld := hT_2
        clear gA2
        generalize v1.alloc (.cells #[.int .i64 0] 3) = v2 at *
        try dsimp only [Act.put]
        refine wpAnyL_one (i := 3) (by kernel_rfl) rfl (fun K hK => ?_)
        rw [if_pos (by rfl)]
        go_simp
        go_wp2_with (go_at_call 56; refine (HL2.out _ B_2.out).mono ?_; rintro e v3 ⟨rfl, g3⟩)
        have B_3 : Hid (Below W.heap.size W v3) := B_2.out.trans (g3.mono B_2.out.size)
        have s_3 := g3.size
        have HX_3 := (g3.block _ (kboxS HX_2)).trans HX_2
        have hT_3 := HX.out _ B_3.out
        refine hK.out _ _ (fun _ => hT_3) ?_
        clear hK K hHeld
        have hHeld := hT_3
        try dsimp only [Act.put]
        refine wpAnyL_take (i := 4) (v := .int .i64 mn) (C := [4, 6]) rfl (by kernel_rfl) (fun _ _ _ h => nomatch h.1) (Or.inl ⟨by rfl, fun _ _ => by go_simp⟩) hHeld ?_
        dsimp only [Act.put]
        have z9 := box_cell HX_3 0
        have f9 := box_free HX_3 0
        have q9 := box_set HX_3 0 (.int .i64 mn)
        have HBF : Below W.heap.size W (v3.setCell ⟨v1.heap.size, 0, none⟩ (.int .i64 mn)) := setB B_3.out (v1.heap.size) 0 (by have := BD.out.size; omega) _
        refine wpAnyL_one (i := 6) (by kernel_rfl) rfl (fun K hK => ?_)
        rw [if_pos (by rfl)]
        go_simp
        refine hK.out _ _ (fun h => absurd rfl h) ?_
        clear hK K hHeld
        refine wpAnyL_done (by kernel_rfl) ?_
        first | exact ⟨rfl, _, HBF, by omega, q9, rfl⟩ | exact ⟨rfl, HBF, _, by omega, q9, rfl⟩
    · skip
      have gA1 := boxB Wd (.cells #[.int .i64 0] 3)
      have B_1 : Hid (Below W.heap.size W (Wd.alloc (.cells #[.int .i64 0] 3))) := BD.out.trans (gA1.mono BD.out.size)
      have HX_1 := heap_last Wd (.cells #[.int .i64 0] 3)
      have s_1 : (Wd.alloc (.cells #[.int .i64 0] 3)).heap.size = Wd.heap.size + 1 := heap_size _ _
      have hT_1 := HX.out _ B_1.out
      rw [if_pos (by rfl)]
      go_simp
      refine hK.out _ _ (fun _ => hT_1) ?_
      clear hK K hHeld
      have hHeld := hT_1
      clear gA1
      generalize Wd.alloc (.cells #[.int .i64 0] 3) = v1 at *
      try dsimp only [Act.put]
      refine wpAnyL_one (i := 1) (by kernel_rfl) rfl (fun K hK => ?_)
      rw [if_pos (by rfl)]
      go_simp
      go_wp2_with (go_at_call 56; refine (HL1.out _ B_1.out).mono ?_; rintro e v2 ⟨rfl, g2⟩)
      have B_2 : Hid (Below W.heap.size W v2) := B_1.out.trans (g2.mono B_1.out.size)
      have s_2 := g2.size
      have HX_2 := (g2.block _ (kboxS HX_1)).trans HX_1
      have hT_2 := HX.out _ B_2.out
      refine hK.out _ _ (fun _ => hT_2) ?_
      clear hK K hHeld
      have hHeld := hT_2
      try dsimp only [Act.put]
      refine wpAnyL_one (i := 3) (by kernel_rfl) rfl (fun K hK => ?_)
      rw [if_pos (by rfl)]
      go_simp
      go_wp2_with (go_at_call 56; refine (HL2.out _ B_2.out).mono ?_; rintro e v3 ⟨rfl, g3⟩)
      have B_3 : Hid (Below W.heap.size W v3) := B_2.out.trans (g3.mono B_2.out.size)
      have s_3 := g3.size
      have HX_3 := (g3.block _ (kboxS HX_2)).trans HX_2
      have hT_3 := HX.out _ B_3.out
      refine hK.out _ _ (fun _ => hT_3) ?_
      clear hK K hHeld
      have hHeld := hT_3
      try dsimp only [Act.put]
      refine wpAnyL_take (i := 4) (v := .int .i64 mn) (C := [4, 6]) rfl (by kernel_rfl) (fun _ _ _ h => nomatch h.1) (Or.inl ⟨by rfl, fun _ _ => by go_simp⟩) hHeld ?_
      dsimp only [Act.put]
      have z9 := box_cell HX_3 0
      have f9 := box_free HX_3 0
      have q9 := box_set HX_3 0 (.int .i64 mn)
      have HBF : Below W.heap.size W (v3.setCell ⟨Wd.heap.size, 0, none⟩ (.int .i64 mn)) := setB B_3.out (Wd.heap.size) 0 (by have := BD.out.size; omega) _
      refine wpAnyL_one (i := 6) (by kernel_rfl) rfl (fun K hK => ?_)
      rw [if_pos (by rfl)]
      go_simp
      refine hK.out _ _ (fun h => absurd rfl h) ?_
      clear hK K hHeld
      refine wpAnyL_done (by kernel_rfl) ?_
      first | exact ⟨rfl, _, HBF, by omega, q9, rfl⟩ | exact ⟨rfl, HBF, _, by omega, q9, rfl⟩
  rintro e a6 w6 ⟨rfl, U, g6, hU5, hbU, rfl⟩
  have B6 := hid g6
  have HBU := hid hbU
  clear g6 hbU x0 x1 K2 K3
  obtain ⟨x0, x1⟩ := HX.out _ B6.out
  gi_wp2_with fail
  refine (callsIn_wide.2 (backL_any _ _ _ w6)).mono ?_
  rintro e w7 ⟨rfl, hw7⟩
  gi_wp2_with fail
  obtain ⟨ba, oa, LA0, rfl, hYA⟩ := HA0.out.ys.pick (by have := HGG.out.1.1; omega)
  have g7 : Below w6.heap.size w6 w7 := by rw [hw7]; exact boxB _ _
  have hs7 : w7.heap.size = w6.heap.size + 1 := by rw [hw7]; exact heap_size _ _
  have B7 : Hid (Below W.heap.size W w7) := B6.out.trans (g7.mono B6.out.size)
  have bS : Boxed w7 w6.heap.size 28 (.slice (some ⟨ba, oa, none⟩) A.length c) := by rw [hw7]; exact World.alloc_heap_new w6 _
  obtain ⟨bA, bB, bC, bD⟩ := HXK.out w7 B7.out
  have bU : Boxed w7 U 3 (.int .i64 mn) := (g7.block U (kboxS HBU.out)).trans HBU.out
  have hW4 := HZ.out
  have hW7 := B7.out.size
  have hW5 := B5.out.size
  have hU7 := kboxS HBU.out
  have hBw7 := HU.out _ B7.out
  have hlA : A.length ≤ 1048576 := by have := HGG.out.1.2.1; omega
  have HY7 : Hid (YsA w7.heap.size ba oa LA0 A w7) := (hYA.below hBw7).monoS hBw7.size
  have HCND : Hid (∀ k (hk : k < A.length), (saV A B A[k].mark && decide (A[k].mark < mn)) = comC A B k) := fun k hk => by
    have := com_cond HGG.out.1 HGG.out.2 k hk
    rw [HLA.out, HLB.out, HMN.out] at this
    exact this
  have HPOS : Hid (∀ k (hk : k < A.length), 0 ≤ A[k].mark) := fun k hk => (HGG.out.1.2.2 k hk).2.1
  have HSA : Hid (∀ v (m : Int), Below w.heap.size w v → Calls Try.prog 12 #[.agg #[.slice (some ⟨ba, oa, none⟩) A.length c], .agg #[.slice b B.length d], .int .i64 m] v fun e w' => e = .returned (.tuple #[.bool (saV A B m), .bool (decide (BothOk A B m))]) ∧ Below v.heap.size v w') := fun v m g => isame_any (some ⟨ba, oa, none⟩) b c d A B m v (HA0.out.on g) (HB0.out.on g)
  have HOU : Hid (o = !decide (comI A B A.length < 0) ∧ u = if o = true then comI A B A.length else 0) := ⟨by rw [HE.out.1]; rfl, HE.out.2⟩
  rw [← hw7]
  clear hw7 x0 x1 g7 hYA HXK HX HL1 HL2 HE HMN HLA HLB
  refine wpIn_rangeFunc_ownH hro (by omega) (gf := 77) (lb := #[.pointer (some ⟨w6.heap.size, 0, none⟩)]) rfl trivial (enters_of Try.func77 (by kernel_rfl) rfl) (back_stops Fence.wide (6 - 1) trivial hro (by omega) w6.heap.size w7.heap.size ba oa c LA0 A w7 hlA (by omega) (Nat.le_refl _) bS.cell HY7.out) belowK_t (belowK_b (Nat.le_refl _)) (Below.refl _ _) (fun _ => rfl)
    (fun pre W => NoC A B pre ∧ Boxed W w.heap.size 30 (.slice (some ⟨ba, oa, none⟩) A.length c) ∧ Boxed W (w.heap.size + 1) 30 (.slice b B.length d) ∧ (∃ u, Boxed W (w.heap.size + 1 + 1) 3 u) ∧ (∃ u, Boxed W (w.heap.size + 1 + 1 + 1) 4 u) ∧ Boxed W U 3 (.int .i64 mn) ∧ Boxed W w6.heap.size 28 (.slice (some ⟨ba, oa, none⟩) A.length c) ∧ Below w.heap.size w W)
    (fun c pre W => c = .ret ∧ (∃ init x, pre = init ++ [x] ∧ NoC A B init ∧ comC A B x.1 = true ∧ Boxed W (w.heap.size + 1 + 1) 3 (.int .i64 A[x.1].mark) ∧ Boxed W (w.heap.size + 1 + 1 + 1) 4 (.bool true)) ∧ Below w.heap.size w W) ?hI ?hIx ?h0
    (fun k a' W => ∃ Bx, w6.heap.size < Bx ∧ W.heap[Bx]? = some (.cells #[.int .i64 A[k.1].mark, .slice (LA0 k.1).p A[k.1].bl.length (LA0 k.1).c, .slice (LA0 k.1).q A[k.1].dt.length (LA0 k.1).d] 79 (0, 0)) ∧ a' = { tmps := #[.agg #[.slice (some ⟨ba, oa, none⟩) A.length c], .agg #[.slice b B.length d], .pointer (some ⟨w.heap.size, 0, none⟩), .pointer (some ⟨w.heap.size + 1, 0, none⟩), .pointer (some ⟨w.heap.size + 1 + 1, 0, none⟩), .pointer (some ⟨w.heap.size + 1 + 1 + 1, 0, none⟩), .pointer (some ⟨U, 0, none⟩), undef, .pointer (some ⟨Bx, 0, none⟩), undef, undef, .agg #[.slice (some ⟨ba, oa, none⟩) A.length c], .agg #[.slice b B.length d], .bool true, .bool false, .agg #[.slice (some ⟨ba, oa, none⟩) A.length c], .int .i64 la, .agg #[.slice b B.length d], .int .i64 lb, .int .i64 mn, .pointer (some ⟨w.heap.size, 0, none⟩), .slice (some ⟨ba, oa, none⟩) A.length c, .func (.func 77) #[] #[.pointer (some ⟨w6.heap.size, 0, none⟩)], .int .i64 (k.1 : Int), .agg #[.int .i64 A[k.1].mark, .slice (LA0 k.1).p A[k.1].bl.length (LA0 k.1).c, .slice (LA0 k.1).q A[k.1].dt.length (LA0 k.1).d], undef, undef, undef, undef, undef, undef, undef, undef, undef, undef, undef, undef, undef, undef, undef, undef, undef], defers := [] })
    ?hAx ?assign ?body ?done ?stop
  case hI =>
    intro pre X Y row hs hg hr
    obtain ⟨h1, h2, h3, ⟨u4, h4⟩, ⟨u5, h5⟩, h6, h7, h8⟩ := hs
    have hne : ∀ {B' t v}, Boxed X B' t v → Boxed Y B' t v := fun hb => hb.kept hg (fun e => by obtain ⟨o, g1, g2⟩ := (hr _ e.symm).2; rw [show X.heap[_]? = _ from hb] at g1; cases g1; cases g2)
    exact ⟨h1, hne h2, hne h3, ⟨u4, hne h4⟩, ⟨u5, hne h5⟩, hne h6, hne h7, h8.grown hg (by have := h8.size; omega) (fun k e => by have := (hr _ e).1; omega)⟩
  case hIx =>
    intro c pre X Y row hs hg hr
    obtain ⟨h1, ⟨init, x, h2, h3, h4, h5, h6⟩, h7⟩ := hs
    have hne : ∀ {B' t v}, Boxed X B' t v → Boxed Y B' t v := fun hb => hb.kept hg (fun e => by obtain ⟨o, g1, g2⟩ := (hr _ e.symm).2; rw [show X.heap[_]? = _ from hb] at g1; cases g1; cases g2)
    exact ⟨h1, ⟨init, x, h2, h3, h4, hne h5, hne h6⟩, h7.grown hg (by have := h7.size; omega) (fun k e => by have := (hr _ e).1; omega)⟩
  case h0 => exact ⟨fun _ h => absurd h (by simp), bA, bB, ⟨_, bC⟩, ⟨_, bD⟩, bU, bS, hBw7⟩
  case hAx =>
    intro x a' _ X Y row hs hg hr
    obtain ⟨Bx, h1, h2, h3⟩ := hs
    have hlt : Bx < X.heap.size := (Array.getElem?_eq_some_iff.1 h2).1
    exact ⟨Bx, h1, (hg.block Bx hlt (fun e => by obtain ⟨o, g1, g2⟩ := (hr _ e.symm).2; rw [h2] at g1; cases g1; cases g2)).trans h2, h3⟩
  case assign =>
    rintro l pre k W K ⟨i1, i2, i3, ⟨u4, i4⟩, ⟨u5, i5⟩, i6, i7, i8⟩ hK
    have hs4 : w6.heap.size < W.heap.size := kboxS i7
    rw [lyw_eq]
    gi_wp2
    exact hK _ _ ((KeepsOthers.alloc _ _).from _) ((Below.refl _ W).alloc (by omega) _) ⟨i1, i2.alloc _, i3.alloc _, ⟨u4, i4.alloc _⟩, ⟨u5, i5.alloc _⟩, i6.alloc _, i7.alloc _, i8.alloc (by omega) _⟩ ⟨W.heap.size, hs4, World.alloc_heap_new W _, rfl⟩
  case done =>
    rintro D ys W hD rfl ⟨i1, i2, i3, ⟨u4, i4⟩, ⟨u5, i5⟩, i6, i7, i8⟩ hK
    have e9 := com_none i1
    have EO : Hid (o = false) := by show o = false; rw [HOU.out.1, e9]; rfl
    have EU : Hid (u = 0) := by show u = 0; rw [HOU.out.2, EO.out]; rfl
    clear e9 HCND HPOS HSA HOU
    have c3 := i4.cell
    have c4 := i5.cell
    have f3 := i4.frozen
    have f4 := i5.frozen
    have hne : D ≠ w.heap.size + 1 + 1 ∧ D ≠ w.heap.size + 1 + 1 + 1 := ⟨by omega, by omega⟩
    have hK2 : ((W.setCell ⟨w.heap.size + 1 + 1, 0, none⟩ (.int .i64 0)).setCell ⟨w.heap.size + 1 + 1 + 1, 0, none⟩ (.bool false)).heap[D]? = some (.deferred (some [])) := (keepB _ _ _ _ _ hne.2).trans ((keepB _ _ _ _ _ hne.1).trans hK)
    have b3 : Boxed ((W.setCell ⟨w.heap.size + 1 + 1, 0, none⟩ (.int .i64 0)).setCell ⟨w.heap.size + 1 + 1 + 1, 0, none⟩ (.bool false)) (w.heap.size + 1 + 1) 3 (.int .i64 0) := (i4.set _).other (by omega) _
    have b4 : Boxed ((W.setCell ⟨w.heap.size + 1 + 1, 0, none⟩ (.int .i64 0)).setCell ⟨w.heap.size + 1 + 1 + 1, 0, none⟩ (.bool false)) (w.heap.size + 1 + 1 + 1) 4 (.bool false) := (i5.other (by omega) _).set _
    have c4' := (i5.other (show w.heap.size + 1 + 1 + 1 ≠ w.heap.size + 1 + 1 by omega) (.int .i64 0)).cell
    have f4' := (i5.other (show w.heap.size + 1 + 1 + 1 ≠ w.heap.size + 1 + 1 by omega) (.int .i64 0)).frozen
    have hbb : Below w.heap.size w ((W.setCell ⟨w.heap.size + 1 + 1, 0, none⟩ (.int .i64 0)).setCell ⟨w.heap.size + 1 + 1 + 1, 0, none⟩ (.bool false)) := setB (setB i8 _ _ (by omega) _) _ _ (by omega) _
    gi_wp2
    generalize ((W.setCell ⟨w.heap.size + 1 + 1, 0, none⟩ (.int .i64 0)).setCell ⟨w.heap.size + 1 + 1 + 1, 0, none⟩ (.bool false)) = W9 at *
    refine ⟨by simp, .inl ⟨_, _, rfl, run_takeDeferred hK2, ?_⟩⟩
    have q3 : Boxed (W9.putObj D (.deferred none)) (w.heap.size + 1 + 1) 3 (.int .i64 0) := (World.putObj_heap_other (by omega)).trans b3
    have q4 : Boxed (W9.putObj D (.deferred none)) (w.heap.size + 1 + 1 + 1) 4 (.bool false) := (World.putObj_heap_other (by omega)).trans b4
    have q5 := q3.cell
    have q6 := q4.cell
    exact ⟨_, by simp [results, Try.results31, go_sem, q5, q6]; rfl, by rw [EO.out, EU.out], hbb.trans (belowK_b (w := w) (Nat.le_refl _) W9 D _ _ (by omega) hK2 rfl rfl)⟩
  case stop =>
    rintro D c0 pre W hD ⟨k, hk, rfl⟩ ⟨rfl, ⟨init, x, h2, h3, h4, h5, h6⟩, h7⟩ hK
    have e9 := com_some hk h2 h3 h4
    have hp := HPOS.out x.1 x.2
    have EO : Hid (o = true) := by show o = true; rw [HOU.out.1, e9, decide_eq_false (by omega)]; rfl
    have EU : Hid (u = A[x.1].mark) := by show u = _; rw [HOU.out.2, EO.out, e9]; rfl
    clear e9 HCND HPOS HSA HOU hp
    generalize A[x.1].mark = mk at *
    have c3 := h5.cell
    have c4 := h6.cell
    gi_wp2
    refine ⟨by simp, .inl ⟨_, _, rfl, run_takeDeferred hK, ?_⟩⟩
    have q3 : Boxed (W.putObj D (.deferred none)) (w.heap.size + 1 + 1) 3 (.int .i64 mk) := (World.putObj_heap_other (by omega)).trans h5
    have q4 : Boxed (W.putObj D (.deferred none)) (w.heap.size + 1 + 1 + 1) 4 (.bool true) := (World.putObj_heap_other (by omega)).trans h6
    have q5 := q3.cell
    have q6 := q4.cell
    exact ⟨_, by simp [results, Try.results31, go_sem, q5, q6]; rfl, by rw [EO.out, EU.out], h7.trans (belowK_b (w := w) (Nat.le_refl _) W D _ _ (by omega) hK rfl rfl)⟩
  case body =>
    rintro l pre k a' W hl _ ⟨i1, i2, i3, ⟨u4, i4⟩, ⟨u5, i5⟩, i6, i7, i8⟩ ⟨Bx, hBx, hX, rfl⟩ hlt
    have x0 := box_cell hX 0
    have cA := i2.cell
    have cB := i3.cell
    have HCN := hid (HCND.out k.1 k.2)
    have HNO : Hid (comC A B k.1 = false → NoC A B (pre ++ [k])) := fun h y hy => by
      rcases List.mem_append.1 hy with h' | h'
      · exact i1 y h'
      · obtain rfl : y = k := by simpa using h'
        exact h
    have HC := hid (HSA.out W A[k.1].mark i8)
    have hF4' : (Fence.wide.inRound l).fn 12 := trivial
    have HMKE : Hid (A[k.1].mark = A[k.1].mark) := rfl
    generalize hmk : A[k.1].mark = mk at *
    have HMK := hid hmk
    clear hmk HMKE
    gi_wp2_with fail
    refine (CallsIn.inRound l (callsIn_wide.2 HC.out)).mono ?_
    rintro e W2 ⟨rfl, g2⟩
    have HI1 := hid i1
    have J2 := hid (boxedBelow i2 g2)
    have J3 := hid (boxedBelow i3 g2)
    have J4 := hid (boxedBelow i4 g2)
    have J5 := hid (boxedBelow i5 g2)
    have J6 := hid (boxedBelow i6 g2)
    have J7 := hid (boxedBelow i7 g2)
    have J8 := hid (i8.trans (g2.mono i8.size))
    have hX2 := (g2.block Bx (kboxS hX)).trans hX
    have z0 := box_cell hX2 0
    have cU := J6.out.cell
    have HKO : Hid (KeepsFrom w7.heap.size W W2) := (below_othersS g2).from _
    have HKB : Hid (Below w7.heap.size W W2) := g2.mono (by have := kboxS i7; omega)
    clear x0 cA cB i1 i2 i3 i4 i5 i6 i7 i8 hX hX2 g2 HC
    generalize saV A B mk = sv at *
    generalize decide (BothOk A B mk) = bo at *
    cases sv
    · have HN := hid (HNO.out (by rw [← HCN.out]; rfl))
      clear HNO HCN
      gi_wp2
      exact ⟨HKO.out, HKB.out, HN.out, J2.out, J3.out, ⟨_, J4.out⟩, ⟨_, J5.out⟩, J6.out, J7.out, J8.out⟩
    by_cases hq : mk < mn
    case neg =>
      have d1 : decide (mk < mn) = false := decide_eq_false hq
      have HN := hid (HNO.out (by rw [← HCN.out, d1]; rfl))
      clear HNO HCN hq
      gi_wp2
      exact ⟨HKO.out, HKB.out, HN.out, J2.out, J3.out, ⟨_, J4.out⟩, ⟨_, J5.out⟩, J6.out, J7.out, J8.out⟩
    have d1 : decide (mk < mn) = true := decide_eq_true hq
    have HY : Hid (comC A B k.1 = true) := by show comC A B k.1 = true; rw [← HCN.out, d1]; rfl
    have c3 := J4.out.cell
    have f3 := J4.out.frozen
    have c4' := (J5.out.other (show w.heap.size + 1 + 1 + 1 ≠ w.heap.size + 1 + 1 by omega) (.int .i64 mk)).cell
    have f4' := (J5.out.other (show w.heap.size + 1 + 1 + 1 ≠ w.heap.size + 1 + 1 by omega) (.int .i64 mk)).frozen
    have b3 : Hid (Boxed ((W2.setCell ⟨w.heap.size + 1 + 1, 0, none⟩ (.int .i64 mk)).setCell ⟨w.heap.size + 1 + 1 + 1, 0, none⟩ (.bool true)) (w.heap.size + 1 + 1) 3 (.int .i64 mk)) := (J4.out.set _).other (by omega) _
    have b4 : Hid (Boxed ((W2.setCell ⟨w.heap.size + 1 + 1, 0, none⟩ (.int .i64 mk)).setCell ⟨w.heap.size + 1 + 1 + 1, 0, none⟩ (.bool true)) (w.heap.size + 1 + 1 + 1) 4 (.bool true)) := (J5.out.other (by omega) _).set _
    have hbb : Hid (Below w.heap.size w ((W2.setCell ⟨w.heap.size + 1 + 1, 0, none⟩ (.int .i64 mk)).setCell ⟨w.heap.size + 1 + 1 + 1, 0, none⟩ (.bool true))) := setB (setB J8.out _ _ (by omega) _) _ _ (by omega) _
    have hkf : Hid (KeepsFrom w7.heap.size W ((W2.setCell ⟨w.heap.size + 1 + 1, 0, none⟩ (.int .i64 mk)).setCell ⟨w.heap.size + 1 + 1 + 1, 0, none⟩ (.bool true))) := (HKO.out.trans (KeepsFrom.of_grownBy (grownBy_setCell' _ _ _) (fun j e => by cases e; omega))).trans (KeepsFrom.of_grownBy (grownBy_setCell' _ _ _) (fun j e => by cases e; omega))
    clear HNO HCN hq
    gi_wp2
    generalize (W2.setCell ⟨w.heap.size + 1 + 1, 0, none⟩ (.int .i64 mk)).setCell ⟨w.heap.size + 1 + 1 + 1, 0, none⟩ (.bool true) = W9 at *
    exact ⟨hkf.out, rfl, ⟨pre, k, rfl, HI1.out, HY.out, by rw [HMK.out]; exact b3.out, b4.out⟩, hbb.out⟩
end Go.Proofs.Ytiionfmpbifbcaa

/- The program's PlanSync. -/
import Derived.Test.YtiionfmpbifbcaaSyPs
import Derived.Test.YtiionfmpbifbcaaKZ
namespace Go.Proofs.Ytiionfmpbifbcaa
set_option maxRecDepth 100000
open Go Go.ChangeShapes Go.WideShapes Go.ChangeAt Go.RowKit
set_option maxHeartbeats 4000000 in
theorem iplan_any (a b : Option Addr) (c d : Nat) (A B : List Ly) (m : Int) (w : World) (hA : Mr a c A w) (hB : Mr b d B w) :
    Calls Try.prog 15 #[.agg #[.slice a A.length c], .agg #[.slice b B.length d], .int .i64 m] w (LOut (planV A B m) (decide (PlanOk A B m)) w) := by
  have b0 : Below w.heap.size w ((w.alloc (.cells #[.slice a A.length c] 30)).alloc (.cells #[.slice b B.length d] 30)) := (boxB _ _).trans ((boxB _ _).mono (boxB _ _).size)
  have k0 : ((w.alloc (.cells #[.slice a A.length c] 30)).alloc (.cells #[.slice b B.length d] 30)).heap[w.heap.size]? = some (.cells #[.slice a A.length c] 30) := heap_mid2 _ _ _
  have k1 : ((w.alloc (.cells #[.slice a A.length c] 30)).alloc (.cells #[.slice b B.length d] 30)).heap[w.heap.size + 1]? = some (.cells #[.slice b B.length d] 30) := heap_last2 _ _ _
  generalize hW : (w.alloc (.cells #[.slice a A.length c] 30)).alloc (.cells #[.slice b B.length d] 30) = W at *
  have HX : Hid (∀ v, Below W.heap.size W v → v.cell? ⟨w.heap.size, 0, none⟩ = some (.slice a A.length c) ∧ v.cell? ⟨w.heap.size + 1, 0, none⟩ = some (.slice b B.length d)) := fun v g => ⟨box_cell ((g.block _ (kboxS k0)).trans k0) 0, box_cell ((g.block _ (kboxS k1)).trans k1) 0⟩
  have HU : Hid (∀ v, Below W.heap.size W v → Below w.heap.size w v) := fun v g => b0.trans (g.mono b0.size)
  have HA : Hid (∀ v, Below W.heap.size W v → Mr a c A v) := fun v g => hA.on (HU.out v g)
  have HB : Hid (∀ v, Below W.heap.size W v → Mr b d B v) := fun v g => hB.on (HU.out v g)
  have B0 : Hid (Below W.heap.size W W) := Below.refl _ _
  obtain ⟨x0, x1⟩ := HX.out _ B0.out
  have HC : Hid (∀ v, Below W.heap.size W v → Calls Try.prog 12 #[.agg #[.slice a A.length c], .agg #[.slice b B.length d], .int .i64 m] v fun e w' => e = .returned (.tuple #[.bool (saV A B m), .bool (decide (BothOk A B m))]) ∧ Below v.heap.size v w') := fun v g => isame_any a b c d A B m v (HA.out v g) (HB.out v g)
  have HWA : Hid (GoodK A → ∀ v, Below W.heap.size W v → Calls Try.prog 42 #[.agg #[.slice a A.length c], .int .i64 m] v fun e w' => ∃ u, e = .returned u ∧ AL v.heap.size u (dirtL A m) w' ∧ Below v.heap.size v w') := fun h v g => behind_any a c A m v (HA.out v g) h
  have HWB : Hid (GoodK B → ∀ v, Below W.heap.size W v → Calls Try.prog 42 #[.agg #[.slice b B.length d], .int .i64 m] v fun e w' => ∃ u, e = .returned u ∧ AL v.heap.size u (dirtL B m) w' ∧ Below v.heap.size v w') := fun h v g => behind_any b d B m v (HB.out v g) h
  have HLL : Hid (∀ X : List Ly, GoodK X → (dirtL X m).length ≤ 128) := fun X h => by
    have h2 := dirtL_len h m X.length (Nat.le_refl _)
    rw [List.take_length] at h2
    have := h.2.1
    omega
  clear hA hB k0 k1 b0 HA HB
  have HSV : Hid (saV A B m = true → PlanOk A B m) := fun h => by
    unfold saV at h
    by_cases g : BothOk A B m
    · rw [if_pos g] at h; exact ⟨g, h⟩
    · rw [if_neg g] at h; cases h
  have HNO : Hid (saV A B m = false → planV A B m = [] ∧ decide (PlanOk A B m) = false) := fun h => by
    have hn : ¬ PlanOk A B m := fun g => by
      unfold saV at h
      rw [if_pos g.1, g.2] at h
      cases h
    exact ⟨if_neg hn, decide_eq_false hn⟩
  have HYE : Hid (PlanOk A B m → planV A B m = putsI [] (dirtL A m ++ dirtL B m) ∧ decide (PlanOk A B m) = true) := fun h => ⟨(if_pos h).trans (plan_two A B m), decide_eq_true h⟩
  generalize hsv : saV A B m = sv at *
  generalize hbo : decide (BothOk A B m) = bo at *
  go_enter Try.func15, Try.ntmps15
  go_wp2_with fail
  clear hW
  refine (HC.out _ B0.out).mono ?_
  rintro e w1 ⟨rfl, g1⟩
  have B1 : Hid (Below W.heap.size W w1) := B0.out.trans (g1.mono B0.out.size)
  clear g1 x0 x1
  obtain ⟨x0, x1⟩ := HX.out _ B1.out
  clear hsv hbo
  cases sv
  · obtain ⟨e1, e2⟩ := HNO.out rfl
    have E1 := hid e1
    have E2 := hid e2
    clear HC HWA HWB e1 e2 HNO HYE HSV HLL
    go_wp2_with fail
    go_ret2
    rw [E1.out, E2.out]
    exact LOut.no (HU.out _ B1.out)
  have hpo := HSV.out rfl
  obtain ⟨e1, e2⟩ := HYE.out hpo
  have E1 := hid e1
  have E2 := hid e2
  have HW1 := hid (HWA.out hpo.1.1.1)
  have HW2 := hid (HWB.out hpo.1.1.2)
  have hl1 := HLL.out A hpo.1.1.1
  have hl2 := HLL.out B hpo.1.1.2
  have HLN : Hid ((dirtL A m).length + (dirtL B m).length ≤ 10000) := by show _ ≤ _; omega
  have HLN2 : Hid ((dirtL A m ++ dirtL B m).length ≤ 9000) := by show _ ≤ _; rw [List.length_append]; omega
  clear HC HWA HWB e1 e2 HNO HYE HSV HLL hpo hl1 hl2
  go_upto_region 4 with fail
  have BD : Hid (Below W.heap.size W w1.drew) := B1.out.drew
  have hT0 := HX.out _ BD.out
  refine wp_region_L (fun v : World => v.cell? ⟨w.heap.size, 0, none⟩ = some (.slice a A.length c) ∧ v.cell? ⟨w.heap.size + 1, 0, none⟩ = some (.slice b B.length d)) 11 (by kernel_rfl) ?_
  generalize w1.drew = Wd at *
  have hHeld := hT0
  refine wpAnyL_take (i := 0) (v := .agg #[.slice a A.length c]) (C := [0, 1, 3, 7, 8, 9, 10, 11]) rfl (by kernel_rfl) (fun _ _ _ h => h) (Or.inl ⟨by rfl, fun u hu => by obtain ⟨h1, h2⟩ := hu; go_simp⟩) hHeld ?_
  dsimp only [Act.put]
  refine wpAnyL_take (i := 1) (v := .agg #[.slice a A.length c]) (C := [1, 3, 7, 8, 9, 10, 11]) rfl (by kernel_rfl) (fun _ _ _ h => h) (Or.inl ⟨by rfl, fun _ _ => by go_simp⟩) hHeld ?_
  dsimp only [Act.put]
  refine wpAnyL_take (i := 2) (v := .int .i64 m) (C := [2, 3, 7, 8, 9, 10, 11]) rfl (by kernel_rfl) (fun _ _ _ h => h) (Or.inl ⟨by rfl, fun _ _ => by go_simp⟩) hHeld ?_
  dsimp only [Act.put]
  refine wpAnyL_take (i := 4) (v := .agg #[.slice b B.length d]) (C := [4, 5, 7, 8, 9, 10, 11]) rfl (by kernel_rfl) (fun _ _ _ h => h) (Or.inl ⟨by rfl, fun u hu => by obtain ⟨h1, h2⟩ := hu; go_simp⟩) hHeld ?_
  dsimp only [Act.put]
  refine wpAnyL_take (i := 5) (v := .agg #[.slice b B.length d]) (C := [5, 7, 8, 9, 10, 11]) rfl (by kernel_rfl) (fun _ _ _ h => h) (Or.inl ⟨by rfl, fun _ _ => by go_simp⟩) hHeld ?_
  dsimp only [Act.put]
  refine wpAnyL_take (i := 6) (v := .int .i64 m) (C := [6, 7, 8, 9, 10, 11]) rfl (by kernel_rfl) (fun _ _ _ h => h) (Or.inl ⟨by rfl, fun _ _ => by go_simp⟩) hHeld ?_
  dsimp only [Act.put]
  refine wpAnyL_one (i := 3) (by kernel_rfl) rfl (fun K hK => ?_)
  rw [if_pos (by rfl)]
  go_simp
  go_wp2_with (go_at_call 42; refine (HW1.out _ BD.out).mono ?_; rintro e wa ⟨u1, rfl, oA, gA⟩)
  have BA : Hid (Below W.heap.size W wa) := BD.out.trans (gA.mono BD.out.size)
  have sA := gA.size
  have OA := hid oA
  clear oA gA
  have hT3 := HX.out _ BA.out
  refine hK.out _ _ (fun _ => hT3) ?_
  clear hK K hHeld
  have hHeld := hT3
  try dsimp only [Act.put]
  refine wpAnyL_one (i := 7) (by kernel_rfl) rfl (fun K hK => ?_)
  rw [if_pos (by rfl)]
  go_simp
  go_wp2_with (go_at_call 42; refine (HW2.out _ BA.out).mono ?_; rintro e wb ⟨u2, rfl, oB, gB⟩)
  have BB : Hid (Below W.heap.size W wb) := BA.out.trans (gB.mono BA.out.size)
  have sB := gB.size
  have OB := hid (OA.out.below gB)
  obtain ⟨q2, r2, rfl, oo2, -⟩ := oB.own
  have HI2 := hid oo2.is
  clear oB gB oo2 OA
  obtain ⟨u3, wc, r3, o3, g3, -, -⟩ := OB.out.app (by omega) q2 r2 (dirtL B m) HI2.out HLN.out
  have BC : Hid (Below W.heap.size W wc) := BB.out.trans (g3.mono BD.out.size)
  have sC := g3.size
  have HR := hid (rising_any Wd.heap.size u3 (dirtL A m ++ dirtL B m) wc HLN2.out o3 (by omega))
  have hT8 := HX.out _ BC.out
  clear o3 g3 OB HI2
  have hT7 := HX.out _ BB.out
  refine hK.out _ _ (fun _ => hT7) ?_
  clear hK K hHeld
  have hHeld := hT7
  try dsimp only [Act.put]
  refine wpAnyL_one (i := 8) (by kernel_rfl) rfl (fun K hK => ?_)
  refine step_append_run rfl _ _ 34 rfl _ _ rfl rfl _ _ r3 ?_
  refine hK.out _ _ (fun _ => hT8) ?_
  clear hK K hHeld
  have hHeld := hT8
  dsimp only [Act.put]
  refine wpAnyL_one (i := 9) (by kernel_rfl) rfl (fun K hK => ?_)
  rw [if_pos (by rfl)]
  go_simp
  go_wp2_with (go_at_call 41; refine HR.out.mono ?_; rintro e wd ⟨u4, rfl, o4, g4⟩)
  have BF : Hid (Below W.heap.size W wd) := BC.out.trans (g4.mono BD.out.size)
  have OF := hid (AL.mono o4 (HU.out _ BD.out).size)
  clear o4 g4 HR
  have hT9 := HX.out _ BF.out
  refine hK.out _ _ (fun _ => hT9) ?_
  clear hK K hHeld
  have hHeld := hT9
  try dsimp only [Act.put]
  refine wpAnyL_one (i := 10) (by kernel_rfl) rfl (fun K hK => ?_)
  rw [if_pos (by rfl)]
  go_simp
  refine hK.out _ _ (fun _ => hT9) ?_
  clear hK K hHeld
  have hHeld := hT9
  try dsimp only [Act.put]
  refine wpAnyL_one (i := 11) (by kernel_rfl) rfl (fun K hK => ?_)
  rw [if_pos (by rfl)]
  go_simp
  refine hK.out _ _ (fun h => absurd rfl h) ?_
  clear hK K hHeld
  refine wpAnyL_done (by kernel_rfl) ?_
  go_wp2_with fail
  refine bodyPost_ret (v := .tuple #[u4, .bool true]) (by simp [results, Try.results15, go_sem]) rfl ?_
  rw [E1.out, E2.out]
  exact LOut.yes OF.out (HU.out _ BF.out)
end Go.Proofs.Ytiionfmpbifbcaa

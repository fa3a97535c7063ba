/- The model's PlanSync. -/
import Derived.Test.YtiionfmpbifbcaaSyDs
namespace Go.Proofs.Ytiionfmpbifbcaa
set_option maxRecDepth 100000
open Go Go.ChangeShapes Go.WideShapes Go.ChangeAt Go.RowKit
/-- what PlanSync answers -/
def planP (A B : List Ly) (m : Int) : List Int := putsI (dirtP A m) (dirtP B m)
def PlanOk (A B : List Ly) (m : Int) : Prop := BothOk A B m ∧ sameK A B m = true
instance (A B : List Ly) (m : Int) : Decidable (PlanOk A B m) := by unfold PlanOk; infer_instance
def planV (A B : List Ly) (m : Int) : List Int := if PlanOk A B m then planP A B m else []
theorem dirtP_strict (A : List Ly) (m : Int) : (dirtP A m).Pairwise (· < ·) := (putsI_strict (dirtL A m) [] List.Pairwise.nil).1
theorem plan_two (A B : List Ly) (m : Int) : planP A B m = putsI [] (dirtL A m ++ dirtL B m) := by
  unfold planP
  rw [putsI_app]
  show putsI (dirtP A m) (dirtP B m) = putsI (dirtP A m) (dirtL B m)
  obtain ⟨h1, h2⟩ := putsI_strict (dirtP B m) (dirtP A m) (dirtP_strict A m)
  obtain ⟨h3, h4⟩ := putsI_strict (dirtL B m) (dirtP A m) (dirtP_strict A m)
  obtain ⟨h5, h6⟩ := putsI_strict (dirtL B m) [] List.Pairwise.nil
  refine strict_ext h1 h3 fun x => ?_
  rw [h2, h4]
  show (x ∈ dirtP A m ∨ x ∈ putsI [] (dirtL B m)) ↔ _
  rw [h6]
  simp
theorem planP_len {A B : List Ly} (m : Int) (hA : GoodK A) (hB : GoodK B) : (planP A B m).length ≤ 256 := by
  have h1 := putsI_len (dirtP B m) (dirtP A m)
  have h2 := dirtP_len hA m
  have h3 := dirtP_len hB m
  unfold planP
  omega
theorem planV_len (A B : List Ly) (m : Int) : (planV A B m).length ≤ 1048576 := by
  unfold planV
  split
  · rename_i h; have := planP_len m h.1.1.1 h.1.1.2; omega
  · simp
set_option maxHeartbeats 4000000 in
theorem l15Plan_any (a b : Option Addr) (c d : Nat) (A B : List Ly) (m : Int) (w : World) (hA : Mr a c A w) (hB : Mr b d B w) (h : BothOk A B m) :
    Calls Try.prog 40 #[.agg #[.slice a A.length c], .agg #[.slice b B.length d], .int .i64 m] w fun e w' => ∃ v, e = .returned v ∧ AL w.heap.size v (planP A B m) w' ∧ Below w.heap.size w w' := by
  have b0 : Below w.heap.size w ((w.alloc (.cells #[.slice a A.length c] 30)).alloc (.cells #[.slice b B.length d] 30)) := (boxB _ _).trans ((boxB _ _).mono (boxB _ _).size)
  have k0 : ((w.alloc (.cells #[.slice a A.length c] 30)).alloc (.cells #[.slice b B.length d] 30)).heap[w.heap.size]? = some (.cells #[.slice a A.length c] 30) := heap_mid2 _ _ _
  have k1 : ((w.alloc (.cells #[.slice a A.length c] 30)).alloc (.cells #[.slice b B.length d] 30)).heap[w.heap.size + 1]? = some (.cells #[.slice b B.length d] 30) := heap_last2 _ _ _
  generalize hW : (w.alloc (.cells #[.slice a A.length c] 30)).alloc (.cells #[.slice b B.length d] 30) = W at *
  have HX : Hid (∀ v, Below W.heap.size W v → v.cell? ⟨w.heap.size, 0, none⟩ = some (.slice a A.length c) ∧ v.cell? ⟨w.heap.size + 1, 0, none⟩ = some (.slice b B.length d)) := fun v g => ⟨box_cell ((g.block _ (kboxS k0)).trans k0) 0, box_cell ((g.block _ (kboxS k1)).trans k1) 0⟩
  have HU : Hid (∀ v, Below W.heap.size W v → Below w.heap.size w v) := fun v g => b0.trans (g.mono b0.size)
  have HA : Hid (∀ v, Below W.heap.size W v → Mr a c A v) := fun v g => hA.on (HU.out v g)
  have HB : Hid (∀ v, Below W.heap.size W v → Mr b d B v) := fun v g => hB.on (HU.out v g)
  have B0 : Hid (Below W.heap.size W W) := Below.refl _ _
  obtain ⟨x0, x1⟩ := HX.out _ B0.out
  have HD1 : Hid (∀ v, Below W.heap.size W v → Calls Try.prog 55 #[.agg #[.slice a A.length c], .int .i64 m] v fun e w' => ∃ u, e = .returned u ∧ AL v.heap.size u (dirtP A m) w' ∧ Below v.heap.size v w') := fun v g => l15Dirty_any a c A m v (HA.out v g) h.1.1
  have HD2 : Hid (∀ v, Below W.heap.size W v → Calls Try.prog 55 #[.agg #[.slice b B.length d], .int .i64 m] v fun e w' => ∃ u, e = .returned u ∧ AL v.heap.size u (dirtP B m) w' ∧ Below v.heap.size v w') := fun v g => l15Dirty_any b d B m v (HB.out v g) h.1.2
  have hl1 := dirtP_len h.1.1 m
  have hl2 := dirtP_len h.1.2 m
  have HST := hid (dirtP_strict A m)
  have HPP : Hid (planP A B m = putsI (dirtP A m) (dirtP B m)) := rfl
  rw [HPP.out]
  clear hA hB k0 k1 b0 HA HB h HPP
  generalize dirtP A m = acc at *
  generalize dirtP B m = l at *
  go_enter Try.func40, Try.ntmps40
  go_wp2_with fail
  clear hW
  refine (HD1.out _ B0.out).mono ?_
  rintro e w1 ⟨v1, rfl, o1, g1⟩
  have B1 : Hid (Below W.heap.size W w1) := B0.out.trans (g1.mono B0.out.size)
  have HO1 := hid (AL.mono o1 (HU.out _ B0.out).size)
  clear g1 o1 x0 x1 HD1
  obtain ⟨x0, x1⟩ := HX.out _ B1.out
  go_wp2_with fail
  refine (HD2.out _ B1.out).mono ?_
  rintro e w2 ⟨v2, rfl, o2, g2⟩
  have B2 : Hid (Below W.heap.size W w2) := B1.out.trans (g2.mono B1.out.size)
  have HO2 := hid (HO1.out.below g2)
  obtain ⟨q2, c2, rfl, oo2, -⟩ := o2.own
  have HI := hid oo2.is
  clear g2 o2 oo2 x0 x1 HD2 HO1
  have BW := hid (HU.out _ B2.out)
  go_wp2_with fail
  go_loopw [7, 17] (fun s i wr => ∃ (j : Nat) (u : Value), j ≤ l.length ∧ i = .int .i64 j ∧ s = u ∧ AL w.heap.size u (putsI acc (l.take j)) wr ∧ Below w2.heap.size w2 wr) (fun _ i _ => l.length - (intOf i).toNat)
  case atStart => exact ⟨0, _, Nat.zero_le _, rfl, rfl, HO2.out, Below.refl _ _⟩
  case round =>
    clear HO2
    obtain ⟨j, u, hj, rfl, rfl, hau, hbu⟩ := hrel
    have HAU := hid hau
    have HBU := hid hbu
    have hsz := BW.out.size
    have hsr := hbu.size
    by_cases hjl : j < l.length
    · obtain ⟨b2, off2, rfl, hb2, hc2⟩ := (HI.out.below hbu).cell (by omega)
      have e2 := hc2 j hjl
      have hl3 := putsI_len (l.take j) acc
      rw [List.length_take] at hl3
      have HP := hid (putI_any w.heap.size _ (putsI acc (l.take j)) l[j] _ (by omega) (by omega) hau (putsI_sorted acc (l.take j) HST.out))
      have HT3 := hid (putsI_take acc l j hjl)
      clear hc2 hau hbu
      generalize l[j] = x at *
      go_wp2_with fail
      refine HP.out.mono ?_
      rintro e w5 ⟨u', rfl, o5, g5⟩
      have HO := hid o5
      have HBY := hid (HBU.out.trans (g5.mono HBU.out.size))
      clear o5 g5 HP
      go_wp2_with fail
      go_roundw
      case rel => exact ⟨j + 1, u', by omega, by go_num, rfl, by rw [HT3.out]; exact HO.out, HBY.out⟩
      case measure => simp [intOf]; omega
    · obtain rfl : j = l.length := by omega
      rw [List.take_length] at HAU
      have HBF := hid (BW.out.trans (hbu.mono BW.out.size))
      clear hau hbu
      go_wp2_with fail
      go_ret
      exact ⟨_, rfl, HAU.out, HBF.out⟩
set_option maxHeartbeats 4000000 in
theorem splan_any (a b : Option Addr) (c d : Nat) (A B : List Ly) (m : Int) (w : World) (hA : Mr a c A w) (hB : Mr b d B w) :
    Calls Try.prog 14 #[.agg #[.slice a A.length c], .agg #[.slice b B.length d], .int .i64 m] w (LOut (planV A B m) (decide (PlanOk A B m)) w) := by
  have b0 : Below w.heap.size w ((w.alloc (.cells #[.slice a A.length c] 30)).alloc (.cells #[.slice b B.length d] 30)) := (boxB _ _).trans ((boxB _ _).mono (boxB _ _).size)
  have k0 : ((w.alloc (.cells #[.slice a A.length c] 30)).alloc (.cells #[.slice b B.length d] 30)).heap[w.heap.size]? = some (.cells #[.slice a A.length c] 30) := heap_mid2 _ _ _
  have k1 : ((w.alloc (.cells #[.slice a A.length c] 30)).alloc (.cells #[.slice b B.length d] 30)).heap[w.heap.size + 1]? = some (.cells #[.slice b B.length d] 30) := heap_last2 _ _ _
  generalize hW : (w.alloc (.cells #[.slice a A.length c] 30)).alloc (.cells #[.slice b B.length d] 30) = W at *
  have HX : Hid (∀ v, Below W.heap.size W v → v.cell? ⟨w.heap.size, 0, none⟩ = some (.slice a A.length c) ∧ v.cell? ⟨w.heap.size + 1, 0, none⟩ = some (.slice b B.length d)) := fun v g => ⟨box_cell ((g.block _ (kboxS k0)).trans k0) 0, box_cell ((g.block _ (kboxS k1)).trans k1) 0⟩
  have HU : Hid (∀ v, Below W.heap.size W v → Below w.heap.size w v) := fun v g => b0.trans (g.mono b0.size)
  have HA : Hid (∀ v, Below W.heap.size W v → Mr a c A v) := fun v g => hA.on (HU.out v g)
  have HB : Hid (∀ v, Below W.heap.size W v → Mr b d B v) := fun v g => hB.on (HU.out v g)
  have B0 : Hid (Below W.heap.size W W) := Below.refl _ _
  obtain ⟨x0, x1⟩ := HX.out _ B0.out
  have HC : Hid (∀ v, Below W.heap.size W v → Calls Try.prog 33 #[.agg #[.slice a A.length c], .agg #[.slice b B.length d], .int .i64 m] v fun e w' => e = .returned (.bool (decide (BothOk A B m))) ∧ Below v.heap.size v w') := fun v g => l15Both_any a b c d A B m v (HA.out v g) (HB.out v g)
  have HS : Hid (BothOk A B m → ∀ v, Below W.heap.size W v → Calls Try.prog 34 #[.agg #[.slice a A.length c], .agg #[.slice b B.length d], .int .i64 m] v fun e w' => e = .returned (.bool (sameK A B m)) ∧ Below v.heap.size v w') := fun h v g => l15Same_any a b c d A B m v (HA.out v g) (HB.out v g) h
  have HP : Hid (BothOk A B m → ∀ v, Below W.heap.size W v → Calls Try.prog 40 #[.agg #[.slice a A.length c], .agg #[.slice b B.length d], .int .i64 m] v fun e w' => ∃ u, e = .returned u ∧ AL v.heap.size u (planP A B m) w' ∧ Below v.heap.size v w') := fun h v g => l15Plan_any a b c d A B m v (HA.out v g) (HB.out v g) h
  clear hA hB k0 k1 b0 HA HB
  have HNO : Hid (¬ PlanOk A B m → planV A B m = [] ∧ decide (PlanOk A B m) = false) := fun h => ⟨if_neg h, decide_eq_false h⟩
  go_enter Try.func14, Try.ntmps14
  go_wp2_with fail
  clear hW
  refine (HC.out _ B0.out).mono ?_
  rintro e w1 ⟨rfl, g1⟩
  have B1 : Hid (Below W.heap.size W w1) := B0.out.trans (g1.mono B0.out.size)
  clear g1 x0 x1
  obtain ⟨x0, x1⟩ := HX.out _ B1.out
  by_cases hb : BothOk A B m
  case neg =>
    obtain ⟨e1, e2⟩ := HNO.out (fun h => hb h.1)
    have E1 := hid e1
    have E2 := hid e2
    rw [decide_eq_false hb]
    clear hb HS HC HP e1 e2 HNO
    go_wp2_with fail
    go_ret2
    rw [E1.out, E2.out]
    exact LOut.no (HU.out _ B1.out)
  have HS1 := hid (HS.out hb)
  have HP1 := hid (HP.out hb)
  have HBB := hid hb
  rw [decide_eq_true hb]
  clear hb HS HC HP
  go_wp2_with fail
  refine (HS1.out _ B1.out).mono ?_
  rintro e w2 ⟨rfl, g2⟩
  have B2 : Hid (Below W.heap.size W w2) := B1.out.trans (g2.mono B1.out.size)
  clear g2 x0 x1
  obtain ⟨x0, x1⟩ := HX.out _ B2.out
  cases hs : sameK A B m
  · obtain ⟨e1, e2⟩ := HNO.out (fun h => by have h2 := h.2; rw [hs] at h2; exact absurd h2 (by decide))
    have E1 := hid e1
    have E2 := hid e2
    clear HS1 HP1 e1 e2 HNO hs
    go_wp2_with fail
    go_ret2
    rw [E1.out, E2.out]
    exact LOut.no (HU.out _ B2.out)
  have E1 : Hid (planV A B m = planP A B m) := if_pos ⟨HBB.out, hs⟩
  have E2 : Hid (decide (PlanOk A B m) = true) := decide_eq_true ⟨HBB.out, hs⟩
  clear hs HNO HS1
  go_wp2_with fail
  refine (HP1.out _ B2.out).mono ?_
  rintro e w3 ⟨u, rfl, o3, g3⟩
  have O3 := hid (AL.mono o3 (HU.out _ B2.out).size)
  have B3 : Hid (Below W.heap.size W w3) := B2.out.trans (g3.mono B2.out.size)
  clear g3 o3 x0 x1 HP1
  go_wp2_with fail
  go_ret2
  rw [E1.out, E2.out]
  exact LOut.yes O3.out (HU.out _ B3.out)
end Go.Proofs.Ytiionfmpbifbcaa

/- The model's SameAt. -/
import Derived.Test.YtlifhakgboekfaaSyR
import Derived.Deep.DeepCutAuto
namespace Go.Proofs.Ytlifhakgboekfaa
set_option maxRecDepth 100000
open Go Go.ChangeShapes Go.WideShapes Go.ChangeAt Go.RowKit
set_option maxHeartbeats 4000000 in
theorem l15Both_any (a b : Option Addr) (c d : Nat) (A B : List Ly) (m : Int) (w : World) (hA : Mr a c A w) (hB : Mr b d B w) :
    Calls Try.prog 33 #[.agg #[.slice a A.length c], .agg #[.slice b B.length d], .int .i64 m] w fun e w' => e = .returned (.bool (decide (BothOk A B m))) ∧ Below w.heap.size w w' := by
  rw [← both_iff]
  have b0 : Below w.heap.size w ((w.alloc (.cells #[.slice a A.length c] 30)).alloc (.cells #[.slice b B.length d] 30)) := (boxB _ _).trans ((boxB _ _).mono (boxB _ _).size)
  have k0 : ((w.alloc (.cells #[.slice a A.length c] 30)).alloc (.cells #[.slice b B.length d] 30)).heap[w.heap.size]? = some (.cells #[.slice a A.length c] 30) := heap_mid2 _ _ _
  have k1 : ((w.alloc (.cells #[.slice a A.length c] 30)).alloc (.cells #[.slice b B.length d] 30)).heap[w.heap.size + 1]? = some (.cells #[.slice b B.length d] 30) := heap_last2 _ _ _
  generalize hW : (w.alloc (.cells #[.slice a A.length c] 30)).alloc (.cells #[.slice b B.length d] 30) = W at *
  have HX : Hid (∀ v, Below W.heap.size W v → v.cell? ⟨w.heap.size, 0, none⟩ = some (.slice a A.length c) ∧ v.cell? ⟨w.heap.size + 1, 0, none⟩ = some (.slice b B.length d)) := fun v g => ⟨box_cell ((g.block _ (kboxS k0)).trans k0) 0, box_cell ((g.block _ (kboxS k1)).trans k1) 0⟩
  have HU : Hid (∀ v, Below W.heap.size W v → Below w.heap.size w v) := fun v g => b0.trans (g.mono b0.size)
  have HA : Hid (∀ v, Below W.heap.size W v → Mr a c A v) := fun v g => hA.on (HU.out v g)
  have HB : Hid (∀ v, Below W.heap.size W v → Mr b d B v) := fun v g => hB.on (HU.out v g)
  have B0 : Hid (Below W.heap.size W W) := Below.refl _ _
  obtain ⟨x0, x1⟩ := HX.out _ B0.out
  have HG1 : Hid (∀ v, Below W.heap.size W v → Calls Try.prog 48 #[.agg #[.slice a A.length c]] v fun e w' => e = .returned (.bool (goodK A)) ∧ Below v.heap.size v w') := fun v g => (HA.out v g).sgood
  have HG2 : Hid (∀ v, Below W.heap.size W v → Calls Try.prog 48 #[.agg #[.slice b B.length d]] v fun e w' => e = .returned (.bool (goodK B)) ∧ Below v.heap.size v w') := fun v g => (HB.out v g).sgood
  have HF1 : Hid (∀ v, Below W.heap.size W v → Calls Try.prog 54 #[.agg #[.slice a A.length c], .int .i64 m] v fun e w' => e = .returned (.int .i64 (fk A m)) ∧ Below v.heap.size v w') := fun v g => (HA.out v g).find m
  have HF2 : Hid (∀ v, Below W.heap.size W v → Calls Try.prog 54 #[.agg #[.slice b B.length d], .int .i64 m] v fun e w' => e = .returned (.int .i64 (fk B m)) ∧ Below v.heap.size v w') := fun v g => (HB.out v g).find m
  rw [← fk_bd A m, ← fk_bd B m]
  clear hA hB k0 k1 b0 HA HB
  generalize goodK A = q1 at *
  generalize goodK B = q2 at *
  generalize fk A m = q3 at *
  generalize fk B m = q4 at *
  go_enter Try.func33, Try.ntmps33
  go_wp2_with fail
  clear hW
  refine (HG1.out _ B0.out).mono ?_
  rintro e w1 ⟨rfl, g1⟩
  have B1 : Hid (Below W.heap.size W w1) := B0.out.trans (g1.mono B0.out.size)
  clear g1 x0 x1
  obtain ⟨x0, x1⟩ := HX.out _ B1.out
  cases q1
  · go_wp2_with fail
    go_ret
    exact ⟨rfl, HU.out _ B1.out⟩
  go_wp2_with fail
  refine (HG2.out _ B1.out).mono ?_
  rintro e w2 ⟨rfl, g2⟩
  have B2 : Hid (Below W.heap.size W w2) := B1.out.trans (g2.mono B1.out.size)
  clear g2 x0 x1
  obtain ⟨x0, x1⟩ := HX.out _ B2.out
  cases q2
  · go_wp2_with fail
    go_ret
    exact ⟨rfl, HU.out _ B2.out⟩
  go_wp2_with fail
  refine (HF1.out _ B2.out).mono ?_
  rintro e w3 ⟨rfl, g3⟩
  have B3 : Hid (Below W.heap.size W w3) := B2.out.trans (g3.mono B2.out.size)
  clear g3 x0 x1
  obtain ⟨x0, x1⟩ := HX.out _ B3.out
  by_cases p3 : 0 ≤ q3
  case neg =>
    have d3 : decide (0 ≤ q3) = false := decide_eq_false p3
    go_wp2_with fail
    go_ret
    exact ⟨by simp [d3], HU.out _ B3.out⟩
  have d3 : decide (0 ≤ q3) = true := decide_eq_true p3
  go_wp2_with fail
  refine (HF2.out _ B3.out).mono ?_
  rintro e w4 ⟨rfl, g4⟩
  have B4 : Hid (Below W.heap.size W w4) := B3.out.trans (g4.mono B3.out.size)
  clear g4 x0 x1
  obtain ⟨x0, x1⟩ := HX.out _ B4.out
  by_cases p4 : 0 ≤ q4
  case neg =>
    have d4 : decide (0 ≤ q4) = false := decide_eq_false p4
    go_wp2_with fail
    go_ret
    exact ⟨by simp [d4], HU.out _ B4.out⟩
  have d4 : decide (0 ≤ q4) = true := decide_eq_true p4
  go_wp2_with fail
  go_ret
  exact ⟨by simp [d3, d4], HU.out _ B4.out⟩
set_option maxHeartbeats 8000000 in
theorem l15Same_any (a b : Option Addr) (c d : Nat) (A B : List Ly) (m : Int) (w : World) (hA : Mr a c A w) (hB : Mr b d B w) (h : BothOk A B m) :
    Calls Try.prog 34 #[.agg #[.slice a A.length c], .agg #[.slice b B.length d], .int .i64 m] w fun e w' => e = .returned (.bool (sameK A B m)) ∧ Below w.heap.size w w' := by
  have b0 : Below w.heap.size w ((w.alloc (.cells #[.slice a A.length c] 30)).alloc (.cells #[.slice b B.length d] 30)) := (boxB _ _).trans ((boxB _ _).mono (boxB _ _).size)
  have k0 : ((w.alloc (.cells #[.slice a A.length c] 30)).alloc (.cells #[.slice b B.length d] 30)).heap[w.heap.size]? = some (.cells #[.slice a A.length c] 30) := heap_mid2 _ _ _
  have k1 : ((w.alloc (.cells #[.slice a A.length c] 30)).alloc (.cells #[.slice b B.length d] 30)).heap[w.heap.size + 1]? = some (.cells #[.slice b B.length d] 30) := heap_last2 _ _ _
  generalize hW : (w.alloc (.cells #[.slice a A.length c] 30)).alloc (.cells #[.slice b B.length d] 30) = W at *
  have HX : Hid (∀ v, Below W.heap.size W v → v.cell? ⟨w.heap.size, 0, none⟩ = some (.slice a A.length c) ∧ v.cell? ⟨w.heap.size + 1, 0, none⟩ = some (.slice b B.length d)) := fun v g => ⟨box_cell ((g.block _ (kboxS k0)).trans k0) 0, box_cell ((g.block _ (kboxS k1)).trans k1) 0⟩
  have HU : Hid (∀ v, Below W.heap.size W v → Below w.heap.size w v) := fun v g => b0.trans (g.mono b0.size)
  have HA : Hid (∀ v, Below W.heap.size W v → Mr a c A v) := fun v g => hA.on (HU.out v g)
  have HB : Hid (∀ v, Below W.heap.size W v → Mr b d B v) := fun v g => hB.on (HU.out v g)
  have B0 : Hid (Below W.heap.size W W) := Below.refl _ _
  obtain ⟨x0, x1⟩ := HX.out _ B0.out
  have HQ1 : Hid (∀ v, Below W.heap.size W v → Calls Try.prog 54 #[.agg #[.slice a A.length c], .int .i64 m] v fun e w' => e = .returned (.int .i64 (fndK A m : Nat)) ∧ Below v.heap.size v w') := fun v g => by
    have := (HA.out v g).find m
    rwa [fk_at h.2.1] at this
  have HQ2 : Hid (∀ v, Below W.heap.size W v → Calls Try.prog 54 #[.agg #[.slice b B.length d], .int .i64 m] v fun e w' => e = .returned (.int .i64 (fndK B m : Nat)) ∧ Below v.heap.size v w') := fun v g => by
    have := (HB.out v g).find m
    rwa [fk_at h.2.2] at this
  have HT1 : Hid (∀ (k : Nat) v, Below W.heap.size W v → Calls Try.prog 59 #[.agg #[.slice a A.length c], .int .i64 (fndK A m : Nat), .int .i64 (k : Int)] v fun e w' => e = .returned (.string (atM A m k)) ∧ Below v.heap.size v w') := fun k v g => (HA.out v g).at h.1.1 _ h.2.1 _
  have HT2 : Hid (∀ (k : Nat) v, Below W.heap.size W v → Calls Try.prog 59 #[.agg #[.slice b B.length d], .int .i64 (fndK B m : Nat), .int .i64 (k : Int)] v fun e w' => e = .returned (.string (atM B m k)) ∧ Below v.heap.size v w') := fun k v g => (HB.out v g).at h.1.2 _ h.2.2 _
  have HSN : Hid (∀ k : Nat, k < 16 → ¬ atM A m k = atM B m k → sameK A B m = false) := fun k => same_no k
  have HSY : Hid ((∀ k : Nat, k < 16 → atM A m k = atM B m k) → sameK A B m = true) := same_yes
  clear hA hB k0 k1 b0 HA HB h
  generalize fndK A m = n1 at *
  generalize fndK B m = n2 at *
  generalize atM A m = T1 at *
  generalize atM B m = T2 at *
  generalize sameK A B m = sm at *
  go_enter Try.func34, Try.ntmps34
  go_wp2_with fail
  clear hW x0 x1
  go_loopw [7] (fun i wr => ∃ k : Nat, k ≤ 16 ∧ i = .int .i64 k ∧ (∀ j : Nat, j < k → T1 j = T2 j) ∧ Below W.heap.size W wr) (fun i _ => 16 - (intOf i).toNat)
  case atStart => exact ⟨0, by omega, rfl, fun j hj => absurd hj (Nat.not_lt_zero _), B0.out⟩
  case round =>
    obtain ⟨k, hk, rfl, he, hb⟩ := hrel
    have HE := hid he
    have HBR := hid hb
    clear he hb
    by_cases hlt : k < 16
    · go_upto_region 4 with fail
      have hs0 : ∀ s : Gw wr, s.v.cell? ⟨w.heap.size, 0, none⟩ = some (.slice a A.length c) := fun s => (HX.out _ (HBR.out.trans (s.b.mono HBR.out.size))).1
      have hs1 : ∀ s : Gw wr, s.v.cell? ⟨w.heap.size + 1, 0, none⟩ = some (.slice b B.length d) := fun s => (HX.out _ (HBR.out.trans (s.b.mono HBR.out.size))).2
      have P1 : Hid (∀ s : Gw wr, Calls Try.prog 54 #[.agg #[.slice a A.length c], .int .i64 m] s.v fun e w'' => e = .returned (.int .i64 (n1 : Nat)) ∧ ∃ s' : Gw wr, w'' = s'.v) := fun s => grown_of (HQ1.out s.v (HBR.out.trans (s.b.mono HBR.out.size)))
      have P2 : Hid (∀ s : Gw wr, Calls Try.prog 54 #[.agg #[.slice b B.length d], .int .i64 m] s.v fun e w'' => e = .returned (.int .i64 (n2 : Nat)) ∧ ∃ s' : Gw wr, w'' = s'.v) := fun s => grown_of (HQ2.out s.v (HBR.out.trans (s.b.mono HBR.out.size)))
      have P3 : Hid (∀ s : Gw wr, Calls Try.prog 59 #[.agg #[.slice a A.length c], .int .i64 (n1 : Nat), .int .i64 (k : Int)] s.v fun e w'' => e = .returned (.string (T1 k)) ∧ ∃ s' : Gw wr, w'' = s'.v) := fun s => grown_of (HT1.out k s.v (HBR.out.trans (s.b.mono HBR.out.size)))
      have P4 : Hid (∀ s : Gw wr, Calls Try.prog 59 #[.agg #[.slice b B.length d], .int .i64 (n2 : Nat), .int .i64 (k : Int)] s.v fun e w'' => e = .returned (.string (T2 k)) ∧ ∃ s' : Gw wr, w'' = s'.v) := fun s => grown_of (HT2.out k s.v (HBR.out.trans (s.b.mono HBR.out.size)))
      have hne : Nonempty (Gw wr) := ⟨⟨wr, Below.refl _ _⟩⟩
      have hcl : ∀ s : Gw wr, ∃ s' : Gw wr, s.v = s'.v := fun s => ⟨s, rfl⟩
      have HS1 : Hid (¬ T1 k = T2 k → sm = false) := HSN.out k hlt
      have HS2 : Hid (T1 k = T2 k → ∀ j : Nat, j < k + 1 → T1 j = T2 j) := fun h j hj => by
        rcases (show j < k ∨ j = k by omega) with h' | h'
        · exact HE.out j h'
        · rw [h']; exact h
      clear HE
      refine region_grown wr (Below.refl _ _) (by kernel_rfl) (by kernel_rfl) ?_
      generalize T1 k = t1 at *
      generalize T2 k = t2 at *
      repeat (go_big_quiet_step ((first | (go_at_call 54; with_reducible exact P1.out _) | (go_at_call 54; with_reducible exact P2.out _) | (go_at_call 59; with_reducible exact P3.out _) | (go_at_call 59; with_reducible exact P4.out _))))
      refine wpQuiet_nil ?_
      rintro _ ⟨s, rfl⟩
      have hb := hid (HBR.out.trans (s.b.mono HBR.out.size))
      clear hs0 hs1 P1 P2 P3 P4 hne hcl
      by_cases hq : t1 = t2
      · subst hq
        have d1 : (t1.toList == t1.toList) = true := beq_self_eq_true _
        simp only [d1, Bool.not_true]
        go_wp2_with fail
        go_roundw
        case rel => exact ⟨k + 1, by omega, by go_num, HS2.out rfl, hb.out⟩
        case measure => simp [intOf]; omega
      · have d1 : (t1.toList == t2.toList) = false := ba_ne hq
        simp only [d1, Bool.not_false]
        go_wp2_with fail
        go_ret
        exact ⟨by rw [HS1.out hq] <;> rfl, HU.out _ hb.out⟩
    · obtain rfl : k = 16 := by omega
      have HS := hid (HSY.out HE.out)
      clear HE HSN HSY
      go_wp2_with fail
      go_ret
      exact ⟨by rw [HS.out] <;> rfl, HU.out _ HBR.out⟩
/-- what SameAt answers -/
def saV (A B : List Ly) (m : Int) : Bool := if BothOk A B m then sameK A B m else false
theorem ssame_any (a b : Option Addr) (c d : Nat) (A B : List Ly) (m : Int) (w : World) (hA : Mr a c A w) (hB : Mr b d B w) :
    Calls Try.prog 10 #[.agg #[.slice a A.length c], .agg #[.slice b B.length d], .int .i64 m] w fun e w' => e = .returned (.tuple #[.bool (saV A B m), .bool (decide (BothOk A B m))]) ∧ Below w.heap.size w w' := by
  have b0 : Below w.heap.size w ((w.alloc (.cells #[.slice a A.length c] 30)).alloc (.cells #[.slice b B.length d] 30)) := (boxB _ _).trans ((boxB _ _).mono (boxB _ _).size)
  have k0 : ((w.alloc (.cells #[.slice a A.length c] 30)).alloc (.cells #[.slice b B.length d] 30)).heap[w.heap.size]? = some (.cells #[.slice a A.length c] 30) := heap_mid2 _ _ _
  have k1 : ((w.alloc (.cells #[.slice a A.length c] 30)).alloc (.cells #[.slice b B.length d] 30)).heap[w.heap.size + 1]? = some (.cells #[.slice b B.length d] 30) := heap_last2 _ _ _
  generalize hW : (w.alloc (.cells #[.slice a A.length c] 30)).alloc (.cells #[.slice b B.length d] 30) = W at *
  have HX : Hid (∀ v, Below W.heap.size W v → v.cell? ⟨w.heap.size, 0, none⟩ = some (.slice a A.length c) ∧ v.cell? ⟨w.heap.size + 1, 0, none⟩ = some (.slice b B.length d)) := fun v g => ⟨box_cell ((g.block _ (kboxS k0)).trans k0) 0, box_cell ((g.block _ (kboxS k1)).trans k1) 0⟩
  have HU : Hid (∀ v, Below W.heap.size W v → Below w.heap.size w v) := fun v g => b0.trans (g.mono b0.size)
  have HA : Hid (∀ v, Below W.heap.size W v → Mr a c A v) := fun v g => hA.on (HU.out v g)
  have HB : Hid (∀ v, Below W.heap.size W v → Mr b d B v) := fun v g => hB.on (HU.out v g)
  have B0 : Hid (Below W.heap.size W W) := Below.refl _ _
  obtain ⟨x0, x1⟩ := HX.out _ B0.out
  have HC : Hid (∀ v, Below W.heap.size W v → Calls Try.prog 33 #[.agg #[.slice a A.length c], .agg #[.slice b B.length d], .int .i64 m] v fun e w' => e = .returned (.bool (decide (BothOk A B m))) ∧ Below v.heap.size v w') := fun v g => l15Both_any a b c d A B m v (HA.out v g) (HB.out v g)
  have HS : Hid (BothOk A B m → ∀ v, Below W.heap.size W v → Calls Try.prog 34 #[.agg #[.slice a A.length c], .agg #[.slice b B.length d], .int .i64 m] v fun e w' => e = .returned (.bool (sameK A B m)) ∧ Below v.heap.size v w') := fun h v g => l15Same_any a b c d A B m v (HA.out v g) (HB.out v g) h
  clear hA hB k0 k1 b0 HA HB
  go_enter Try.func10, Try.ntmps10
  go_wp2_with fail
  clear hW
  refine (HC.out _ B0.out).mono ?_
  rintro e w1 ⟨rfl, g1⟩
  have B1 : Hid (Below W.heap.size W w1) := B0.out.trans (g1.mono B0.out.size)
  clear g1 x0 x1
  obtain ⟨x0, x1⟩ := HX.out _ B1.out
  by_cases hb : BothOk A B m
  · rw [decide_eq_true hb]
    have HS1 := hid (HS.out hb)
    have HV : Hid (saV A B m = sameK A B m) := if_pos hb
    have HD := hid (decide_eq_true hb)
    clear hb HS HC
    go_wp2_with fail
    refine (HS1.out _ B1.out).mono ?_
    rintro e w2 ⟨rfl, g2⟩
    have B2 : Hid (Below W.heap.size W w2) := B1.out.trans (g2.mono B1.out.size)
    clear g2 x0 x1
    obtain ⟨x0, x1⟩ := HX.out _ B2.out
    go_wp2_with fail
    go_ret2
    exact ⟨by rw [HV.out, HD.out] <;> rfl, HU.out _ B2.out⟩
  · rw [decide_eq_false hb]
    have HV : Hid (saV A B m = false) := if_neg hb
    have HD := hid (decide_eq_false hb)
    clear hb HS HC
    go_wp2_with fail
    go_ret2
    exact ⟨by rw [HV.out, HD.out] <;> rfl, HU.out _ B1.out⟩
end Go.Proofs.Ytlifhakgboekfaa

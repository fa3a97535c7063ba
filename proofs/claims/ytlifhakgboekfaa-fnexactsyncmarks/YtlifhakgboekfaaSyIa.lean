/- The program's SameAt. -/
import Derived.Test.YtlifhakgboekfaaSySa
import Derived.ChangeKeysEq
namespace Go.Proofs.Ytlifhakgboekfaa
set_option maxRecDepth 100000
open Go Go.ChangeShapes Go.WideShapes Go.ChangeAt Go.RowKit
/-- all sixteen texts are alike -/
def sameS (T U : Nat → ByteArray) : Bool := (List.range 16).all fun b => (T b).toList == (U b).toList
theorem sameS_iff (T U : Nat → ByteArray) : sameS T U = true ↔ ∀ b, b < 16 → T b = U b := by
  unfold sameS
  rw [List.all_eq_true]
  constructor
  · intro h b hb
    exact ba_inj (eq_of_beq (h b (List.mem_range.2 hb)))
  · intro h b hb
    rw [h b (List.mem_range.1 hb)]
    exact beq_self_eq_true _
theorem sameS_same (A B : List Ly) (m : Int) : sameS (atM A m) (atM B m) = sameK A B m := by
  cases h : sameK A B m with
  | true => exact (sameS_iff _ _).2 (fun b hb => of_decide_eq_true h ⟨b, hb⟩)
  | false =>
    cases e : sameS (atM A m) (atM B m) with
    | false => rfl
    | true =>
      have := same_yes ((sameS_iff _ _).1 e)
      rw [h] at this
      cases this
theorem infoStr : (Try.prog.info? 9).map (fun i => i.size) = some 1 := by kernel_rfl
theorem part_as (T : Nat → ByteArray) (j : Nat) (h : j < 16) (W : World) : (part 9 (arrS T 16) (j * 1)).run Try.prog W = .ok (.string (T j)) W := by
  have hq : (arrS T 16)[j]? = some (.string (T j)) := by
    rw [Array.getElem?_eq_getElem (by rw [arrS_size]; exact h), arrS_at, if_pos h]
  simp [part, go_sem, hq]
theorem eqItems_as (T U : Nat → ByteArray) (W : World) : ∀ (is : List Nat), (∀ b ∈ is, b < 16) → (Op.eqItems 9999 9 1 (arrS T 16) (arrS U 16) is).run Try.prog W = .ok (is.all fun b => (T b).toList == (U b).toList) W
  | [], _ => by simp [Op.eqItems]
  | j :: is, h => by
    have hj := h j List.mem_cons_self
    have ih := eqItems_as T U W is fun b hb => h b (List.mem_cons_of_mem _ hb)
    have he : (Op.equalIn 9999 9 (.string (T j)) (.string (U j))).run Try.prog W = .ok ((T j).toList == (U j).toList) W := run_equalIn_string W 9998 9 _ _ Try.underlying9
    unfold Op.eqItems
    rw [Sem.run_bind, part_as T j hj, Result.andThen_ok, Sem.run_bind, part_as U j hj, Result.andThen_ok, Sem.run_bind, he, Result.andThen_ok, List.all_cons]
    cases (T j).toList == (U j).toList
    · simp
    · simpa using ih
theorem eq_as (T U : Nat → ByteArray) (W : World) : (Op.equalIn 10000 57 (.agg (arrS T 16)) (.agg (arrS U 16))).run Try.prog W = .ok (sameS T U) W := by
  have hc : Try.prog.cellsOf 9 = 1 := by kernel_rfl
  cases hi : Try.prog.info? 9 with
  | none => have := infoStr; rw [hi] at this; cases this
  | some i =>
    rw [run_equalIn_array W 9999 (arrS T 16) (arrS U 16) Try.underlying57 hi, hc]
    exact eqItems_as T U W _ fun b hb => List.mem_range.1 hb
set_option maxHeartbeats 4000000 in
theorem areGood_any (a b : Option Addr) (c d : Nat) (A B : List Ly) (w : World) (hA : Mr a c A w) (hB : Mr b d B w) :
    Calls Try.prog 36 #[.agg #[.slice a A.length c], .agg #[.slice b B.length d]] w fun e w' => e = .returned (.bool (goodK A && goodK B)) ∧ Below w.heap.size w w' := by
  have b0 : Below w.heap.size w ((w.alloc (.cells #[.slice a A.length c] 30)).alloc (.cells #[.slice b B.length d] 30)) := (boxB _ _).trans ((boxB _ _).mono (boxB _ _).size)
  have k0 : ((w.alloc (.cells #[.slice a A.length c] 30)).alloc (.cells #[.slice b B.length d] 30)).heap[w.heap.size]? = some (.cells #[.slice a A.length c] 30) := heap_mid2 _ _ _
  have k1 : ((w.alloc (.cells #[.slice a A.length c] 30)).alloc (.cells #[.slice b B.length d] 30)).heap[w.heap.size + 1]? = some (.cells #[.slice b B.length d] 30) := heap_last2 _ _ _
  generalize hW : (w.alloc (.cells #[.slice a A.length c] 30)).alloc (.cells #[.slice b B.length d] 30) = W at *
  have HX : Hid (∀ v, Below W.heap.size W v → v.cell? ⟨w.heap.size, 0, none⟩ = some (.slice a A.length c) ∧ v.cell? ⟨w.heap.size + 1, 0, none⟩ = some (.slice b B.length d)) := fun v g => ⟨box_cell ((g.block _ (kboxS k0)).trans k0) 0, box_cell ((g.block _ (kboxS k1)).trans k1) 0⟩
  have HU : Hid (∀ v, Below W.heap.size W v → Below w.heap.size w v) := fun v g => b0.trans (g.mono b0.size)
  have HA : Hid (∀ v, Below W.heap.size W v → Mr a c A v) := fun v g => hA.on (HU.out v g)
  have HB : Hid (∀ v, Below W.heap.size W v → Mr b d B v) := fun v g => hB.on (HU.out v g)
  have B0 : Hid (Below W.heap.size W W) := Below.refl _ _
  obtain ⟨x0, x1⟩ := HX.out _ B0.out
  have HG1 : Hid (∀ v, Below W.heap.size W v → Calls Try.prog 50 #[.agg #[.slice a A.length c]] v fun e w' => e = .returned (.bool (goodK A)) ∧ Below v.heap.size v w') := fun v g => (HA.out v g).igood
  have HG2 : Hid (∀ v, Below W.heap.size W v → Calls Try.prog 50 #[.agg #[.slice b B.length d]] v fun e w' => e = .returned (.bool (goodK B)) ∧ Below v.heap.size v w') := fun v g => (HB.out v g).igood
  clear hA hB k0 k1 b0 HA HB
  generalize goodK A = q1 at *
  generalize goodK B = q2 at *
  go_enter Try.func36, Try.ntmps36
  go_wp2_with fail
  clear hW
  refine (HG1.out _ B0.out).mono ?_
  rintro e w1 ⟨rfl, g1⟩
  have B1 : Hid (Below W.heap.size W w1) := B0.out.trans (g1.mono B0.out.size)
  clear g1 x0 x1
  obtain ⟨x0, x1⟩ := HX.out _ B1.out
  cases q1
  · go_wp2_with fail
    go_ret
    exact ⟨rfl, HU.out _ B1.out⟩
  go_wp2_with fail
  refine (HG2.out _ B1.out).mono ?_
  rintro e w2 ⟨rfl, g2⟩
  have B2 : Hid (Below W.heap.size W w2) := B1.out.trans (g2.mono B1.out.size)
  clear g2 x0 x1
  obtain ⟨x0, x1⟩ := HX.out _ B2.out
  go_wp2_with fail
  go_ret
  exact ⟨by simp, HU.out _ B2.out⟩
set_option maxHeartbeats 8000000 in
theorem isame_any (a b : Option Addr) (c d : Nat) (A B : List Ly) (m : Int) (w : World) (hA : Mr a c A w) (hB : Mr b d B w) :
    Calls Try.prog 12 #[.agg #[.slice a A.length c], .agg #[.slice b B.length d], .int .i64 m] w fun e w' => e = .returned (.tuple #[.bool (saV A B m), .bool (decide (BothOk A B m))]) ∧ Below w.heap.size w w' := by
  have b0 : Below w.heap.size w ((w.alloc (.cells #[.slice a A.length c] 30)).alloc (.cells #[.slice b B.length d] 30)) := (boxB _ _).trans ((boxB _ _).mono (boxB _ _).size)
  have k0 : ((w.alloc (.cells #[.slice a A.length c] 30)).alloc (.cells #[.slice b B.length d] 30)).heap[w.heap.size]? = some (.cells #[.slice a A.length c] 30) := heap_mid2 _ _ _
  have k1 : ((w.alloc (.cells #[.slice a A.length c] 30)).alloc (.cells #[.slice b B.length d] 30)).heap[w.heap.size + 1]? = some (.cells #[.slice b B.length d] 30) := heap_last2 _ _ _
  generalize hW : (w.alloc (.cells #[.slice a A.length c] 30)).alloc (.cells #[.slice b B.length d] 30) = W at *
  have HX : Hid (∀ v, Below W.heap.size W v → v.cell? ⟨w.heap.size, 0, none⟩ = some (.slice a A.length c) ∧ v.cell? ⟨w.heap.size + 1, 0, none⟩ = some (.slice b B.length d)) := fun v g => ⟨box_cell ((g.block _ (kboxS k0)).trans k0) 0, box_cell ((g.block _ (kboxS k1)).trans k1) 0⟩
  have HU : Hid (∀ v, Below W.heap.size W v → Below w.heap.size w v) := fun v g => b0.trans (g.mono b0.size)
  have HA : Hid (∀ v, Below W.heap.size W v → Mr a c A v) := fun v g => hA.on (HU.out v g)
  have HB : Hid (∀ v, Below W.heap.size W v → Mr b d B v) := fun v g => hB.on (HU.out v g)
  have B0 : Hid (Below W.heap.size W W) := Below.refl _ _
  obtain ⟨x0, x1⟩ := HX.out _ B0.out
  have HG : Hid (∀ v, Below W.heap.size W v → Calls Try.prog 36 #[.agg #[.slice a A.length c], .agg #[.slice b B.length d]] v fun e w' => e = .returned (.bool (goodK A && goodK B)) ∧ Below v.heap.size v w') := fun v g => areGood_any a b c d A B v (HA.out v g) (HB.out v g)
  have HF1 : Hid (∀ v, Below W.heap.size W v → Calls Try.prog 37 #[.agg #[.slice a A.length c], .int .i64 m] v fun e w' => e = .returned (.bool (decide (fndK A m < A.length))) ∧ Below v.heap.size v w') := fun v g => (HA.out v g).has m
  have HF2 : Hid (∀ v, Below W.heap.size W v → Calls Try.prog 37 #[.agg #[.slice b B.length d], .int .i64 m] v fun e w' => e = .returned (.bool (decide (fndK B m < B.length))) ∧ Below v.heap.size v w') := fun v g => (HB.out v g).has m
  have HR1 : Hid (BothOk A B m → ∀ v, Below W.heap.size W v → Calls Try.prog 38 #[.agg #[.slice a A.length c], .int .i64 m] v fun e w' => e = .returned (.agg (arrS (atM A m) 16)) ∧ Below v.heap.size v w') := fun h v g => (HA.out v g).all h.1.1 m h.2.1
  have HR2 : Hid (BothOk A B m → ∀ v, Below W.heap.size W v → Calls Try.prog 38 #[.agg #[.slice b B.length d], .int .i64 m] v fun e w' => e = .returned (.agg (arrS (atM B m) 16)) ∧ Below v.heap.size v w') := fun h v g => (HB.out v g).all h.1.2 m h.2.2
  have HBO : Hid ((goodK A && goodK B && decide (fndK A m < A.length) && decide (fndK B m < B.length)) = true → BothOk A B m) := fun h => by rw [both_iff] at h; exact of_decide_eq_true h
  have HNB : Hid ((goodK A && goodK B && decide (fndK A m < A.length) && decide (fndK B m < B.length)) = false → saV A B m = false ∧ decide (BothOk A B m) = false) := fun h => by
    rw [both_iff] at h
    exact ⟨if_neg (of_decide_eq_false h), h⟩
  clear hA hB k0 k1 b0 HA HB
  generalize (goodK A && goodK B) = q1 at *
  generalize decide (fndK A m < A.length) = q3 at *
  generalize decide (fndK B m < B.length) = q4 at *
  go_enter Try.func12, Try.ntmps12
  go_wp2_with fail
  clear hW
  refine (HG.out _ B0.out).mono ?_
  rintro e w1 ⟨rfl, g1⟩
  have B1 : Hid (Below W.heap.size W w1) := B0.out.trans (g1.mono B0.out.size)
  clear g1 x0 x1
  obtain ⟨x0, x1⟩ := HX.out _ B1.out
  cases q1
  · obtain ⟨v1, v2⟩ := HNB.out rfl
    have V1 := hid v1
    have V2 := hid v2
    clear v1 v2
    go_wp2_with fail
    go_ret2
    exact ⟨by rw [V1.out, V2.out] <;> rfl, HU.out _ B1.out⟩
  go_wp2_with fail
  refine (HF1.out _ B1.out).mono ?_
  rintro e w2 ⟨rfl, g2⟩
  have B2 : Hid (Below W.heap.size W w2) := B1.out.trans (g2.mono B1.out.size)
  clear g2 x0 x1
  obtain ⟨x0, x1⟩ := HX.out _ B2.out
  cases q3
  · obtain ⟨v1, v2⟩ := HNB.out rfl
    have V1 := hid v1
    have V2 := hid v2
    clear v1 v2
    go_wp2_with fail
    go_ret2
    exact ⟨by rw [V1.out, V2.out] <;> rfl, HU.out _ B2.out⟩
  go_wp2_with fail
  refine (HF2.out _ B2.out).mono ?_
  rintro e w3 ⟨rfl, g3⟩
  have B3 : Hid (Below W.heap.size W w3) := B2.out.trans (g3.mono B2.out.size)
  clear g3 x0 x1
  obtain ⟨x0, x1⟩ := HX.out _ B3.out
  cases q4
  · obtain ⟨v1, v2⟩ := HNB.out rfl
    have V1 := hid v1
    have V2 := hid v2
    clear v1 v2
    go_wp2_with fail
    go_ret2
    exact ⟨by rw [V1.out, V2.out] <;> rfl, HU.out _ B3.out⟩
  have hbo := HBO.out rfl
  have HR3 := hid (HR1.out hbo)
  have HR4 := hid (HR2.out hbo)
  have HV : Hid (saV A B m = sameK A B m) := if_pos hbo
  have HD := hid (decide_eq_true hbo)
  clear HR1 HR2 hbo HNB HBO HG HF1 HF2
  have heq : ∀ v : World, (Op.equalIn 10000 57 (.agg (arrS (atM A m) 16)) (.agg (arrS (atM B m) 16))).run Try.prog v = .ok (sameK A B m) v := fun v => by rw [eq_as, sameS_same]
  generalize atM A m = T1 at *
  generalize atM B m = T2 at *
  generalize sameK A B m = sm at *
  generalize arrS T1 16 = r1 at *
  generalize arrS T2 16 = r2 at *
  go_upto_region 3 with fail
  have hs0 : ∀ s : Gw w3, s.v.cell? ⟨w.heap.size, 0, none⟩ = some (.slice a A.length c) := fun s => (HX.out _ (B3.out.trans (s.b.mono B3.out.size))).1
  have hs1 : ∀ s : Gw w3, s.v.cell? ⟨w.heap.size + 1, 0, none⟩ = some (.slice b B.length d) := fun s => (HX.out _ (B3.out.trans (s.b.mono B3.out.size))).2
  have P1 : Hid (∀ s : Gw w3, Calls Try.prog 38 #[.agg #[.slice a A.length c], .int .i64 m] s.v fun e w'' => e = .returned (.agg r1) ∧ ∃ s' : Gw w3, w'' = s'.v) := fun s => grown_of (HR3.out s.v (B3.out.trans (s.b.mono B3.out.size)))
  have P2 : Hid (∀ s : Gw w3, Calls Try.prog 38 #[.agg #[.slice b B.length d], .int .i64 m] s.v fun e w'' => e = .returned (.agg r2) ∧ ∃ s' : Gw w3, w'' = s'.v) := fun s => grown_of (HR4.out s.v (B3.out.trans (s.b.mono B3.out.size)))
  have hne : Nonempty (Gw w3) := ⟨⟨w3, Below.refl _ _⟩⟩
  have hcl : ∀ s : Gw w3, ∃ s' : Gw w3, s.v = s'.v := fun s => ⟨s, rfl⟩
  refine region_grown w3 (Below.refl _ _) (by kernel_rfl) (by kernel_rfl) ?_
  repeat (go_big_quiet_step ((first | (go_at_call 38; with_reducible exact P1.out _) | (go_at_call 38; with_reducible exact P2.out _))))
  refine wpQuiet_nil ?_
  rintro _ ⟨s, rfl⟩
  have hb := hid (B3.out.trans (s.b.mono B3.out.size))
  go_wp2_with fail
  go_ret2
  exact ⟨by rw [HV.out, HD.out] <;> rfl, HU.out _ hb.out⟩
end Go.Proofs.Ytlifhakgboekfaa

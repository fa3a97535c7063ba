/- The program's SameAt. -/
import Derived.Test.YtlifhakgboekfabSySa
import Derived.ChangeKeysEq
namespace Go.Proofs.Ytlifhakgboekfab
set_option maxRecDepth 100000
open Go Go.ChangeShapes Go.WideShapes Go.ChangeAt Go.RowKit
/-- all sixteen texts are alike -/
def sameS (T U : Nat → ByteArray) : Bool := (List.range 16).all fun b => (T b).toList == (U b).toList
theorem sameS_iff (T U : Nat → ByteArray) : sameS T U = true ↔ ∀ b, b < 16 → T b = U b := by
  unfold sameS
  rw [List.all_eq_true]
  constructor
  · intro h b hb
    exact ba_inj (eq_of_beq (h b (List.mem_range.2 hb)))
  · intro h b hb
    rw [h b (List.mem_range.1 hb)]
    exact beq_self_eq_true _
theorem sameS_same (A B : List Ly) (m : Int) : sameS (atM A m) (atM B m) = sameK A B m := by
  cases h : sameK A B m with
  | true => exact (sameS_iff _ _).2 (fun b hb => of_decide_eq_true h ⟨b, hb⟩)
  | false =>
    cases e : sameS (atM A m) (atM B m) with
    | false => rfl
    | true =>
      have := same_yes ((sameS_iff _ _).1 e)
      rw [h] at this
      cases this
theorem infoStr : (Try.prog.info? 9).map (fun i => i.size) = some 1 := by kernel_rfl
theorem part_as (T : Nat → ByteArray) (j : Nat) (h : j < 16) (W : World) : (part 9 (arrS T 16) (j * 1)).run Try.prog W = .ok (.string (T j)) W := by
  have hq : (arrS T 16)[j]? = some (.string (T j)) := by
    rw [Array.getElem?_eq_getElem (by rw [arrS_size]; exact h), arrS_at, if_pos h]
  simp [part, go_sem, hq]
theorem eqItems_as (T U : Nat → ByteArray) (W : World) : ∀ (is : List Nat), (∀ b ∈ is, b < 16) → (Op.eqItems 9999 9 1 (arrS T 16) (arrS U 16) is).run Try.prog W = .ok (is.all fun b => (T b).toList == (U b).toList) W
  | [], _ => by simp [Op.eqItems]
  | j :: is, h => by
    have hj := h j List.mem_cons_self
    have ih := eqItems_as T U W is fun b hb => h b (List.mem_cons_of_mem _ hb)
    have he : (Op.equalIn 9999 9 (.string (T j)) (.string (U j))).run Try.prog W = .ok ((T j).toList == (U j).toList) W := run_equalIn_string W 9998 9 _ _ Try.underlying9
    unfold Op.eqItems
    rw [Sem.run_bind, part_as T j hj, Result.andThen_ok, Sem.run_bind, part_as U j hj, Result.andThen_ok, Sem.run_bind, he, Result.andThen_ok, List.all_cons]
    cases (T j).toList == (U j).toList
    · simp
    · simpa using ih
theorem eq_as (T U : Nat → ByteArray) (W : World) : (Op.equalIn 10000 72 (.agg (arrS T 16)) (.agg (arrS U 16))).run Try.prog W = .ok (sameS T U) W := by
  have hc : Try.prog.cellsOf 9 = 1 := by kernel_rfl
  cases hi : Try.prog.info? 9 with
  | none => have := infoStr; rw [hi] at this; cases this
  | some i =>
    rw [run_equalIn_array W 9999 (arrS T 16) (arrS U 16) Try.underlying72 hi, hc]
    exact eqItems_as T U W _ fun b hb => List.mem_range.1 hb
set_option maxHeartbeats 4000000 in
theorem areGood_any (a b : Option Addr) (c d : Nat) (A B : List Ly) (w : World) (hA : Mr a c A w) (hB : Mr b d B w) :
    Calls Try.prog 20 #[.agg #[.slice a A.length c], .agg #[.slice b B.length d]] w fun e w' => e = .returned (.bool (goodK A && goodK B)) ∧ Below w.heap.size w w' := by
  have b0 : Below w.heap.size w ((w.alloc (.cells #[.slice a A.length c] 29)).alloc (.cells #[.slice b B.length d] 29)) := (boxB _ _).trans ((boxB _ _).mono (boxB _ _).size)
  have k0 : ((w.alloc (.cells #[.slice a A.length c] 29)).alloc (.cells #[.slice b B.length d] 29)).heap[w.heap.size]? = some (.cells #[.slice a A.length c] 29) := heap_mid2 _ _ _
  have k1 : ((w.alloc (.cells #[.slice a A.length c] 29)).alloc (.cells #[.slice b B.length d] 29)).heap[w.heap.size + 1]? = some (.cells #[.slice b B.length d] 29) := heap_last2 _ _ _
  generalize hW : (w.alloc (.cells #[.slice a A.length c] 29)).alloc (.cells #[.slice b B.length d] 29) = W at *
  have HX : Hid (∀ v, Below W.heap.size W v → v.cell? ⟨w.heap.size, 0, none⟩ = some (.slice a A.length c) ∧ v.cell? ⟨w.heap.size + 1, 0, none⟩ = some (.slice b B.length d)) := fun v g => ⟨box_cell ((g.block _ (kboxS k0)).trans k0) 0, box_cell ((g.block _ (kboxS k1)).trans k1) 0⟩
  have HU : Hid (∀ v, Below W.heap.size W v → Below w.heap.size w v) := fun v g => b0.trans (g.mono b0.size)
  have HA : Hid (∀ v, Below W.heap.size W v → Mr a c A v) := fun v g => hA.on (HU.out v g)
  have HB : Hid (∀ v, Below W.heap.size W v → Mr b d B v) := fun v g => hB.on (HU.out v g)
  have B0 : Hid (Below W.heap.size W W) := Below.refl _ _
  obtain ⟨x0, x1⟩ := HX.out _ B0.out
  have HG1 : Hid (∀ v, Below W.heap.size W v → Calls Try.prog 32 #[.agg #[.slice a A.length c]] v fun e w' => e = .returned (.bool (goodK A)) ∧ Below v.heap.size v w') := fun v g => (HA.out v g).igood
  have HG2 : Hid (∀ v, Below W.heap.size W v → Calls Try.prog 32 #[.agg #[.slice b B.length d]] v fun e w' => e = .returned (.bool (goodK B)) ∧ Below v.heap.size v w') := fun v g => (HB.out v g).igood
  clear hA hB k0 k1 b0 HA HB
  generalize goodK A = q1 at *
  generalize goodK B = q2 at *
  go_enter Try.func20, Try.ntmps20
  go_wp2_with fail
  clear hW
  refine (HG1.out _ B0.out).mono ?_
  rintro e w1 ⟨rfl, g1⟩
  have B1 : Hid (Below W.heap.size W w1) := B0.out.trans (g1.mono B0.out.size)
  clear g1 x0 x1
  obtain ⟨x0, x1⟩ := HX.out _ B1.out
  cases q1
  · go_wp2_with fail
    go_ret
    exact ⟨rfl, HU.out _ B1.out⟩
  go_wp2_with fail
  refine (HG2.out _ B1.out).mono ?_
  rintro e w2 ⟨rfl, g2⟩
  have B2 : Hid (Below W.heap.size W w2) := B1.out.trans (g2.mono B1.out.size)
  clear g2 x0 x1
  obtain ⟨x0, x1⟩ := HX.out _ B2.out
  go_wp2_with fail
  go_ret
  exact ⟨by simp, HU.out _ B2.out⟩
end Go.Proofs.Ytlifhakgboekfab

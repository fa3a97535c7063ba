/- Walks of UnlikeMaps: the model's and the program's. -/
import Derived.Test.YtgipkpldlkmdkaaIntO
import Derived.ChangeKeysEq
namespace Go.Proofs.Ytgipkpldlkmdkaa
set_option maxRecDepth 100000
open Go.ChangeShapes Go.WideShapes Go.ChangeAt Go.RowKit G00541
/-- all sixteen are alike -/
def sameF (f g : Nat → Int) : Bool := (List.range 16).all fun b => f b == g b
theorem sameF_iff (f g : Nat → Int) : sameF f g = true ↔ ∀ b, b < 16 → f b = g b := by
  unfold sameF
  rw [List.all_eq_true]
  constructor
  · intro h b hb
    exact eq_of_beq (h b (List.mem_range.2 hb))
  · intro h b hb
    exact beq_iff_eq.2 (h b (List.mem_range.1 hb))
theorem infoInt2 : (Try.prog.info? 3).map (fun i => i.size) = some 1 := by kernel_rfl
theorem part_ar (f : Nat → Int) (j : Nat) (h : j < 16) (W : World) : (part 3 (arr f) (j * 1)).run Try.prog W = .ok (.int .i64 (f j)) W := by
  have hq := arr_at f j h
  simp [part, go_sem, hq]
theorem eqItems_ar (f g : Nat → Int) (W : World) : ∀ (is : List Nat), (∀ b ∈ is, b < 16) → (Op.eqItems 9999 3 1 (arr f) (arr g) is).run Try.prog W = .ok (is.all fun b => f b == g b) W
  | [], _ => by simp [Op.eqItems]
  | j :: is, h => by
    have hj := h j List.mem_cons_self
    have ih := eqItems_ar f g W is fun b hb => h b (List.mem_cons_of_mem _ hb)
    have he : (Op.equalIn 9999 3 (.int .i64 (f j)) (.int .i64 (g j))).run Try.prog W = .ok (f j == g j) W := run_equalIn_int W 9998 3 .i64 .i64 _ _ Try.underlying3
    unfold Op.eqItems
    rw [Sem.run_bind, part_ar f j hj, Result.andThen_ok, Sem.run_bind, part_ar g j hj, Result.andThen_ok, Sem.run_bind, he, Result.andThen_ok, List.all_cons]
    cases f j == g j
    · simp
    · simpa using ih
theorem eq_ar (f g : Nat → Int) (W : World) : (Op.equalIn 10000 61 (.agg (arr f)) (.agg (arr g))).run Try.prog W = .ok (sameF f g) W := by
  have hc : Try.prog.cellsOf 3 = 1 := by kernel_rfl
  cases hi : Try.prog.info? 3 with
  | none => have := infoInt2; rw [hi] at this; cases this
  | some i =>
    rw [run_equalIn_array W 9999 (arr f) (arr g) Try.underlying61 hi, hc]
    exact eqItems_ar f g W _ fun b hb => List.mem_range.1 hb
/-- the blocks among the first k that are unlike -/
def diffs (f g : Nat → Int) (k : Nat) : List Int := ((List.range k).filter fun b => f b != g b).map fun b : Nat => (b : Int)
theorem diffs_step (f g : Nat → Int) (k : Nat) : diffs f g (k + 1) = diffs f g k ++ (if (f k != g k) = true then [(k : Int)] else []) := by
  unfold diffs
  rw [List.range_succ, List.filter_append, List.map_append, List.filter_cons, List.filter_nil]
  split <;> rfl
theorem diffs_len (f g : Nat → Int) (k : Nat) : (diffs f g k).length ≤ k := by
  unfold diffs
  rw [List.length_map]
  have := List.length_filter_le (fun b => f b != g b) (List.range k)
  simpa using this
theorem diffs_on (f g : Nat → Int) (k : Nat) : ∀ n, (∀ b, k ≤ b → b < k + n → f b = g b) → diffs f g (k + n) = diffs f g k
  | 0, _ => rfl
  | n + 1, h => by
    have e := h (k + n) (by omega) (by omega)
    rw [← Nat.add_assoc, diffs_step, diffs_on f g k n (fun b h1 h2 => h b h1 (by omega)), e]
    simp
/-- q with its first k places as p has them -/
def mendF (f g : Nat → Int) (k : Nat) : Nat → Int := fun b => if b < k then f b else g b
theorem mend_same (f g : Nat → Int) (k : Nat) (hk : k ≤ 16) (h : sameF f (mendF f g k) = true) : diffs f g k = diffs f g 16 := by
  rw [sameF_iff] at h
  have e : 16 = k + (16 - k) := by omega
  rw [e]
  refine (diffs_on f g k (16 - k) fun b h1 h2 => ?_).symm
  have := h b (by omega)
  unfold mendF at this
  rw [if_neg (by omega)] at this
  exact this
theorem mend_end (f g : Nat → Int) : sameF f (mendF f g 16) = true := by
  rw [sameF_iff]
  intro b hb
  unfold mendF
  rw [if_pos hb]
theorem mend_step (f g : Nat → Int) (k : Nat) : upd (mendF f g k) k (f k) = mendF f g (k + 1) := by
  funext b
  unfold upd mendF
  by_cases e : b = k
  · subst e; rw [if_pos rfl, if_pos (by omega)]
  · rw [if_neg e]
    by_cases g1 : b < k
    · rw [if_pos g1, if_pos (by omega)]
    · rw [if_neg g1, if_neg (by omega)]
theorem mend_skip (f g : Nat → Int) (k : Nat) (h : f k = g k) : mendF f g k = mendF f g (k + 1) := by
  rw [← mend_step]
  funext b
  unfold upd
  by_cases e : b = k
  · subst e; rw [if_pos rfl, h]; unfold mendF; rw [if_neg (by omega)]
  · rw [if_neg e]
theorem mend_at (f g : Nat → Int) (k : Nat) : mendF f g k k = g k := by unfold mendF; rw [if_neg (by omega)]
end Go.Proofs.Ytgipkpldlkmdkaa

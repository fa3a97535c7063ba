/- The model's l1Put: a number put to its place, once. -/
import Derived.Test.YtgompioaknfjgabAApp
import Derived.Test.YtgompioaknfjgabASort
import Derived.Test.YtgompioaknfjgabVBase
namespace Go.Proofs.Ytgompioaknfjgab
set_option maxRecDepth 100000
open Go Go.ChangeShapes Go.WideShapes Go.ChangeAt Go.RowKit
theorem is_of {lo R c : Nat} {S : List Int} {w : World} (h : AL lo (.slice (some ⟨R, 0, none⟩) S.length c) S w) : Is w.heap.size (some ⟨R, 0, none⟩) S w := by
  obtain ⟨b, c', e, ho, _⟩ := h.own
  injection e with e _ _
  subst e
  exact ho.is
/-- a number put in, once -/
def putI (x : Int) (S : List Int) : List Int := if x ∈ S then S else insN x S
theorem putI_len (x : Int) (S : List Int) : (putI x S).length ≤ S.length + 1 := by
  unfold putI
  by_cases h : x ∈ S
  · rw [if_pos h]; omega
  · rw [if_neg h, (insN_perm x S).length_eq]; simp
theorem putI_sorted (x : Int) {S : List Int} (h : S.Pairwise (· ≤ ·)) : (putI x S).Pairwise (· ≤ ·) := by
  unfold putI
  by_cases hx : x ∈ S
  · rw [if_pos hx]; exact h
  · rw [if_neg hx]; exact insN_sorted x S h
theorem low_mem (x : Int) : ∀ S : List Int, S.Pairwise (· ≤ ·) → x ∈ S → ∃ k, ∃ h : k < S.length, S[k] = x ∧ ∀ i (hi : i < S.length), i < k → S[i] < x
  | [], _, h => by cases h
  | y :: r, hs, h => by
    have hs' := List.pairwise_cons.1 hs
    by_cases hy : y < x
    · have hr : x ∈ r := by
        rcases List.mem_cons.1 h with e | e
        · omega
        · exact e
      obtain ⟨k, hk, h1, h2⟩ := low_mem x r hs'.2 hr
      refine ⟨k + 1, by simpa using hk, by simpa using h1, fun i hi hik => ?_⟩
      cases i with
      | zero => exact hy
      | succ i => exact h2 i (by simpa using hi) (by omega)
    · have hyx : y = x := by
        rcases List.mem_cons.1 h with e2 | e2
        · exact e2.symm
        · have := hs'.1 x e2; omega
      exact ⟨0, by simp, hyx, fun i hi h0 => absurd h0 (Nat.not_lt_zero _)⟩
end Go.Proofs.Ytgompioaknfjgab

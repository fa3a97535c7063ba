/- slices.Sort on a list of one's own. -/
import Derived.Test.YtohkhcjdjjlfbaaQApp
import Derived.Test.YtohkhcjdjjlfbaaHA
import Derived.Test.YtohkhcjdjjlfbaaASrt
namespace Go.Proofs.Ytohkhcjdjjlfbaa.Q
set_option maxRecDepth 100000
open Go Go.ChangeShapes Go.WideShapes Go.ChangeAt Go.RowKit Go.Shelf G00541
/-- a list of one's own, sorted where it lies -/
theorem sortAL (lo : Nat) (v : Value) (l : List Int) (w : World) (hn : l.length ≤ 9000) (h : AL lo v l w) (hlo : lo ≤ w.heap.size) :
    Calls Try.prog 45 #[v] w fun e w' => e = .returned (.tuple #[]) ∧ AL lo v (sortN l) w' ∧ Below lo w w' := by
  have h9 : w.ownsRow lo 3 1 v l.length (ivals l) := h
  rcases h9.2 with ⟨rfl, hz⟩ | ⟨gb, cap, cur, rfl, hbase, hgb, r1, r2, r3, r4⟩
  · obtain rfl : l = [] := List.eq_nil_of_length_eq_zero hz
    exact (sortI_none none 0 w).mono fun e w' ⟨he, hw⟩ => ⟨he, by rw [hw]; exact h, by rw [hw]; exact Below.refl _ _⟩
  · have hH : Go.Sort.Holds (Value.int .i64) w gb 0 l.toArray := holds_of_block_i hgb (by rw [Nat.mul_one] at r4; exact r4)
    have hgl : gb < w.heap.size := (Array.getElem?_eq_some_iff.1 hgb).1
    refine (sortI_row gb 0 cap l w hH hgl (by omega)).mono ?_
    rintro e w' ⟨he, nn, os, rfl⟩
    refine ⟨he, ?_, below_of_grown (grownBy_sorted_i _) hlo (fun k hk => by cases hk; exact hbase)⟩
    have := ownsRow_sorted_i (n := nn) (os := os) (ts := l.mergeSort fun x y => decide (x ≤ y)) (by simp) hbase hgb r1 r2 r3
    unfold AL
    rw [sortN_len, ← merge_eq]
    exact this
end Go.Proofs.Ytohkhcjdjjlfbaa.Q

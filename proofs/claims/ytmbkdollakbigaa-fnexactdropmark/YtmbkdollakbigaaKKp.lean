/- What a round keeps that may write into rows of its own alone. -/
import Derived.Test.YtmbkdollakbigaaKReadI
import Derived.Test.YtmbkdollakbigaaKPp
import Derived.Test.YtmbkdollakbigaaASort
import Derived.Test.YtmbkdollakbigaaASrt
namespace Go.Proofs.Ytmbkdollakbigaa
set_option maxRecDepth 100000
open Go Go.ChangeShapes Go.WideShapes Go.ChangeAt Go.RowKit Go.Shelf
/-- box Z holds a slice whose row is block k -/
def rowIn (W : World) (Z k : Nat) : Prop := ∃ j v, W.cell? ⟨Z, j, none⟩ = some v ∧ v.ownBlock = some k
/-- box Z and the rows that it holds may turn, and what is new; else nothing -/
structure KpZ (n₀ Z : Nat) (W W' : World) : Prop where
  bel : Below n₀ W W'
  cells : ∀ k o, W.heap[k]? = some o → o.isCells = true → k ≠ Z → ¬ rowIn W Z k → W'.heap[k]? = some o
  rows : ∀ k, rowIn W' Z k → rowIn W Z k ∨ W.heap.size ≤ k
theorem KpZ.trans {n₀ Z : Nat} {A B C : World} (h : KpZ n₀ Z A B) (g : KpZ n₀ Z B C) : KpZ n₀ Z A C := by
  refine ⟨h.bel.trans g.bel, fun k o hk hc hz hr => ?_, fun k hr => ?_⟩
  · have hl : k < A.heap.size := (Array.getElem?_eq_some_iff.1 hk).1
    refine g.cells k o (h.cells k o hk hc hz hr) hc hz (fun hb => ?_)
    rcases h.rows k hb with h1 | h1
    · exact hr h1
    · omega
  · rcases g.rows k hr with h1 | h1
    · exact h.rows k h1
    · exact Or.inr (Nat.le_trans h.bel.size h1)
theorem KpZ.refl (n₀ Z : Nat) (W : World) : KpZ n₀ Z W W := ⟨Below.refl _ _, fun _ _ h _ _ _ => h, fun _ h => Or.inl h⟩
theorem rowIn_same {W W' : World} {Z k : Nat} (h : W'.heap[Z]? = W.heap[Z]?) (hr : rowIn W' Z k) : rowIn W Z k := by
  obtain ⟨j, v, e, ev⟩ := hr
  have h2 : W'.cell? ⟨Z, j, none⟩ = W.cell? ⟨Z, j, none⟩ := by simp [World.cell?, h]
  exact ⟨j, v, h2.symm.trans e, ev⟩
theorem KpZ.of_below {n₀ Z : Nat} {W W' : World} (h : Below W.heap.size W W') (hn : n₀ ≤ W.heap.size) (hZ : Z < W.heap.size) : KpZ n₀ Z W W' :=
  ⟨h.mono hn, fun k _ hk _ _ _ => (h.block k (Array.getElem?_eq_some_iff.1 hk).1).trans hk, fun _ hr => Or.inl (rowIn_same (h.block Z hZ) hr)⟩
theorem KpZ.putObj {n₀ Z : Nat} {w : World} (hn : n₀ ≤ w.heap.size) (hZ : Z < w.heap.size) (W : World) (l : Nat) (o o' : Obj) (hl : w.heap.size ≤ l) (h : W.heap[l]? = some o) (hc : o.isCells = false) (hw : o.isWalk = false) : KpZ n₀ Z W (W.putObj l o') :=
  ⟨belowK_b hn W l o o' hl h hc hw, fun _ _ hk hc2 _ _ => (World.putObj_heap_other (fun e => by subst e; rw [h] at hk; cases hk; rw [hc] at hc2; cases hc2)).trans hk, fun _ hr => Or.inl (rowIn_same (World.putObj_heap_other (by omega)) hr)⟩
/-- a row of numbers of one's own, sorted where it lies -/
theorem sortK (lo : Nat) (v : Value) (l : List Int) (w : World) (hn : l.length ≤ 9000) (h : w.ownsRow lo 3 1 v l.length (ivals l)) (hlo : lo ≤ w.heap.size) :
    Calls Try.prog 50 #[v] w fun e w' => e = .returned (.tuple #[]) ∧ w'.ownsRow lo 3 1 v (sortN l).length (ivals (sortN l)) ∧ Below lo w w' := by
  rcases h.2 with ⟨rfl, hz⟩ | ⟨gb, cap, cur, rfl, hbase, hgb, r1, r2, r3, r4⟩
  · obtain rfl : l = [] := List.eq_nil_of_length_eq_zero hz
    exact (sortI_none none 0 w).mono fun e w' ⟨he, hw⟩ => ⟨he, by rw [hw]; exact h, by rw [hw]; exact Below.refl _ _⟩
  · have hH : Go.Sort.Holds (Value.int .i64) w gb 0 l.toArray := holds_of_block_i hgb (by rw [Nat.mul_one] at r4; exact r4)
    have hgl : gb < w.heap.size := (Array.getElem?_eq_some_iff.1 hgb).1
    refine (sortI_row gb 0 cap l w hH hgl (by omega)).mono ?_
    rintro e w' ⟨he, nn, os, rfl⟩
    refine ⟨he, ?_, below_of_grown (grownBy_sorted_i _) hlo (fun k hk => by cases hk; exact hbase)⟩
    have := ownsRow_sorted_i (n := nn) (os := os) (ts := l.mergeSort fun x y => decide (x ≤ y)) (by simp) hbase hgb r1 r2 r3
    rw [sortN_len, ← merge_eq]
    exact this
end Go.Proofs.Ytmbkdollakbigaa

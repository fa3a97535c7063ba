/- The program's GoBack. -/
import Derived.Test.YtmbkdollakbigaaKCol
import Derived.Test.YtmbkdollakbigaaKSet
import Derived.Deep.RegionHeld
namespace Go.Proofs.Ytmbkdollakbigaa
set_option maxRecDepth 100000
open Go Go.ChangeShapes Go.WideShapes Go.ChangeAt Go.RowKit Go.Shelf
theorem rises_c {S : List Ly} (h : LysOk S) : ∀ d i (g : i + d + 1 < S.length), S[i].mark < S[i + d + 1].mark
  | 0, i, g => by
    have := (h (i + 1) g).1
    rw [aheadM_at S i (by omega)] at this
    exact this
  | d + 1, i, g => by
    have h1 := rises_c h d i (by omega)
    have h2 := (h (i + (d + 1) + 1) g).1
    rw [aheadM_at S (i + (d + 1)) (by omega)] at h2
    exact Int.lt_trans h1 h2
theorem rise_c {S : List Ly} (h : LysOk S) (i j : Nat) (hij : i < j) (g : j < S.length) : S[i].mark < S[j].mark := by
  obtain ⟨d, rfl⟩ : ∃ d, j = i + d + 1 := ⟨j - i - 1, by omega⟩
  exact rises_c h d i g
theorem up_c {S : List Ly} {x : Int} (h : GoodK S) (g : fndK S x < S.length) : up S x = fndK S x + 1 := by
  have hm : S[fndK S x].mark = x := by
    have := List.findIdx_getElem (w := g)
    simp at this; exact this
  generalize fndK S x = k at *
  by_cases h1 : up S x ≤ k
  · have hu : up S x < S.length := by omega
    have := up_at hu
    by_cases e : up S x = k
    · simp only [e] at this; omega
    · have := rise_c h.2.2 (up S x) k (by omega) g; omega
  · by_cases h2 : k + 1 < up S x
    · have hl := up_le S x
      have h3 := up_lt h2 (by omega)
      have := rise_c h.2.2 k (k + 1) (by omega) (by omega)
      omega
    · omega
/-- what GoBack makes -/
def backK (S : List Ly) (m : Int) : Option (List Ly) := if goodK S = true ∧ fndK S m < S.length then withK (S.take (fndK S m + 1)) (lastM S + 1) else none
theorem backK_no {S : List Ly} {m : Int} (h : ¬ (goodK S = true ∧ fndK S m < S.length)) : backK S m = none := if_neg h
theorem backK_yes {S : List Ly} {m : Int} (h1 : goodK S = true) (h2 : fndK S m < S.length) : backK S m = withK (S.take (fndK S m + 1)) (lastM S + 1) := if_pos ⟨h1, h2⟩
theorem SmallK.take {S : List Ly} (h : SmallK S) (n : Nat) : SmallK (S.take n) := by
  have hl : ∀ k, k < (S.take n).length → k < S.length := fun k hk => by simp at hk; omega
  have he : ∀ k (hk : k < (S.take n).length), (S.take n)[k] = S[k]'(hl k hk) := fun k hk => by simp
  refine ⟨Nat.le_trans (by simp; omega) h.n, fun k hk => ?_, fun k hk => ?_, fun k hk j hj => ?_⟩
  · rw [he k hk]; exact h.bl k _
  · rw [he k hk]; exact h.dt k _
  · have hj' : j < (S[k]'(hl k hk)).dt.length := by rw [← he k hk]; exact hj
    have := h.sz k (hl k hk) j hj'
    simp only [he k hk]
    exact this
theorem layersUpTo_c (a : Option Addr) (cap n : Nat) (x : Int) (w : World) :
    Calls Try.prog 25 #[.agg #[.slice a n cap], .int .i64 x] w fun e w' => ∃ Bm Bx, e = .returned (.func (.func 47) #[] #[.pointer (some ⟨Bm, 0, none⟩), .pointer (some ⟨Bx, 0, none⟩)]) ∧ w'.cell? ⟨Bm, 0, none⟩ = some (.slice a n cap) ∧ w'.cell? ⟨Bx, 0, none⟩ = some (.int .i64 x) ∧ Bm < w'.heap.size ∧ Bx < w'.heap.size ∧ Below w.heap.size w w' := by
  have g1 := boxB w (.cells #[.slice a n cap] 31)
  have hs1 : (w.alloc (.cells #[.slice a n cap] 31)).heap.size = w.heap.size + 1 := heap_size _ _
  have x0 : (w.alloc (.cells #[.slice a n cap] 31)).cell? ⟨w.heap.size, 0, none⟩ = some (.slice a n cap) := box_cell (heap_last _ _) 0
  have g2 := boxB (w.alloc (.cells #[.slice a n cap] 31)) (.cells #[.int .i64 x] 3)
  have hs2 : ((w.alloc (.cells #[.slice a n cap] 31)).alloc (.cells #[.int .i64 x] 3)).heap.size = w.heap.size + 1 + 1 := by rw [heap_size, heap_size]
  have x1 : ((w.alloc (.cells #[.slice a n cap] 31)).alloc (.cells #[.int .i64 x] 3)).cell? ⟨w.heap.size + 1, 0, none⟩ = some (.int .i64 x) := by
    have := box_cell (heap_last (w.alloc (.cells #[.slice a n cap] 31)) (.cells #[.int .i64 x] 3)) 0
    rw [hs1] at this
    exact this
  have H : Hid (((w.alloc (.cells #[.slice a n cap] 31)).alloc (.cells #[.int .i64 x] 3)).cell? ⟨w.heap.size, 0, none⟩ = some (.slice a n cap) ∧ ((w.alloc (.cells #[.slice a n cap] 31)).alloc (.cells #[.int .i64 x] 3)).cell? ⟨w.heap.size + 1, 0, none⟩ = some (.int .i64 x) ∧ w.heap.size < ((w.alloc (.cells #[.slice a n cap] 31)).alloc (.cells #[.int .i64 x] 3)).heap.size ∧ w.heap.size + 1 < ((w.alloc (.cells #[.slice a n cap] 31)).alloc (.cells #[.int .i64 x] 3)).heap.size ∧ Below w.heap.size w ((w.alloc (.cells #[.slice a n cap] 31)).alloc (.cells #[.int .i64 x] 3))) := ⟨(g2.cell (p := ⟨w.heap.size, 0, none⟩) (show w.heap.size < _ by rw [hs1]; omega)).trans x0, x1, by rw [hs2]; omega, by rw [hs2]; omega, g1.trans (g2.mono g1.size)⟩
  clear g1 g2 hs1 hs2 x0 x1
  go_enter Try.func25, Try.ntmps25
  go_wp2_with fail
  go_ret
  exact ⟨_, _, rfl, H.out⟩
end Go.Proofs.Ytmbkdollakbigaa

/- Walks of the program's dataOf, layersUpTo. -/
import Derived.Test.YtmbkdollakbigaaKOver
import Derived.Test.YtmbkdollakbigaaKReadS
import Derived.Test.YtmbkdollakbigaaKTxt
namespace Go.Proofs.Ytmbkdollakbigaa
set_option maxRecDepth 100000
open Go Go.ChangeShapes Go.WideShapes Go.ChangeAt Go.RowKit Go.Shelf
theorem keptE_inv0 {H : Type} {v : Value} {z : DataW H × List MemPlace} (h : keptE (H := H) v = some z) : ∃ s : ByteArray, v = .agg #[.string s] := by
  cases v
  case agg cells =>
    obtain ⟨l⟩ := cells
    cases l with
    | nil => exact absurd (show (none : Option (DataW H × List MemPlace)) = some z from h) (by simp)
    | cons a l =>
      cases l with
      | nil =>
        cases a
        case string s => exact ⟨s, rfl⟩
        all_goals exact absurd (show (none : Option (DataW H × List MemPlace)) = some z from h) (by simp)
      | cons b l => exact absurd (show (none : Option (DataW H × List MemPlace)) = some z from h) (by simp)
  all_goals exact absurd (show (none : Option (DataW H × List MemPlace)) = some z from h) (by simp)
theorem keptE_inv {H : Type} {v : Value} {l : List UInt8} {ps : List MemPlace} (h : keptE (H := H) v = some (.lit (.string l), ps)) : ∃ s : ByteArray, v = .agg #[.string s] ∧ s.data.toList = l := by
  obtain ⟨s, rfl⟩ := keptE_inv0 h
  rw [keptE_mk] at h
  cases h
  exact ⟨s, rfl, rfl⟩
theorem dataOf_any {H : Type} (M N : Nat) (D : DataW H) (T : Int → ByteArray) (x : Int) (w : World) (hx : 0 ≤ x ∧ x ≤ 15) (hown : w.ownsMap Try.prog 3 keptE M N D) (hT : Tells7 D T) :
    Calls Try.prog 29 #[.map (some M), .int .i64 x] w fun e w' => e = .returned (.string (T x)) ∧ Below w.heap.size w w' := by
  have hwf : (Lit.int .i64 x).wf = true := by have h63 : IntKind.i64.min = -9223372036854775808 := rfl; have h64 : IntKind.i64.max = 9223372036854775807 := rfl; simp only [Lit.wf, h63, h64, Bool.and_eq_true, decide_eq_true_eq]; omega
  obtain ⟨v, ps, hrun, hv⟩ := hown.look_ok (Maps.int_keyed Try.underlying3) Try.underlying46 (Try.zeroValue53 w) (keptE_mk _) (Maps.keyOf_int_mk Try.underlying3 hwf)
  rcases hT.2 x with ⟨h1, h2⟩ | ⟨h1, h2⟩
  · rw [h1] at hrun
    rw [h2] at hv
    obtain ⟨s, rfl, hs⟩ := keptE_inv hv
    have hst : T x = s := by
      have : (T x).data = s.data := Array.toList_inj.1 hs.symm
      cases hq : T x; cases s; simp_all
    rw [hst]
    have HB := hid (boxB w (.cells #[.string s] 53))
    have y0 : (w.alloc (.cells #[.string s] 53)).cell? ⟨w.heap.size, 0, none⟩ = some (.string s) := box_cell (heap_last _ _) 0
    clear hv hs hst h1 h2 hwf hown hT hx
    go_enter Try.func29, Try.ntmps29
    go_wp2_with fail
    go_ret
    exact ⟨rfl, HB.out⟩
  · rw [h1] at hrun
    obtain ⟨s, rfl⟩ := keptE_inv0 hv
    rw [h2]
    have HB := hid (boxB w (.cells #[.string s] 53))
    clear hv h1 h2 hwf hown hT hx
    go_enter Try.func29, Try.ntmps29
    go_wp2_with fail
    go_ret
    exact ⟨rfl, HB.out⟩
theorem layersUpTo_any (a : Option Addr) (cap n : Nat) (x : Int) (w : World) :
    Calls Try.prog 25 #[.agg #[.slice a n cap], .int .i64 x] w fun e w' => e = .returned (.func (.func 47) #[] #[.pointer (some ⟨w.heap.size, 0, none⟩), .pointer (some ⟨w.heap.size + 1, 0, none⟩)]) ∧ w' = (w.alloc (.cells #[.slice a n cap] 31)).alloc (.cells #[.int .i64 x] 3) := by
  go_enter Try.func25, Try.ntmps25
  go_wp2_with fail
  go_ret
  exact ⟨rfl, rfl⟩
theorem rises {S : List Ly} (h : LysOk S) : ∀ d i (g : i + d + 1 < S.length), S[i].mark < S[i + d + 1].mark
  | 0, i, g => by
    have := (h (i + 1) g).1
    rw [aheadM_at S i (by omega)] at this
    exact this
  | d + 1, i, g => by
    have h1 := rises h d i (by omega)
    have h2 := (h (i + (d + 1) + 1) g).1
    rw [aheadM_at S (i + (d + 1)) (by omega)] at h2
    exact Int.lt_trans h1 h2
theorem rise_lt {S : List Ly} (h : LysOk S) (i j : Nat) (hij : i < j) (g : j < S.length) : S[i].mark < S[j].mark := by
  obtain ⟨d, rfl⟩ : ∃ d, j = i + d + 1 := ⟨j - i - 1, by omega⟩
  exact rises h d i g
theorem up_fnd {S : List Ly} {x : Int} (h : GoodK S) (g : fndK S x < S.length) : up S x = fndK S x + 1 := by
  have hm : S[fndK S x].mark = x := by
    have := List.findIdx_getElem (w := g)
    simp at this; exact this
  generalize fndK S x = k at *
  by_cases h1 : up S x ≤ k
  · have hu : up S x < S.length := by omega
    have := up_at hu
    by_cases e : up S x = k
    · simp only [e] at this; omega
    · have := rise_lt h.2.2 (up S x) k (by omega) g; omega
  · by_cases h2 : k + 1 < up S x
    · have hl := up_le S x
      have h3 := up_lt h2 (by omega)
      have := rise_lt h.2.2 k (k + 1) (by omega) (by omega)
      omega
    · omega
theorem atB_size {bl : List Int} {dt : List ByteArray} (x : Int) {s : ByteArray} (hs : s.size = 2) (hd : ∀ j (h : j < dt.length), dt[j].size = 2) : ∀ j, j ≤ dt.length → (atB bl dt x s j).size = 2
  | 0, _ => hs
  | j + 1, h => by
    show (if bl.getD j 0 = x then dt.getD j ⟨#[]⟩ else atB bl dt x s j).size = 2
    by_cases e : bl.getD j 0 = x
    · rw [if_pos e, List.getD_eq_getElem?_getD, List.getElem?_eq_getElem (by omega)]; exact hd j (by omega)
    · rw [if_neg e]; exact atB_size x hs hd j (by omega)
theorem atL_size {S : List Ly} (x : Int) (h : GoodK S) : ∀ k, k ≤ S.length → (atL S x k).size = 2
  | 0, _ => rfl
  | k + 1, g => by
    rw [atL_at S x k g]
    have hl := (h.2.2 k g).2.2.2
    exact atB_size x (atL_size x h k (by omega)) hl.2.2 _ (by rw [hl.2.1]; exact Nat.le_refl _)
theorem over_any (Bm Bx : Nat) (a : Option Addr) (cap : Nat) (S : List Ly) (x : Int) (w : World) (hg : GoodK S) (hf : ∀ k (h : k < S.length), S[k].bl.length ≤ 1048576) (hBm : Bm < w.heap.size) (hBx : Bx < w.heap.size)
    (hcm : w.cell? ⟨Bm, 0, none⟩ = some (.slice a S.length cap)) (hcx : w.cell? ⟨Bx, 0, none⟩ = some (.int .i64 x)) (hG : Ys w.heap.size a S w) :
    Calls Try.prog 24 #[.func (.func 47) #[] #[.pointer (some ⟨Bm, 0, none⟩), .pointer (some ⟨Bx, 0, none⟩)]] w fun e w' => e = .returned (.map (some w.heap.size)) ∧ (∃ (D : DataW Unit) (N : Nat), w'.ownsMap Try.prog 3 keptE w.heap.size N D ∧ Tells7 D (fun y => atL S y (up S x))) ∧ Below w.heap.size w w' := by
  obtain ⟨b, off, A, rfl, hA⟩ := hG.pick (by have := hg.1; omega)
  have h8 := hg.2.1
  exact (callsIn_wide (n := 6)).1 (blocksOver_in Fence.wide 6 trivial rfl (by omega) 47 _ trivial (enters_of Try.func47 (by kernel_rfl) rfl) S A b off (up S x) w (by omega) (up_le S x) _
    (fun W0 h0 => upTo_stops Fence.wide 5 trivial rfl (by omega) Bm Bx w.heap.size b off cap S x A W0 (by omega) hBm hBx h0.size ((h0.cell (p := ⟨Bm, 0, none⟩) hBm).trans hcm) ((h0.cell (p := ⟨Bx, 0, none⟩) hBx).trans hcx) (hA.below h0)) hA
    (fun k hk => ⟨hf k hk, (hg.2.2 k hk).2.2.2.2.1, fun j hj => ((hg.2.2 k hk).2.2.2.1 j hj).2⟩))
end Go.Proofs.Ytmbkdollakbigaa

/- The rows that l7Put lays for a block that is new: their first halves. -/
import Derived.Test.YtmbkdollakbigaaKTk
import Derived.Test.YtmbkdollakbigaaKLof
namespace Go.Proofs.Ytmbkdollakbigaa
set_option maxRecDepth 100000
open Go Go.ChangeShapes Go.WideShapes Go.ChangeAt Go.RowKit
theorem put_new (W : World) (p q : Option Addr) (c d : Nat) (bl : List Int) (dt : List ByteArray) (k : Nat) (b : Int) (s : ByteArray) (hk : k ≤ bl.length) (hl : dt.length = bl.length) (h16 : bl.length ≤ 16) (rI : Is W.heap.size p bl W) (rS : Ss W.heap.size q dt W) :
    ∃ a1 e1 W1 v2 W2 a3 e3 W3 v4 W4,
      (∀ ty, (Builtin.append_ #[26, 26] ty #[.slice (some ⟨W.heap.size, 0, none⟩) 0 0, .slice p (bl.take k).length c]).run Try.prog (W.alloc (.cells #[] 3)) = .ok (.slice a1 (bl.take k).length e1) W1) ∧
      (∀ ty, (Builtin.append_ #[26, 26] ty #[.slice a1 (bl.take k).length e1, .slice (some ⟨W1.heap.size, 0, none⟩) 1 1]).run Try.prog (W1.alloc (.cells #[.int .i64 b] 3)) = .ok v2 W2) ∧
      (∀ ty, (Builtin.append_ #[62, 62] ty #[.slice (some ⟨W2.heap.size, 0, none⟩) 0 0, .slice q (dt.take k).length d]).run Try.prog (W2.alloc (.cells #[] 9)) = .ok (.slice a3 (dt.take k).length e3) W3) ∧
      (∀ ty, (Builtin.append_ #[62, 62] ty #[.slice a3 (dt.take k).length e3, .slice (some ⟨W3.heap.size, 0, none⟩) 1 1]).run Try.prog (W3.alloc (.cells #[.string s] 9)) = .ok v4 W4) ∧
      Below W.heap.size W W1 ∧ Below W.heap.size W W2 ∧ Below W.heap.size W W3 ∧ Below W.heap.size W W4 ∧
      W4.ownsRow W.heap.size 3 1 v2 ((bl.take k).length + 1) (ivals (bl.take k) ++ ivals [b]) ∧ W4.ownsRow W.heap.size 9 1 v4 ((dt.take k).length + 1) (svals (dt.take k) ++ svals [s]) ∧ (∀ g, v2.ownBlock = some g → v4.ownBlock ≠ some g) := by
  have hbk : (bl.take k).length ≤ 16 := by rw [List.length_take]; omega
  have hdk : (dt.take k).length ≤ 16 := by rw [List.length_take]; omega
  have b0 := boxB W (.cells #[] 3)
  have z0 : (W.alloc (.cells #[] 3)).heap.size = W.heap.size + 1 := heap_size _ _
  obtain ⟨a1, e1, W1, r1, o1, g1, k1⟩ := app_int_own (W.alloc (.cells #[] 3)) W.heap.size W.heap.size p c (bl.take k) (World.ownsRow_made W #[] 0 (Nat.le_refl _) (by decide) rfl) (((rI.takeK k).below b0).mono b0.size) (by omega) b0.size
  have hb1 : Below W.heap.size W W1 := b0.trans (below_of_grown g1 b0.size (fun j e => by injection e with e; omega))
  have s1 := hb1.size
  have b1 := boxB W1 (.cells #[.int .i64 b] 3)
  have z1 : (W1.alloc (.cells #[.int .i64 b] 3)).heap.size = W1.heap.size + 1 := heap_size _ _
  obtain ⟨v2, W2, r2, o2, g2, n2⟩ := app_int (W1.alloc (.cells #[.int .i64 b] 3)) W.heap.size (.slice a1 (bl.take k).length e1) (bl.take k).length (ivals (bl.take k)) (rw_below o1 b1) (some ⟨W1.heap.size, 0, none⟩) 1 [b] (irow_oneK W1 b) (by show (bl.take k).length + 1 ≤ 10000; omega) (by omega)
  have hb2 : Below W.heap.size W W2 := hb1.trans ((b1.mono s1).trans (below_of_grown g2 (by omega) (fun j e => (o1.lt j e).1)))
  have s2 := hb2.size
  have s12 : W1.heap.size + 1 ≤ W2.heap.size := by have := g2.size; omega
  have b2 := boxB W2 (.cells #[] 9)
  have z2 : (W2.alloc (.cells #[] 9)).heap.size = W2.heap.size + 1 := heap_size _ _
  have b02 : Below W.heap.size W (W2.alloc (.cells #[] 9)) := hb2.trans (b2.mono s2)
  obtain ⟨a3, e3, W3, r3, o3, g3, k3⟩ := app_str_own (W2.alloc (.cells #[] 9)) W2.heap.size W2.heap.size q d (dt.take k) (World.ownsRow_made W2 #[] 0 (Nat.le_refl _) (by decide) rfl) (((rS.takeK k).below b02).mono b02.size) (by omega) b2.size
  have hb23 : Below W2.heap.size W2 W3 := b2.trans (below_of_grown g3 b2.size (fun j e => by injection e with e; omega))
  have hb3 : Below W.heap.size W W3 := hb2.trans (hb23.mono s2)
  have s3 := hb23.size
  have b3 := boxB W3 (.cells #[.string s] 9)
  have z3 : (W3.alloc (.cells #[.string s] 9)).heap.size = W3.heap.size + 1 := heap_size _ _
  obtain ⟨v4, W4, r4, o4, g4, n4⟩ := app_str (W3.alloc (.cells #[.string s] 9)) W2.heap.size (.slice a3 (dt.take k).length e3) (dt.take k).length (svals (dt.take k)) (rw_below o3 b3) (some ⟨W3.heap.size, 0, none⟩) 1 [s] (srow_one W3 s) (by show (dt.take k).length + 1 ≤ 10000; omega) (by omega)
  have hb34 : Below W2.heap.size W3 W4 := (b3.mono s3).trans (below_of_grown g4 (by omega) (fun j e => (o3.lt j e).1))
  have hb24 : Below W2.heap.size W2 W4 := hb23.trans hb34
  refine ⟨a1, e1, W1, v2, W2, a3, e3, W3, v4, W4, r1, r2, r3, r4, hb1, hb2, hb3, hb2.trans (hb24.mono s2), rw_below o2 hb24, rw_mono o4 s2, fun g h1 h2 => ?_⟩
  have h3 := (o2.lt g h1).2
  have h4 := (o4.lt g h2).1
  omega
end Go.Proofs.Ytmbkdollakbigaa

/- Marks over rows of packets. -/
import Derived.Test.YtfkcfachbfbmpaaPkM
namespace Go.Proofs.Ytfkcfachbfbmpaa
set_option maxRecDepth 100000
open Go.ChangeShapes Go.WideShapes Go.ChangeAt Go.RowKit
def mpk (k : Nat) : Pk := ⟨k, markT (k + 1)⟩
def pmarks (n k : Nat) : List Pk := (List.range n).map fun i => mpk (k + 2 * i)
theorem pmarks_len (n k : Nat) : (pmarks n k).length = n := by simp [pmarks]
theorem pmarks_at (n k i : Nat) (h : i < (pmarks n k).length) : (pmarks n k)[i] = mpk (k + 2 * i) := by simp [pmarks]
theorem val_iN {k : IntKind} {a b : Int} (h : a = b) : Value.int k a = .int k b := by rw [h]
theorem OwnP.out {lo hi l2 h2 : Nat} {a : Option Addr} {l : List Pk} {w w' : World} (h : OwnP lo hi a l w) (g : Out l2 h2 w w') (hd : hi ≤ l2 ∨ h2 ≤ lo) : OwnP lo hi a l w' := by
  rcases h with h | ⟨R, h1, h3, e, hr⟩
  · exact Or.inl h
  · exact Or.inr ⟨R, h1, h3, e, hr.same g.size (g.block R hr.lt (by omega))⟩
end Go.Proofs.Ytfkcfachbfbmpaa

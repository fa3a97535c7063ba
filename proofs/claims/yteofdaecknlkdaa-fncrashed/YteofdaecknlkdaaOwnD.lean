/- Devices that are owned. -/
import Derived.Test.YteofdaecknlkdaaO
import Derived.Test.YteofdaecknlkdaaOut
namespace Go.Proofs.Yteofdaecknlkdaa
set_option maxRecDepth 100000
open Go.ChangeShapes Go.WideShapes Go.ChangeAt Go.RowKit
/-- a device's zones, owned in blocks lo .. hi - 1 (or none) -/
def Own (lo hi : Nat) (a : Option Addr) (zs : List Zn) (w : World) : Prop := zs = [] ∨ ∃ R, lo ≤ R ∧ R < hi ∧ a = some ⟨R, 0, none⟩ ∧ ZRow R zs w
theorem Own.out {lo hi l2 h2 : Nat} {a : Option Addr} {zs : List Zn} {w w' : World} (h : Own lo hi a zs w) (g : Out l2 h2 w w') (hd : hi ≤ l2 ∨ h2 ≤ lo) : Own lo hi a zs w' := by
  rcases h with h | ⟨R, h1, h3, e, hr⟩
  · exact Or.inl h
  · exact Or.inr ⟨R, h1, h3, e, hr.same g.size (g.block R hr.lt (by omega))⟩
theorem Own.below {lo hi : Nat} {a : Option Addr} {zs : List Zn} {w w' : World} (h : Own lo hi a zs w) (g : Below w.heap.size w w') : Own lo hi a zs w' := by
  rcases h with h | ⟨R, h1, h3, e, hr⟩
  · exact Or.inl h
  · exact Or.inr ⟨R, h1, h3, e, hr.below g⟩
theorem Own.zs {lo hi : Nat} {a : Option Addr} {zs : List Zn} {w : World} (h : Own lo hi a zs w) : Zs w.heap.size a zs w := by
  rcases h with rfl | ⟨R, h1, h3, rfl, hr⟩
  · exact ⟨fun h0 => absurd h0 (by simp)⟩
  · exact hr.sl hr.lt
end Go.Proofs.Yteofdaecknlkdaa

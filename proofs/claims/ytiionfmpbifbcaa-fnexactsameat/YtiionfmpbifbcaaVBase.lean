/- Small facts that all texts of volumes use. -/
import Derived.WalkKit
import Derived.ProofKit
import Derived.BigQuiet
import Derived.Test.YtiionfmpbifbcaaGRow
namespace Go.Proofs.Ytiionfmpbifbcaa
open Go Go.RowKit
theorem hid {p : Prop} (h : p) : Hid p := h
theorem belowN (w : World) (n : Nat) : Below w.heap.size w (w.drewN n) := ⟨rfl, rfl, rfl, Nat.le_refl _, fun _ _ => rfl⟩
theorem boxB (w : World) (o : Obj) : Below w.heap.size w (w.alloc o) := (Below.refl _ _).alloc (Nat.le_refl _) _
theorem box_cell {wr : World} {R : Nat} {cs : Array Value} {t : TypeId} (h : wr.heap[R]? = some (.cells cs t)) (i : Nat) : wr.cell? ⟨R, i, none⟩ = cs[i]? := by
  unfold World.cell?
  rw [h]
  rfl
theorem box_free {wr : World} {R : Nat} {cs : Array Value} {t : TypeId} (h : wr.heap[R]? = some (.cells cs t)) (i : Nat) : wr.frozen? ⟨R, i, none⟩ = false := by
  unfold World.frozen?
  rw [h]
  simp
theorem box_set {wr : World} {R : Nat} {cs : Array Value} {t : TypeId} (h : wr.heap[R]? = some (.cells cs t)) (i : Nat) (u : Value) : (wr.setCell ⟨R, i, none⟩ u).heap[R]? = some (.cells (cs.setIfInBounds i u) t) := by
  unfold World.setCell
  simp only
  rw [Array.getElem?_modify, if_pos rfl, h]
  rfl
theorem keepB (w : World) (R i : Nat) (u : Value) (k : Nat) (h : k ≠ R) : (w.setCell ⟨R, i, none⟩ u).heap[k]? = w.heap[k]? := Below.heap_setCell _ _ _ _ h
theorem setB {B : Nat} {a w : World} (h : Below B a w) (R i : Nat) (hp : B ≤ R) (u : Value) : Below B a (w.setCell ⟨R, i, none⟩ u) := h.setCell hp u
theorem ret_bd {a b : Bool} (h : a = b) : Ending.returned (.bool a) = .returned (.bool b) := by rw [h]
end Go.Proofs.Ytiionfmpbifbcaa

/- Walk of the model's GoodHeap. -/
import Derived.Test.YtbomcppkgpfjjaaHMem
import Derived.Test.YtbomcppkgpfjjaaHBool
import Derived.Test.YtbomcppkgpfjjaaHAll
import Derived.Laws.MakeOwn
import Derived.Deep.QuietTactic
import Derived.BigQuiet
namespace Go.Proofs.Ytbomcppkgpfjjaa
set_option maxRecDepth 100000
open Go.ChangeShapes Go.WideShapes Go.ChangeAt Go.RowKit G00541
theorem hid {p : Prop} (h : p) : Hid p := h
theorem belowN (w : World) (n : Nat) : Below w.heap.size w (w.drewN n) := ⟨rfl, rfl, rfl, Nat.le_refl _, fun _ _ => rfl⟩
theorem make_ints16 (W : World) : (Instr.makeSlice 27 (.int .i64 16) (.int .i64 16)).run Try.prog W =
    .ok (.slice (some ⟨W.heap.size, 0, none⟩) 16 16) (W.alloc (.cells (madeCells (Value.int .i64 0).cells 16) 3)) := make_ints 16 (by omega) W
theorem make_bools16 (W : World) : (Instr.makeSlice 44 (.int .i64 16) (.int .i64 16)).run Try.prog W =
    .ok (.slice (some ⟨W.heap.size, 0, none⟩) 16 16) (W.alloc (.cells (madeCells (Value.bool false).cells 16) 4)) := make_bools 16 (by omega) W
/-- what GoodHeap keeps: the box of its argument, how often each block is live, which was ever written -/
structure GH (w : World) (o : Obj) (P : List (Int × Bool)) (wr : World) : Prop where
  below : Below w.heap.size w wr
  box : wr.heap[w.heap.size]? = some o
  live : IRow (w.heap.size + 1) (liveL P) wr
  ever : BRow (w.heap.size + 2) (everL P) wr
theorem GH.size {w : World} {o : Obj} {P : List (Int × Bool)} {wr : World} (h : GH w o P wr) : w.heap.size + 3 ≤ wr.heap.size := by have := h.ever.lt; omega
theorem GH.on {w : World} {o : Obj} {P : List (Int × Bool)} {wr w' : World} (h : GH w o P wr) (g : Below wr.heap.size wr w') : GH w o P w' := by
  have := h.size
  exact ⟨h.below.trans (g.mono (by omega)), (g.block _ (by omega)).trans h.box, h.live.below g, h.ever.below g⟩
theorem box_cell {wr : World} {R : Nat} {cs : Array Value} {t : TypeId} (h : wr.heap[R]? = some (.cells cs t)) (i : Nat) : wr.cell? ⟨R, i, none⟩ = cs[i]? := by
  unfold World.cell?
  rw [h]
  rfl
theorem keepB (w : World) (R i : Nat) (u : Value) (k : Nat) (h : k ≠ R) : (w.setCell ⟨R, i, none⟩ u).heap[k]? = w.heap[k]? := Below.heap_setCell _ _ _ _ h
theorem setB {B : Nat} {a w : World} (h : Below B a w) (R i : Nat) (hp : B ≤ R) (u : Value) : Below B a (w.setCell ⟨R, i, none⟩ u) := h.setCell hp u
theorem GH.setE {w : World} {o : Obj} {P : List (Int × Bool)} {wr : World} (h : GH w o P wr) (b : Nat) (hb : b < 16) (v : Bool) : GH w o P wr → IRow (w.heap.size + 1) (liveL P) (wr.setCell ⟨w.heap.size + 2, b, none⟩ (.bool true)) ∧ BRow (w.heap.size + 2) (everL (P ++ [((b : Int), v)])) (wr.setCell ⟨w.heap.size + 2, b, none⟩ (.bool true)) := fun _ => by
  constructor
  · exact h.live.same (by simp [World.setCell]) (keepB _ _ _ _ _ (by omega))
  · rw [everL_snoc]
    exact h.ever.set b (by rw [everL_len]; exact hb) true
/-- the next block, not live -/
theorem GH.no {w : World} {o : Obj} {P : List (Int × Bool)} {wr : World} (h : GH w o P wr) (b : Nat) (hb : b < 16) : GH w o (P ++ [((b : Int), false)]) (wr.setCell ⟨w.heap.size + 2, b, none⟩ (.bool true)) := by
  obtain ⟨h1, h2⟩ := h.setE b hb false h
  refine ⟨?_, (keepB _ _ _ _ _ (by omega)).trans h.box, by rw [liveL_no]; exact h1, h2⟩
  exact setB h.below _ _ (by omega) _
/-- the next block, live -/
theorem GH.yes {w : World} {o : Obj} {P : List (Int × Bool)} {wr : World} (h : GH w o P wr) (b : Nat) (hb : b < (liveL P).length) : GH w o (P ++ [((b : Int), true)]) ((wr.setCell ⟨w.heap.size + 2, b, none⟩ (.bool true)).setCell ⟨w.heap.size + 1, b, none⟩ (.int .i64 ((liveL P)[b] + 1))) := by
  have hb' : b < 16 := by rw [liveL_len] at hb; exact hb
  obtain ⟨h1, h2⟩ := h.setE b hb' true h
  refine ⟨?_, (keepB _ _ _ _ _ (by omega)).trans ((keepB _ _ _ _ _ (by omega)).trans h.box), ?_, ?_⟩
  · exact setB (setB h.below _ _ (by omega) _) _ _ (by omega) _
  · rw [liveL_yes P b hb]
    exact h1.set b hb _
  · exact h2.same (by simp [World.setCell]) (keepB _ _ _ _ _ (by omega))
end Go.Proofs.Ytbomcppkgpfjjaa

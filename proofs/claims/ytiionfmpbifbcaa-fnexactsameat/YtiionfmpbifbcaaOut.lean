/- Worlds that part in a range of blocks alone, and in new ones; single cells that are kept. -/
import Derived.Test.YtiionfmpbifbcaaBut
namespace Go.Proofs.Ytiionfmpbifbcaa
open Go Go.RowKit
/-- what was there stands as it stood, but for the blocks lo .. hi - 1 -/
structure Out (lo hi : Nat) (w w' : World) : Prop where
  os : w'.os = w.os
  tape : w'.tape = w.tape
  output : w'.output = w.output
  size : w.heap.size ≤ w'.heap.size
  block : ∀ k, k < w.heap.size → (k < lo ∨ hi ≤ k) → w'.heap[k]? = w.heap[k]?
theorem Out.refl (lo hi : Nat) (w : World) : Out lo hi w w := ⟨rfl, rfl, rfl, Nat.le_refl _, fun _ _ _ => rfl⟩
theorem Out.ofBelow {lo hi : Nat} {w w' : World} (h : Below w.heap.size w w') : Out lo hi w w' := ⟨h.os, h.tape, h.output, h.size, fun k hk _ => h.block k hk⟩
theorem Out.ofBut {lo hi R : Nat} {w w' : World} (h : But R w w') (h1 : lo ≤ R) (h2 : R < hi) : Out lo hi w w' := ⟨h.os, h.tape, h.output, h.size, fun k hk hb => h.block k hk (by omega)⟩
theorem Out.trans {lo hi : Nat} {w w1 w2 : World} (h : Out lo hi w w1) (g : Out lo hi w1 w2) : Out lo hi w w2 :=
  ⟨g.os.trans h.os, g.tape.trans h.tape, g.output.trans h.output, Nat.le_trans h.size g.size, fun k hk hb => (g.block k (Nat.lt_of_lt_of_le hk h.size) hb).trans (h.block k hk hb)⟩
theorem Out.alloc {lo hi : Nat} {w w' : World} (h : Out lo hi w w') (o : Obj) : Out lo hi w (w'.alloc o) :=
  ⟨h.os, h.tape, h.output, by have := h.size; simp; omega, fun k hk hb => (Below.heap_alloc _ _ _ (Nat.lt_of_lt_of_le hk h.size)).trans (h.block k hk hb)⟩
theorem Out.below {lo hi B : Nat} {w w' : World} (h : Out lo hi w w') (h1 : B ≤ lo) (h2 : B ≤ w.heap.size) : Below B w w' :=
  ⟨h.os, h.tape, h.output, h.size, fun k hk => h.block k (by omega) (by omega)⟩
/-- cells of the law's own variables: each a block of one cell -/
def Loc (L : List (Nat × Value × TypeId)) (w : World) : Prop := ∀ x ∈ L, w.heap[x.1]? = some (.cells #[x.2.1] x.2.2)
theorem Loc.nil (w : World) : Loc [] w := fun _ h => by cases h
theorem Loc.cons {x : Nat × Value × TypeId} {L : List (Nat × Value × TypeId)} {w : World} (h : w.heap[x.1]? = some (.cells #[x.2.1] x.2.2)) (g : Loc L w) : Loc (x :: L) w := fun y hy => by
  rcases List.mem_cons.1 hy with rfl | hy
  · exact h
  · exact g y hy
theorem Loc.lt {L : List (Nat × Value × TypeId)} {w : World} (h : Loc L w) (x : Nat × Value × TypeId) (hx : x ∈ L) : x.1 < w.heap.size := by
  rcases Nat.lt_or_ge x.1 w.heap.size with h' | h'
  · exact h'
  · have := h x hx
    rw [Array.getElem?_eq_none h'] at this; cases this
theorem Loc.out {L : List (Nat × Value × TypeId)} {lo hi : Nat} {w w' : World} (h : Loc L w) (g : Out lo hi w w') (hL : ∀ x ∈ L, x.1 < lo ∨ hi ≤ x.1) : Loc L w' := fun x hx =>
  (g.block x.1 (h.lt x hx) (hL x hx)).trans (h x hx)
theorem Loc.below {L : List (Nat × Value × TypeId)} {w w' : World} (h : Loc L w) (g : Below w.heap.size w w') : Loc L w' := fun x hx =>
  (g.block x.1 (h.lt x hx)).trans (h x hx)
theorem Loc.alloc {L : List (Nat × Value × TypeId)} {w : World} (h : Loc L w) (v : Value) (t : TypeId) : Loc ((w.heap.size, v, t) :: L) (w.alloc (.cells #[v] t)) := by
  refine Loc.cons ?_ (h.below ((Below.refl _ _).alloc (Nat.le_refl _) _))
  show (w.heap.push _)[w.heap.size]? = _
  rw [Array.getElem?_push_size]
theorem Loc.cell {L : List (Nat × Value × TypeId)} {w : World} (h : Loc L w) (k : Nat) (v : Value) (t : TypeId) (hx : (k, v, t) ∈ L) : w.cell? ⟨k, 0, none⟩ = some v := by
  have := h _ hx
  unfold World.cell?
  rw [this]
  rfl
theorem Loc.free {L : List (Nat × Value × TypeId)} {w : World} (h : Loc L w) (k : Nat) (v : Value) (t : TypeId) (hx : (k, v, t) ∈ L) : w.frozen? ⟨k, 0, none⟩ = false := by
  have := h _ hx
  unfold World.frozen?
  rw [this]
  rfl
theorem Loc.set {L : List (Nat × Value × TypeId)} {w : World} (h : Loc L w) (R i : Nat) (v : Value) (hL : ∀ x ∈ L, x.1 ≠ R) : Loc L (w.setCell ⟨R, i, none⟩ v) := fun x hx =>
  (Below.heap_setCell _ _ _ _ (hL x hx)).trans (h x hx)
end Go.Proofs.Ytiionfmpbifbcaa

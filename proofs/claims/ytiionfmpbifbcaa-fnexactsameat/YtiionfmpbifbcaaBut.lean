/- Worlds that part in one block alone, and in new ones. -/
import Derived.WalkKit
import Derived.Test.YtiionfmpbifbcaaBytes
namespace Go.Proofs.Ytiionfmpbifbcaa
open Go Go.RowKit
/-- what was there stands as it stood, but for block B -/
structure But (B : Nat) (w w' : World) : Prop where
  os : w'.os = w.os
  tape : w'.tape = w.tape
  output : w'.output = w.output
  size : w.heap.size ≤ w'.heap.size
  block : ∀ k, k < w.heap.size → k ≠ B → w'.heap[k]? = w.heap[k]?
theorem But.refl (B : Nat) (w : World) : But B w w := ⟨rfl, rfl, rfl, Nat.le_refl _, fun _ _ _ => rfl⟩
theorem But.trans {B : Nat} {w w1 w2 : World} (h : But B w w1) (g : But B w1 w2) : But B w w2 :=
  ⟨g.os.trans h.os, g.tape.trans h.tape, g.output.trans h.output, Nat.le_trans h.size g.size, fun k hk hB => (g.block k (Nat.lt_of_lt_of_le hk h.size) hB).trans (h.block k hk hB)⟩
theorem But.ofBelow {B : Nat} {w w' : World} (h : Below w.heap.size w w') : But B w w' :=
  ⟨h.os, h.tape, h.output, h.size, fun k hk _ => h.block k hk⟩
theorem But.below {B B0 : Nat} {w w' : World} (h : But B w w') (h1 : B0 ≤ B) (h2 : B0 ≤ w.heap.size) : Below B0 w w' :=
  ⟨h.os, h.tape, h.output, h.size, fun k hk => h.block k (by omega) (by omega)⟩
theorem But.setCell {B : Nat} {w w' : World} (h : But B w w') (i : Nat) (v : Value) : But B w (w'.setCell ⟨B, i, none⟩ v) :=
  ⟨by rw [← h.os]; rfl, by rw [← h.tape]; rfl, by rw [← h.output]; rfl, by have := h.size; simpa [World.setCell] using this, fun k hk hB => by
    rw [← h.block k hk hB]
    have : B ≠ k := fun e => hB e.symm
    simp [World.setCell, Array.getElem?_modify, this]⟩
theorem But.drew {B : Nat} {w w' : World} (h : But B w w') : But B w w'.drew := ⟨h.os, h.tape, h.output, h.size, h.block⟩
theorem But.alloc {B : Nat} {w w' : World} (h : But B w w') (o : Obj) : But B w (w'.alloc o) :=
  ⟨h.os, h.tape, h.output, by have := h.size; simp; omega, fun k hk hB => (Below.heap_alloc _ _ _ (Nat.lt_of_lt_of_le hk h.size)).trans (h.block k hk hB)⟩
theorem But.setNew {B R : Nat} {w w' : World} (h : But B w w') (hR : w.heap.size ≤ R) (i : Nat) (v : Value) : But B w (w'.setCell ⟨R, i, none⟩ v) :=
  ⟨h.os, h.tape, h.output, by have := h.size; simpa [World.setCell] using this, fun k hk hB => (Below.heap_setCell _ _ _ _ (by show k ≠ R; omega)).trans (h.block k hk hB)⟩
theorem byte_of (v : Int) (h0 : 0 ≤ v) (h1 : v < 256) : ∃ x : UInt8, v = (x.toNat : Int) :=
  ⟨UInt8.ofNat v.toNat, by rw [UInt8.toNat_ofNat_of_lt' (by show v.toNat < 256; omega)]; omega⟩
theorem But.cell {B : Nat} {w w' : World} (h : But B w w') (k i : Nat) (hk : k < w.heap.size) (hB : k ≠ B) : w'.cell? ⟨k, i, none⟩ = w.cell? ⟨k, i, none⟩ := by
  have := h.block k hk hB
  unfold World.cell?
  simp only [this]
theorem But.frozen {B : Nat} {w w' : World} (h : But B w w') (k i : Nat) (hk : k < w.heap.size) (hB : k ≠ B) : w'.frozen? ⟨k, i, none⟩ = w.frozen? ⟨k, i, none⟩ := by
  have := h.block k hk hB
  unfold World.frozen?
  simp only [this]
theorem ByteRow.but {R B : Nat} {l : List UInt8} {w w' : World} (h : ByteRow R l w) (g : But B w w') (hR : R ≠ B) : ByteRow R l w' :=
  ⟨Nat.lt_of_lt_of_le h.lt g.size, fun j hj => (g.cell R j h.lt hR).trans (h.cell j hj), fun j hj => (g.frozen R j h.lt hR).trans (h.free j hj)⟩
/-- a cursor at block B: the code, the place, the seed; the place at most N -/
structure Cur (B N : Nat) (sv : Value) (w : World) : Prop where
  lt : B < w.heap.size
  code : w.cell? ⟨B, 0, none⟩ = some sv
  place : ∃ p : Int, 0 ≤ p ∧ p ≤ N ∧ w.cell? ⟨B, 1, none⟩ = some (.int .i64 p)
  seed : ∃ s : Int, 0 ≤ s ∧ s < 18446744073709551616 ∧ w.cell? ⟨B, 2, none⟩ = some (.int .u64 s)
  free1 : w.frozen? ⟨B, 1, none⟩ = false
  free2 : w.frozen? ⟨B, 2, none⟩ = false
/-- a slice of bytes in memory below block B -/
structure Code (B len cap : Nat) (a : Option Addr) (w : World) : Prop where
  small : len ≤ 1048576
  cell : 0 < len → ∃ b off, a = some ⟨b, off, none⟩ ∧ b < B ∧ ∀ i, i < len → ∃ z : Int, 0 ≤ z ∧ z < 256 ∧ w.cell? ⟨b, off + i, none⟩ = some (.int .u8 z)
theorem Code.but {B B' len cap : Nat} {a : Option Addr} {w w' : World} (h : Code B len cap a w) (g : But B' w w') (h1 : B ≤ B') (h2 : B ≤ w.heap.size) : Code B len cap a w' := by
  refine ⟨h.small, fun h0 => ?_⟩
  obtain ⟨b, off, e, hb, hc⟩ := h.cell h0
  refine ⟨b, off, e, hb, fun i hi => ?_⟩
  obtain ⟨z, z0, z1, hz⟩ := hc i hi
  exact ⟨z, z0, z1, (g.cell b (off + i) (by omega) (by omega)).trans hz⟩
theorem Cur.below {B N : Nat} {sv : Value} {w w' : World} (h : Cur B N sv w) (g : Below w.heap.size w w') : Cur B N sv w' := by
  have hc : ∀ i, w'.cell? ⟨B, i, none⟩ = w.cell? ⟨B, i, none⟩ := fun i => g.cell (p := ⟨B, i, none⟩) h.lt
  have hf : ∀ i, w'.frozen? ⟨B, i, none⟩ = w.frozen? ⟨B, i, none⟩ := fun i => g.frozen (p := ⟨B, i, none⟩) h.lt
  obtain ⟨p, p0, p1, hp⟩ := h.place
  obtain ⟨s, s0, s1, hs⟩ := h.seed
  exact ⟨Nat.lt_of_lt_of_le h.lt g.size, (hc 0).trans h.code, ⟨p, p0, p1, (hc 1).trans hp⟩, ⟨s, s0, s1, (hc 2).trans hs⟩, (hf 1).trans h.free1, (hf 2).trans h.free2⟩
theorem Cur.but {B B' N : Nat} {sv : Value} {w w' : World} (h : Cur B N sv w) (g : But B' w w') (hB : B ≠ B') : Cur B N sv w' := by
  have hc : ∀ i, w'.cell? ⟨B, i, none⟩ = w.cell? ⟨B, i, none⟩ := fun i => g.cell B i h.lt hB
  have hf : ∀ i, w'.frozen? ⟨B, i, none⟩ = w.frozen? ⟨B, i, none⟩ := fun i => g.frozen B i h.lt hB
  obtain ⟨p, p0, p1, hp⟩ := h.place
  obtain ⟨s, s0, s1, hs⟩ := h.seed
  exact ⟨Nat.lt_of_lt_of_le h.lt g.size, (hc 0).trans h.code, ⟨p, p0, p1, (hc 1).trans hp⟩, ⟨s, s0, s1, (hc 2).trans hs⟩, (hf 1).trans h.free1, (hf 2).trans h.free2⟩
theorem Cur.mono {B N N' : Nat} {sv : Value} {w : World} (h : Cur B N sv w) (hN : N ≤ N') : Cur B N' sv w := by
  obtain ⟨p, p0, p1, hp⟩ := h.place
  exact ⟨h.lt, h.code, ⟨p, p0, by omega, hp⟩, h.seed, h.free1, h.free2⟩
theorem Cur.setOther {B N R : Nat} {sv : Value} {w : World} (h : Cur B N sv w) (hR : R ≠ B) (i : Nat) (v : Value) : Cur B N sv (w.setCell ⟨R, i, none⟩ v) :=
  h.but ((But.refl R w).setCell i v) (fun e => hR e.symm)
theorem Cur.alloc {B N : Nat} {sv : Value} {w : World} (h : Cur B N sv w) (o : Obj) : Cur B N sv (w.alloc o) := h.below ((Below.refl _ _).alloc (Nat.le_refl _) o)
/-- the cursor goes a place on -/
theorem Cur.step {B N : Nat} {sv : Value} {w : World} (h : Cur B N sv w) (p s : Int) (p0 : 0 ≤ p) (p1 : p ≤ N) (s0 : 0 ≤ s) (s1 : s < 18446744073709551616) :
    Cur B (N + 1) sv ((w.setCell ⟨B, 1, none⟩ (.int .i64 (p + 1))).setCell ⟨B, 2, none⟩ (.int .u64 s)) := by
  obtain ⟨q, _, _, hq⟩ := h.place
  obtain ⟨r, _, _, hr⟩ := h.seed
  have e12 : (⟨B, 1, none⟩ : Addr) ≠ ⟨B, 2, none⟩ := by simp
  have e10 : (⟨B, 1, none⟩ : Addr) ≠ ⟨B, 0, none⟩ := by simp
  have e20 : (⟨B, 2, none⟩ : Addr) ≠ ⟨B, 0, none⟩ := by simp
  have e21 : (⟨B, 2, none⟩ : Addr) ≠ ⟨B, 1, none⟩ := by simp
  refine ⟨by simpa [World.setCell] using h.lt, ?_, ⟨p + 1, by omega, by omega, ?_⟩, ⟨s, s0, s1, ?_⟩, ?_, ?_⟩
  · rw [World.cell?_setCell_other _ _ _ _ e20, World.cell?_setCell_other _ _ _ _ e10]; exact h.code
  · rw [World.cell?_setCell_other _ _ _ _ e21]; exact World.cell?_setCell_same _ _ _ hq
  · exact World.cell?_setCell_same _ _ _ ((World.cell?_setCell_other _ _ _ _ e12).trans hr)
  · rw [World.frozen?_setCell, World.frozen?_setCell]; exact h.free1
  · rw [World.frozen?_setCell, World.frozen?_setCell]; exact h.free2
theorem Cur.drew {B N : Nat} {sv : Value} {w : World} (h : Cur B N sv w) : Cur B N sv w.drew := ⟨h.lt, h.code, h.place, h.seed, h.free1, h.free2⟩
theorem Cur.start (sv : Value) (T : TypeId) (w : World) : Cur w.heap.size 0 sv (w.alloc (.cells #[sv, .int .i64 0, .int .u64 0] T)) :=
  ⟨by simp, by rw [World.cell?_alloc_new]; rfl, ⟨0, by omega, by omega, by rw [World.cell?_alloc_new]; rfl⟩, ⟨0, by omega, by omega, by rw [World.cell?_alloc_new]; rfl⟩, by go_simp, by go_simp⟩
theorem Code.start {len cap : Nat} {a : Option Addr} {w : World} (h : Code w.heap.size len cap a w) (o : Obj) : Code w.heap.size len cap a (w.alloc o) :=
  h.but ((But.refl w.heap.size _).alloc o) (Nat.le_refl _) (Nat.le_refl _)
theorem Code.below {B len cap : Nat} {a : Option Addr} {w w' : World} (h : Code B len cap a w) (g : Below B w w') : Code B len cap a w' := by
  refine ⟨h.small, fun h0 => ?_⟩
  obtain ⟨b, off, e, hb, hc⟩ := h.cell h0
  refine ⟨b, off, e, hb, fun i hi => ?_⟩
  obtain ⟨z, z0, z1, hz⟩ := hc i hi
  exact ⟨z, z0, z1, (g.cell (p := ⟨b, off + i, none⟩) hb).trans hz⟩
theorem Code.mono {B B' len cap : Nat} {a : Option Addr} {w : World} (h : Code B len cap a w) (hB : B ≤ B') : Code B' len cap a w :=
  ⟨h.small, fun h0 => by obtain ⟨b, off, e, hb, hc⟩ := h.cell h0; exact ⟨b, off, e, by omega, hc⟩⟩
theorem But.done {w w' : World} {o : Obj} (h : But w.heap.size (w.alloc o) w') : Below w.heap.size w w' :=
  ((Below.refl _ _).alloc (Nat.le_refl _) o).trans (h.below (Nat.le_refl _) (by simp))
end Go.Proofs.Ytiionfmpbifbcaa

/- Slices of numbers in memory. -/
import Derived.Test.YtiionfmpbifbcaaGRow
import Derived.Test.YtiionfmpbifbcaaOut
import Derived.WalkKit
import Derived.ProofKit
namespace Go.Proofs.Ytiionfmpbifbcaa
set_option maxRecDepth 100000
open Go Go.ChangeShapes Go.WideShapes Go.ChangeAt Go.RowKit
def icell (n : Int) : List Value := [.int .i64 n]
/-- a slice of numbers in memory below block B -/
def Is (B : Nat) (a : Option Addr) (l : List Int) (w : World) : Prop := GSl B 1 a (l.map icell) w
theorem Is.cell {B : Nat} {a : Option Addr} {l : List Int} {w : World} (h : Is B a l w) (h0 : 0 < l.length) : ∃ b off, a = some ⟨b, off, none⟩ ∧ b < B ∧ ∀ i (hi : i < l.length), w.cell? ⟨b, off + i, none⟩ = some (.int .i64 l[i]) := by
  obtain ⟨b, off, e, hb, hc⟩ := GSl.cell h (by simpa using h0)
  refine ⟨b, off, e, hb, fun i hi => ?_⟩
  have c0 := hc i (by simpa using hi) 0 (by decide)
  rw [List.getElem_map, Nat.mul_one, Nat.add_zero] at c0
  exact c0
theorem Is.below {B : Nat} {a : Option Addr} {l : List Int} {w w' : World} (h : Is B a l w) (g : Below B w w') : Is B a l w' := GSl.below h g
theorem Is.mono {B B' : Nat} {a : Option Addr} {l : List Int} {w : World} (h : Is B a l w) (hB : B ≤ B') : Is B' a l w := GSl.mono h hB
/-- a row of numbers that a call itself has made -/
def IRow (R : Nat) (l : List Int) (w : World) : Prop := GRow R 1 (l.map icell) w
theorem IRow.lt {R : Nat} {l : List Int} {w : World} (h : IRow R l w) : R < w.heap.size := GRow.lt h
theorem IRow.cell {R : Nat} {l : List Int} {w : World} (h : IRow R l w) (i : Nat) (hi : i < l.length) : w.cell? ⟨R, i, none⟩ = some (.int .i64 l[i]) := by
  have c0 := GRow.cell h i (by simpa using hi) 0 (by decide)
  rw [List.getElem_map, Nat.mul_one, Nat.add_zero] at c0
  exact c0
theorem IRow.free {R : Nat} {l : List Int} {w : World} (h : IRow R l w) (j : Nat) (hj : j < l.length) : w.frozen? ⟨R, j, none⟩ = false := GRow.free h j (by simpa using hj)
theorem IRow.below {R : Nat} {l : List Int} {w w' : World} (h : IRow R l w) (hb : Below w.heap.size w w') : IRow R l w' := GRow.below h hb
theorem IRow.same {R : Nat} {l : List Int} {w w' : World} (h : IRow R l w) (hs : w.heap.size ≤ w'.heap.size) (hb : w'.heap[R]? = w.heap[R]?) : IRow R l w' := GRow.same h hs hb
theorem IRow.sl {R B : Nat} {l : List Int} {w : World} (h : IRow R l w) (hB : R < B) : Is B (some ⟨R, 0, none⟩) l w := GRow.sl h hB
theorem IRow.set {R : Nat} {l : List Int} {w : World} (h : IRow R l w) (k : Nat) (hk : k < l.length) (n : Int) : IRow R (l.set k n) (w.setCell ⟨R, k, none⟩ (.int .i64 n)) := by
  have hk' : k < (l.map icell).length := by simpa using hk
  have := GRow.set h k 0 hk' (by decide) (.int .i64 n)
  rw [Nat.mul_one, Nat.add_zero] at this
  unfold IRow
  have e : (l.set k n).map icell = (l.map icell).set k ((l.map icell)[k].set 0 (.int .i64 n)) := by
    rw [List.map_set, List.getElem_map]; rfl
  rw [e]
  exact this
/-- numbers that are owned in blocks lo .. hi - 1 (or none) -/
def OwnI (lo hi : Nat) (a : Option Addr) (l : List Int) (w : World) : Prop := l = [] ∨ ∃ R, lo ≤ R ∧ R < hi ∧ a = some ⟨R, 0, none⟩ ∧ IRow R l w
theorem OwnI.out {lo hi l2 h2 : Nat} {a : Option Addr} {l : List Int} {w w' : World} (h : OwnI lo hi a l w) (g : Out l2 h2 w w') (hd : hi ≤ l2 ∨ h2 ≤ lo) : OwnI lo hi a l w' := by
  rcases h with h | ⟨R, h1, h3, e, hr⟩
  · exact Or.inl h
  · exact Or.inr ⟨R, h1, h3, e, hr.same g.size (g.block R hr.lt (by omega))⟩
theorem OwnI.below {lo hi : Nat} {a : Option Addr} {l : List Int} {w w' : World} (h : OwnI lo hi a l w) (g : Below w.heap.size w w') : OwnI lo hi a l w' := by
  rcases h with h | ⟨R, h1, h3, e, hr⟩
  · exact Or.inl h
  · exact Or.inr ⟨R, h1, h3, e, hr.below g⟩
theorem OwnI.is {lo hi : Nat} {a : Option Addr} {l : List Int} {w : World} (h : OwnI lo hi a l w) : Is w.heap.size a l w := by
  rcases h with rfl | ⟨R, h1, h3, rfl, hr⟩
  · exact ⟨fun h0 => absurd h0 (by simp)⟩
  · exact hr.sl hr.lt
end Go.Proofs.Ytiionfmpbifbcaa

/- Slices of texts in memory. -/
import Derived.Test.YtiionfmpbifbcaaGRow
import Derived.Test.YtiionfmpbifbcaaOut
import Derived.WalkKit
import Derived.ProofKit
namespace Go.Proofs.Ytiionfmpbifbcaa
set_option maxRecDepth 100000
open Go Go.ChangeShapes Go.WideShapes Go.ChangeAt Go.RowKit
def scell (n : ByteArray) : List Value := [.string n]
/-- a slice of texts in memory below block B -/
def Ss (B : Nat) (a : Option Addr) (l : List ByteArray) (w : World) : Prop := GSl B 1 a (l.map scell) w
theorem Ss.cell {B : Nat} {a : Option Addr} {l : List ByteArray} {w : World} (h : Ss B a l w) (h0 : 0 < l.length) : ∃ b off, a = some ⟨b, off, none⟩ ∧ b < B ∧ ∀ i (hi : i < l.length), w.cell? ⟨b, off + i, none⟩ = some (.string l[i]) := by
  obtain ⟨b, off, e, hb, hc⟩ := GSl.cell h (by simpa using h0)
  refine ⟨b, off, e, hb, fun i hi => ?_⟩
  have c0 := hc i (by simpa using hi) 0 (by decide)
  rw [List.getElem_map, Nat.mul_one, Nat.add_zero] at c0
  exact c0
theorem Ss.below {B : Nat} {a : Option Addr} {l : List ByteArray} {w w' : World} (h : Ss B a l w) (g : Below B w w') : Ss B a l w' := GSl.below h g
theorem Ss.mono {B B' : Nat} {a : Option Addr} {l : List ByteArray} {w : World} (h : Ss B a l w) (hB : B ≤ B') : Ss B' a l w := GSl.mono h hB
/-- a row of texts that a call itself has made -/
def SRow (R : Nat) (l : List ByteArray) (w : World) : Prop := GRow R 1 (l.map scell) w
theorem SRow.lt {R : Nat} {l : List ByteArray} {w : World} (h : SRow R l w) : R < w.heap.size := GRow.lt h
theorem SRow.cell {R : Nat} {l : List ByteArray} {w : World} (h : SRow R l w) (i : Nat) (hi : i < l.length) : w.cell? ⟨R, i, none⟩ = some (.string l[i]) := by
  have c0 := GRow.cell h i (by simpa using hi) 0 (by decide)
  rw [List.getElem_map, Nat.mul_one, Nat.add_zero] at c0
  exact c0
theorem SRow.free {R : Nat} {l : List ByteArray} {w : World} (h : SRow R l w) (j : Nat) (hj : j < l.length) : w.frozen? ⟨R, j, none⟩ = false := GRow.free h j (by simpa using hj)
theorem SRow.below {R : Nat} {l : List ByteArray} {w w' : World} (h : SRow R l w) (hb : Below w.heap.size w w') : SRow R l w' := GRow.below h hb
theorem SRow.same {R : Nat} {l : List ByteArray} {w w' : World} (h : SRow R l w) (hs : w.heap.size ≤ w'.heap.size) (hb : w'.heap[R]? = w.heap[R]?) : SRow R l w' := GRow.same h hs hb
theorem SRow.sl {R B : Nat} {l : List ByteArray} {w : World} (h : SRow R l w) (hB : R < B) : Ss B (some ⟨R, 0, none⟩) l w := GRow.sl h hB
theorem SRow.set {R : Nat} {l : List ByteArray} {w : World} (h : SRow R l w) (k : Nat) (hk : k < l.length) (n : ByteArray) : SRow R (l.set k n) (w.setCell ⟨R, k, none⟩ (.string n)) := by
  have hk' : k < (l.map scell).length := by simpa using hk
  have := GRow.set h k 0 hk' (by decide) (.string n)
  rw [Nat.mul_one, Nat.add_zero] at this
  unfold SRow
  have e : (l.set k n).map scell = (l.map scell).set k ((l.map scell)[k].set 0 (.string n)) := by
    rw [List.map_set, List.getElem_map]; rfl
  rw [e]
  exact this
/-- texts that are owned in blocks lo .. hi - 1 (or none) -/
def OwnS (lo hi : Nat) (a : Option Addr) (l : List ByteArray) (w : World) : Prop := l = [] ∨ ∃ R, lo ≤ R ∧ R < hi ∧ a = some ⟨R, 0, none⟩ ∧ SRow R l w
theorem OwnS.out {lo hi l2 h2 : Nat} {a : Option Addr} {l : List ByteArray} {w w' : World} (h : OwnS lo hi a l w) (g : Out l2 h2 w w') (hd : hi ≤ l2 ∨ h2 ≤ lo) : OwnS lo hi a l w' := by
  rcases h with h | ⟨R, h1, h3, e, hr⟩
  · exact Or.inl h
  · exact Or.inr ⟨R, h1, h3, e, hr.same g.size (g.block R hr.lt (by omega))⟩
theorem OwnS.below {lo hi : Nat} {a : Option Addr} {l : List ByteArray} {w w' : World} (h : OwnS lo hi a l w) (g : Below w.heap.size w w') : OwnS lo hi a l w' := by
  rcases h with h | ⟨R, h1, h3, e, hr⟩
  · exact Or.inl h
  · exact Or.inr ⟨R, h1, h3, e, hr.below g⟩
theorem OwnS.ss {lo hi : Nat} {a : Option Addr} {l : List ByteArray} {w : World} (h : OwnS lo hi a l w) : Ss w.heap.size a l w := by
  rcases h with rfl | ⟨R, h1, h3, rfl, hr⟩
  · exact ⟨fun h0 => absurd h0 (by simp)⟩
  · exact hr.sl hr.lt
end Go.Proofs.Ytiionfmpbifbcaa

/- Slices of truth values in memory. -/
import Derived.Test.YtaiilhhkfjlkoaaGRow
import Derived.Test.YtaiilhhkfjlkoaaOut
import Derived.WalkKit
import Derived.ProofKit
namespace Go.Proofs.Ytaiilhhkfjlkoaa
set_option maxRecDepth 100000
open Go Go.ChangeShapes Go.WideShapes Go.ChangeAt Go.RowKit
def bcell (n : Bool) : List Value := [.bool n]
/-- a slice of truth values in memory below block B -/
def Bs (B : Nat) (a : Option Addr) (l : List Bool) (w : World) : Prop := GSl B 1 a (l.map bcell) w
theorem Bs.cell {B : Nat} {a : Option Addr} {l : List Bool} {w : World} (h : Bs B a l w) (h0 : 0 < l.length) : ∃ b off, a = some ⟨b, off, none⟩ ∧ b < B ∧ ∀ i (hi : i < l.length), w.cell? ⟨b, off + i, none⟩ = some (.bool l[i]) := by
  obtain ⟨b, off, e, hb, hc⟩ := GSl.cell h (by simpa using h0)
  refine ⟨b, off, e, hb, fun i hi => ?_⟩
  have c0 := hc i (by simpa using hi) 0 (by decide)
  rw [List.getElem_map, Nat.mul_one, Nat.add_zero] at c0
  exact c0
theorem Bs.below {B : Nat} {a : Option Addr} {l : List Bool} {w w' : World} (h : Bs B a l w) (g : Below B w w') : Bs B a l w' := GSl.below h g
theorem Bs.mono {B B' : Nat} {a : Option Addr} {l : List Bool} {w : World} (h : Bs B a l w) (hB : B ≤ B') : Bs B' a l w := GSl.mono h hB
/-- a row of truth values that a call itself has made -/
def BRow (R : Nat) (l : List Bool) (w : World) : Prop := GRow R 1 (l.map bcell) w
theorem BRow.lt {R : Nat} {l : List Bool} {w : World} (h : BRow R l w) : R < w.heap.size := GRow.lt h
theorem BRow.cell {R : Nat} {l : List Bool} {w : World} (h : BRow R l w) (i : Nat) (hi : i < l.length) : w.cell? ⟨R, i, none⟩ = some (.bool l[i]) := by
  have c0 := GRow.cell h i (by simpa using hi) 0 (by decide)
  rw [List.getElem_map, Nat.mul_one, Nat.add_zero] at c0
  exact c0
theorem BRow.free {R : Nat} {l : List Bool} {w : World} (h : BRow R l w) (j : Nat) (hj : j < l.length) : w.frozen? ⟨R, j, none⟩ = false := GRow.free h j (by simpa using hj)
theorem BRow.below {R : Nat} {l : List Bool} {w w' : World} (h : BRow R l w) (hb : Below w.heap.size w w') : BRow R l w' := GRow.below h hb
theorem BRow.same {R : Nat} {l : List Bool} {w w' : World} (h : BRow R l w) (hs : w.heap.size ≤ w'.heap.size) (hb : w'.heap[R]? = w.heap[R]?) : BRow R l w' := GRow.same h hs hb
theorem BRow.sl {R B : Nat} {l : List Bool} {w : World} (h : BRow R l w) (hB : R < B) : Bs B (some ⟨R, 0, none⟩) l w := GRow.sl h hB
theorem BRow.set {R : Nat} {l : List Bool} {w : World} (h : BRow R l w) (k : Nat) (hk : k < l.length) (n : Bool) : BRow R (l.set k n) (w.setCell ⟨R, k, none⟩ (.bool n)) := by
  have hk' : k < (l.map bcell).length := by simpa using hk
  have := GRow.set h k 0 hk' (by decide) (.bool n)
  rw [Nat.mul_one, Nat.add_zero] at this
  unfold BRow
  have e : (l.set k n).map bcell = (l.map bcell).set k ((l.map bcell)[k].set 0 (.bool n)) := by
    rw [List.map_set, List.getElem_map]; rfl
  rw [e]
  exact this
/-- truth values that are owned in blocks lo .. hi - 1 (or none) -/
def OwnB (lo hi : Nat) (a : Option Addr) (l : List Bool) (w : World) : Prop := l = [] ∨ ∃ R, lo ≤ R ∧ R < hi ∧ a = some ⟨R, 0, none⟩ ∧ BRow R l w
theorem OwnB.out {lo hi l2 h2 : Nat} {a : Option Addr} {l : List Bool} {w w' : World} (h : OwnB lo hi a l w) (g : Out l2 h2 w w') (hd : hi ≤ l2 ∨ h2 ≤ lo) : OwnB lo hi a l w' := by
  rcases h with h | ⟨R, h1, h3, e, hr⟩
  · exact Or.inl h
  · exact Or.inr ⟨R, h1, h3, e, hr.same g.size (g.block R hr.lt (by omega))⟩
theorem OwnB.below {lo hi : Nat} {a : Option Addr} {l : List Bool} {w w' : World} (h : OwnB lo hi a l w) (g : Below w.heap.size w w') : OwnB lo hi a l w' := by
  rcases h with h | ⟨R, h1, h3, e, hr⟩
  · exact Or.inl h
  · exact Or.inr ⟨R, h1, h3, e, hr.below g⟩
theorem OwnB.bs {lo hi : Nat} {a : Option Addr} {l : List Bool} {w : World} (h : OwnB lo hi a l w) : Bs w.heap.size a l w := by
  rcases h with rfl | ⟨R, h1, h3, rfl, hr⟩
  · exact ⟨fun h0 => absurd h0 (by simp)⟩
  · exact hr.sl hr.lt
end Go.Proofs.Ytaiilhhkfjlkoaa
